import Derived.Test.YtfboipappaonhaaGreatV21
namespace Go.Proofs.YtfboipappaonhaaGreat
set_option linter.unusedSimpArgs false
set_option linter.unusedVariables false
set_option maxHeartbeats 16000000
set_option maxRecDepth 100000
open Go.RowKit
open Go.Deep (BT)
def sLv (ns:List OpR) (s:SyR):Int:=ZF ns (rt s.1 s.2)
def sH (ns:List OpR) (s:SyR) (b:Bool):Int:=zR ns (rt s.1 s.2) b
def sSo (ns:List OpR) (s:SyR):Int:=srt (opA ns (rt s.1 s.2)).k (opA ns (rt s.1 s.2)).sd
def knB (ns:List OpR) (s:SyR):Bool:=(fnd ns s.2 ((s.1:Int) - 2)).isSome
structure OpF (ns:List OpR) (s:SyR):Prop where
 lo:1 <= sLv ns s
 hi:sLv ns s <= 1000
 pre:s.1 = 3 -> sH ns s false = sLv ns s /\ sSo ns s = 2
 post:s.1 = 5 -> sH ns s false = sLv ns s /\ sSo ns s = 1
 mid:s.1 = 4 -> (sSo ns s = 1 /\ sH ns s false = sLv ns s /\ sH ns s true = sLv ns s + 1) \/ (sSo ns s = 2 /\ sH ns s false = sLv ns s + 1 /\ sH ns s true = sLv ns s) \/ (sSo ns s = 3 /\ sH ns s false = sLv ns s + 1 /\ sH ns s true = sLv ns s + 1)
theorem zCY {ns:List OpR} (h:zK ns 0):Z1 ns ns.length /\ ¬ Pr 4 ns:=by
 rcases h with ⟨h,_⟩ | ⟨_,⟨h,_⟩ | ⟨hok,⟨h,_⟩ | ⟨_,⟨h,_⟩ | ⟨_,h4⟩⟩⟩⟩
 ·exact absurd h (by decide)
 ·exact absurd h (by decide)
 ·exact absurd h (by decide)
 ·exact absurd h (by decide)
 ·exact ⟨hok,h4⟩
theorem zDb {ns:List OpR} {s:SyR} (hk:knB ns s = true):∃ j,j < ns.length /\ fnd ns s.2 ((s.1:Int) - 2) = some j /\ (atO ns j).k = (s.1:Int) - 2 /\ opA ns (rt s.1 s.2) = atO ns j:=by
 unfold knB at hk
 obtain ⟨j,hj⟩:=Option.isSome_iff_exists.1 hk
 have:=Zg hj
 refine ⟨j,this.1,hj,this.2.2,?_⟩
 unfold opA rt
 simp only
 rw [hj]
theorem opF {ns:List OpR} (h:zK ns 0) {s:SyR} (hs:s.1 = 3 \/ s.1 = 4 \/ s.1 = 5) (hk:knB ns s = true):OpF ns s:=by
 obtain ⟨j,hj,hf,hkk,ho⟩:=zDb hk
 have hok:=(zCY h).1 j hj
 have hlv:sLv ns s = (atO ns j).l:=by
  unfold sLv ZF rt
  simp only
  rw [if_pos (by omega),hf]
 have hh:∀ b,sH ns s b = zk (atO ns j).s (atO ns j).k (atO ns j).l (atO ns j).sd b:=fun b=>by
  unfold sH zR rt
  simp only
  rw [hf]
  rfl
 have hso:sSo ns s = srt (atO ns j).k (atO ns j).sd:=by unfold sSo; rw [ho]
 have hok':okB (atO ns j).s (atO ns j).k (atO ns j).l (atO ns j).sd = true:=hok
 have hok2:=hok'
 unfold okB zEQ at hok2
 simp only [Bool.and_eq_true,Bool.or_eq_true,decide_eq_true_eq,beq_iff_eq] at hok2
 obtain ⟨⟨⟨_,h1⟩,h2⟩,h3⟩:=hok2
 refine ⟨by omega,by omega,fun e=>?_,fun e=>?_,fun e=>?_⟩
 ·have k1:(atO ns j).k = 1:=by omega
  rw [hh,hlv,hso,zk,srt,k1]
  simp_all
 ·have k1:(atO ns j).k = 3:=by omega
  rw [hh,hlv,hso,zk,srt,k1]
  simp_all
 ·have k1:(atO ns j).k = 2:=by omega
  rw [hh,hh,hlv,hso,zk,zk,srt,k1]
  rw [k1] at hok' h3
  rw [hok']
  have h3':(atO ns j).sd = 1 \/ (atO ns j).sd = 2 \/ (atO ns j).sd = 3:=by simp at h3; omega
  rcases h3' with e | e | e <;> simp [zHk,e]
theorem zGU {ns:List OpR} (h:zK ns 0) {s s':SyR} (hs:s.1 = 3 \/ s.1 = 4 \/ s.1 = 5) (hs':s'.1 = 3 \/ s'.1 = 4 \/ s'.1 = 5) (hk:knB ns s = true) (hk':knB ns s' = true) (he:sLv ns s = sLv ns s'):sSo ns s = sSo ns s':=by
 obtain ⟨j,hj,hf,hkk,ho⟩:=zDb hk
 obtain ⟨j',hj',hf',hkk',ho'⟩:=zDb hk'
 have hlv:sLv ns s = (atO ns j).l:=by unfold sLv ZF rt; simp only; rw [if_pos (by omega),hf]
 have hlv':sLv ns s' = (atO ns j').l:=by unfold sLv ZF rt; simp only; rw [if_pos (by omega),hf']
 unfold sSo
 rw [ho,ho']
 by_cases hd:srt (atO ns j).k (atO ns j).sd = srt (atO ns j').k (atO ns j').sd
 ·exact hd
 ·exfalso
  apply (zCY h).2
  rcases Nat.lt_trichotomy j j' with e | e | e
  ·exact ⟨j',j,e,hj',by simp [cl]; exact ⟨by omega,fun x=>hd x.symm⟩⟩
  ·subst e; exact absurd rfl hd
  ·exact ⟨j,j',e,hj,by simp [cl]; exact ⟨by omega,hd⟩⟩
def lvT (ns:List OpR):ET -> Int
 | .nil=>1001
 | .node b _ t _ _=>sLv ns (b,t)
def zh (ns:List OpR):ET -> Prop
 | .nil=>False
 | .node b o t l r=>o = 0 /\ (((b = 1 \/ b = 2) /\ l = .nil /\ r = .nil) \/
   (b = 6 /\ t = ByteArray.empty /\ zh ns l /\ r = .nil) \/
   ((b = 3 \/ b = 5) /\ knB ns (b,t) = true /\ zh ns l /\ r = .nil /\ sH ns (b,t) false <= lvT ns l) \/
   (b = 4 /\ knB ns (b,t) = true /\ zh ns l /\ zh ns r /\ sH ns (b,t) false <= lvT ns l /\ sH ns (b,t) true <= lvT ns r))
theorem Zz (ns:List OpR) (b:Nat) (t:ByteArray) (h:¬ (b = 3 \/ b = 4 \/ b = 5)):sLv ns (b,t) = 1001:=by
 unfold sLv ZF rt
 simp only
 rw [if_neg (by omega)]
theorem zh.sh {ns:List OpR}:∀ {T:ET},zh ns T -> Sh T
 | .nil,h=>h.elim
 | .node b o t l r,⟨h0,h⟩=>by
  refine ⟨h0,?_⟩
  rcases h with ⟨h | h,rfl,rfl⟩ | ⟨rfl,_,hl,rfl⟩ | ⟨h | h,_,hl,rfl,_⟩ | ⟨rfl,_,hl,hr,_⟩
  ·subst h; exact Or.inl ⟨by decide,rfl,rfl⟩
  ·subst h; exact Or.inl ⟨by decide,rfl,rfl⟩
  ·exact Or.inr (Or.inl ⟨by decide,hl.sh,rfl⟩)
  ·subst h; exact Or.inr (Or.inl ⟨by decide,hl.sh,rfl⟩)
  ·subst h; exact Or.inr (Or.inl ⟨by decide,hl.sh,rfl⟩)
  ·exact Or.inr (Or.inr ⟨by decide,hl.sh,hr.sh⟩)
def rd (ns:List OpR):Nat -> Int -> Option ET -> List SyR -> Option (ET × List SyR)
 | 0,_,_,_=>none
 | _ + 1,_,none,[]=>none
 | n + 1,least,none,s :: r=>
  if s.1 = 3 then (if sLv ns s < least then none else (match rd ns n (sH ns s false) none r with
   | none=>none
   | some x=>rd ns n least (some (.node 3 0 s.2 x.1 .nil)) x.2))
  else if s.1 = 6 then (match rd ns n 0 none r with
   | none=>none
   | some x=>rd ns n least (some (.node 6 0 ByteArray.empty x.1 .nil)) x.2.tail)
  else rd ns n least (some (.node s.1 0 s.2 .nil .nil)) r
 | _ + 1,_,some T,[]=>some (T,[])
 | n + 1,least,some T,s :: r=>
  if s.1 = 4 /\ least <= sLv ns s then (if lvT ns T < sH ns s false then none else (match rd ns n (sH ns s true) none r with
   | none=>none
   | some x=>rd ns n least (some (.node 4 0 s.2 T x.1)) x.2))
  else if s.1 = 5 /\ least <= sLv ns s then (if lvT ns T < sH ns s false then none else rd ns n least (some (.node 5 0 s.2 T .nil)) r)
  else some (T,s :: r)
theorem Z9 (ns:List OpR):∀ n least md ss x,rd ns n least md ss = some x -> x.2.length <= ss.length
 | 0,_,_,_,_,h=>by simp [rd] at h
 | n + 1,least,none,[],x,h=>by simp [rd] at h
 | n + 1,least,none,s :: r,x,h=>by
  simp only [rd] at h
  split at h
  ·split at h
   ·cases h
   ·split at h
    ·cases h
    ·rename_i y hy
     have h1:=Z9 ns n _ _ _ _ hy
     have h2:=Z9 ns n _ _ _ _ h
     simp only [List.length_cons]; omega
  ·split at h
   ·split at h
    ·cases h
    ·rename_i y hy
     have h1:=Z9 ns n _ _ _ _ hy
     have h2:=Z9 ns n _ _ _ _ h
     have h3:y.2.tail.length <= y.2.length:=by simp
     simp only [List.length_cons]; omega
   ·have h2:=Z9 ns n _ _ _ _ h
    simp only [List.length_cons]; omega
 | n + 1,least,some T,[],x,h=>by
  simp only [rd,Option.some.injEq] at h
  subst h; simp
 | n + 1,least,some T,s :: r,x,h=>by
  simp only [rd] at h
  split at h
  ·split at h
   ·cases h
   ·split at h
    ·cases h
    ·rename_i y hy
     have h1:=Z9 ns n _ _ _ _ hy
     have h2:=Z9 ns n _ _ _ _ h
     simp only [List.length_cons]; omega
  ·split at h
   ·split at h
    ·cases h
    ·have h2:=Z9 ns n _ _ _ _ h
     simp only [List.length_cons]; omega
   ·simp only [Option.some.injEq] at h
    subst h; simp
theorem zDc (ns:List OpR):∀ n m least md ss,ss.length < n -> ss.length < m -> rd ns n least md ss = rd ns m least md ss
 | 0,_,_,_,_,h,_=>absurd h (Nat.not_lt_zero _)
 | _ + 1,0,_,_,_,_,h=>absurd h (Nat.not_lt_zero _)
 | n + 1,m + 1,least,none,[],_,_=>by simp [rd]
 | n + 1,m + 1,least,some T,[],_,_=>by simp [rd]
 | n + 1,m + 1,least,none,s :: r,h,h'=>by
  simp only [List.length_cons] at h h'
  have e1:=fun l=>zDc ns n m l none r (by omega) (by omega)
  have e2:=fun l md q=>fun (hq:q.length <= r.length)=>zDc ns n m l md q (by omega) (by omega)
  simp only [rd,e1]
  split
  ·split
   ·rfl
   ·cases hy:rd ns m (sH ns s false) none r with
    | none=>rfl
    | some y=>exact e2 _ _ _ (Z9 ns m _ _ _ _ hy)
  ·split
   ·cases hy:rd ns m 0 none r with
    | none=>rfl
    | some y=>exact e2 _ _ _ (by have:=Z9 ns m _ _ _ _ hy; simp; omega)
   ·exact e2 _ _ _ (Nat.le_refl _)
 | n + 1,m + 1,least,some T,s :: r,h,h'=>by
  simp only [List.length_cons] at h h'
  have e1:=fun l=>zDc ns n m l none r (by omega) (by omega)
  have e2:=fun l md q=>fun (hq:q.length <= r.length)=>zDc ns n m l md q (by omega) (by omega)
  simp only [rd,e1]
  split
  ·split
   ·rfl
   ·cases hy:rd ns m (sH ns s true) none r with
    | none=>rfl
    | some y=>exact e2 _ _ _ (Z9 ns m _ _ _ _ hy)
  ·split
   ·split
    ·rfl
    ·exact e2 _ _ _ (Nat.le_refl _)
   ·rfl
def RD (ns:List OpR) (least:Int) (md:Option ET) (ss:List SyR):Option (ET × List SyR):=rd ns (ss.length + 1) least md ss
theorem zNL (ns:List OpR) (n:Nat) (least:Int) (md:Option ET) (ss:List SyR) (h:ss.length < n):rd ns n least md ss = RD ns least md ss:=
 zDc ns _ _ _ _ _ h (Nat.lt_succ_self _)
theorem zEv (ns:List OpR) (least:Int) (s:SyR) (r:List SyR):RD ns least none (s :: r) =
  if s.1 = 3 then (if sLv ns s < least then none else (match RD ns (sH ns s false) none r with
   | none=>none
   | some x=>RD ns least (some (.node 3 0 s.2 x.1 .nil)) x.2))
  else if s.1 = 6 then (match RD ns 0 none r with
   | none=>none
   | some x=>RD ns least (some (.node 6 0 ByteArray.empty x.1 .nil)) x.2.tail)
  else RD ns least (some (.node s.1 0 s.2 .nil .nil)) r:=by
 have e:RD ns least none (s :: r) = rd ns (r.length + 1 + 1) least none (s :: r):=rfl
 have e1:∀ l,rd ns (r.length + 1) l none r = RD ns l none r:=fun l=>rfl
 have e2:∀ l md q,q.length <= r.length -> rd ns (r.length + 1) l md q = RD ns l md q:=fun l md q hq=>zNL ns _ l md q (by omega)
 rw [e]
 simp only [rd,e1]
 split
 ·split
  ·rfl
  ·cases hy:RD ns (sH ns s false) none r with
   | none=>rfl
   | some y=>exact e2 _ _ _ (Z9 ns _ _ _ _ _ hy)
 ·split
  ·cases hy:RD ns 0 none r with
   | none=>rfl
   | some y=>exact e2 _ _ _ (by have:=Z9 ns _ _ _ _ _ hy; simp; omega)
  ·rfl
theorem zEw (ns:List OpR) (least:Int) (T:ET) (s:SyR) (r:List SyR):RD ns least (some T) (s :: r) =
  if s.1 = 4 /\ least <= sLv ns s then (if lvT ns T < sH ns s false then none else (match RD ns (sH ns s true) none r with
   | none=>none
   | some x=>RD ns least (some (.node 4 0 s.2 T x.1)) x.2))
  else if s.1 = 5 /\ least <= sLv ns s then (if lvT ns T < sH ns s false then none else RD ns least (some (.node 5 0 s.2 T .nil)) r)
  else some (T,s :: r):=by
 have e:RD ns least (some T) (s :: r) = rd ns (r.length + 1 + 1) least (some T) (s :: r):=rfl
 have e1:∀ l,rd ns (r.length + 1) l none r = RD ns l none r:=fun l=>rfl
 have e2:∀ l md q,q.length <= r.length -> rd ns (r.length + 1) l md q = RD ns l md q:=fun l md q hq=>zNL ns _ l md q (by omega)
 rw [e]
 simp only [rd,e1]
 split
 ·split
  ·rfl
  ·cases hy:RD ns (sH ns s true) none r with
   | none=>rfl
   | some y=>exact e2 _ _ _ (Z9 ns _ _ _ _ _ hy)
 ·split
  ·split
   ·rfl
   ·rfl
  ·rfl
def zEV (ns:List OpR) (least:Int) (ss:List SyR):Prop:=∀ s r,ss = s :: r -> (s.1 = 4 \/ s.1 = 5) -> sLv ns s < least
theorem zEx {ns:List OpR} {least:Int} {ss:List SyR} (h:zEV ns least ss) (T:ET):RD ns least (some T) ss = some (T,ss):=by
 cases ss with
 | nil=>rfl
 | cons s r=>
  have hs:=h s r rfl
  rw [zEw,if_neg (fun x=>by have:=hs (Or.inl x.1); omega),if_neg (fun x=>by have:=hs (Or.inr x.1); omega)]
def zGV (ns:List OpR):ET -> List SyR -> Prop
 | .nil,_=>True
 | .node b _ t l r,ss=>(b = 3 -> zEV ns (sH ns (b,t) false) ss /\ zGV ns l ss) /\ (b = 4 -> zEV ns (sH ns (b,t) true) ss /\ zGV ns r ss)
theorem zCF {ns:List OpR} {least:Int} {s:SyR} {r:List SyR} (h:¬ (s.1 = 4 \/ s.1 = 5)):zEV ns least (s :: r):=fun s' r' e hs=>by
 injection e with e1 e2
 subst e1
 exact absurd hs h
theorem zBP {ns:List OpR} {s:SyR} {r:List SyR} (h:¬ (s.1 = 4 \/ s.1 = 5)):∀ T:ET,zGV ns T (s :: r)
 | .nil=>trivial
 | .node b o t l q=>⟨fun _=>⟨zCF h,zBP h l⟩,fun _=>⟨zCF h,zBP h q⟩⟩
theorem zEW {ns:List OpR} (hv:zK ns 0) {q:SyR} {r:List SyR}:∀ T:ET,zh ns T -> sLv ns q < lvT ns T -> zGV ns T (q :: r):=by
 intro T
 induction T with
 | nil=>intro h; exact h.elim
 | node b o t l rr ihl ihr=>
  rintro ⟨_,h⟩ hq
  have st:∀ m:Int,sLv ns q < m -> zEV ns m (q :: r):=fun m hm s' r' e _=>by
   injection e with e1 e2
   subst e1
   exact hm
  refine ⟨fun e=>?_,fun e=>?_⟩
  ·subst e
   rcases h with ⟨h | h,_⟩ | ⟨h,_⟩ | ⟨_,hk,hl,_,hh⟩ | ⟨h,_⟩
   ·omega
   ·omega
   ·omega
   ·have f:=(opF hv (Or.inl rfl) hk).pre rfl
    simp only [lvT] at hq
    exact ⟨st _ (by omega),ihl hl (by omega)⟩
   ·omega
  ·subst e
   rcases h with ⟨h | h,_⟩ | ⟨h,_⟩ | ⟨h | h,_⟩ | ⟨_,hk,hl,hr,h1,h2⟩
   ·omega
   ·omega
   ·omega
   ·omega
   ·omega
   ·have f:=(opF hv (Or.inr (Or.inl rfl)) hk).mid rfl
    simp only [lvT] at hq
    exact ⟨st _ (by omega),ihr hr (by omega)⟩
theorem zGW {ns:List OpR} (hv:zK ns 0) {q:SyR} {r:List SyR} (hq:q.1 = 4 \/ q.1 = 5) (hkq:knB ns q = true):∀ T:ET,zh ns T -> sH ns q false <= lvT ns T -> zGV ns T (q :: r):=by
 intro T hT hle
 have fq:=opF hv (by omega) hkq
 have hh:sH ns q false = sLv ns q + 1 \/ (sH ns q false = sLv ns q /\ sSo ns q = 1):=by
  rcases hq with e | e
  ·rcases fq.mid e with h | h | h
   ·exact Or.inr ⟨h.2.1,h.1⟩
   ·exact Or.inl h.2.1
   ·exact Or.inl h.2.1
  ·exact Or.inr (fq.post e)
 by_cases hlt:sLv ns q < lvT ns T
 ·exact zEW hv T hT hlt
 ·have heq:lvT ns T = sLv ns q /\ sSo ns q = 1:=by
   rcases hh with h | ⟨h,h'⟩
   ·omega
   ·exact ⟨by omega,h'⟩
  cases T with
  | nil=>exact hT.elim
  | node b o t l rr=>
   obtain ⟨_,h⟩:=hT
   simp only [lvT] at heq
   have st:∀ m:Int,sLv ns q < m -> zEV ns m (q :: r):=fun m hm s' r' e _=>by
    injection e with e1 e2
    subst e1
    exact hm
   refine ⟨fun e=>?_,fun e=>?_⟩
   ·subst e
    rcases h with ⟨h | h,_⟩ | ⟨h,_⟩ | ⟨_,hk,hl,_,hh⟩ | ⟨h,_⟩
    ·omega
    ·omega
    ·omega
    ·have f:=(opF hv (Or.inl rfl) hk).pre rfl
     have:=zGU hv (s:=(3,t)) (s':=q) (Or.inl rfl) (by omega) hk hkq heq.1
     omega
    ·omega
   ·subst e
    rcases h with ⟨h | h,_⟩ | ⟨h,_⟩ | ⟨h | h,_⟩ | ⟨_,hk,hl,hr,h1,h2⟩
    ·omega
    ·omega
    ·omega
    ·omega
    ·omega
    ·have f:=(opF hv (Or.inr (Or.inl rfl)) hk).mid rfl
     have:=zGU hv (s:=(4,t)) (s':=q) (Or.inr (Or.inl rfl)) (by omega) hk hkq heq.1
     have e2:sH ns (4,t) true = sLv ns (4,t) + 1:=by
      rcases f with h | h | h
      ·exact h.2.2
      ·omega
      ·omega
     exact ⟨st _ (by omega),zEW hv rr hr (by omega)⟩
theorem zLH {ns:List OpR} (hv:zK ns 0):∀ (T:ET),zh ns T -> ∀ (least:Int) (rest:List SyR),least <= lvT ns T -> zGV ns T rest -> RD ns least none (ySy T ++ rest) = RD ns least (some T) rest:=by
 intro T
 induction T with
 | nil=>intro h; exact h.elim
 | node b o t l r ihl ihr=>
  rintro ⟨rfl,h⟩ least rest hle hst
  simp only [lvT] at hle
  rcases h with ⟨h12,rfl,rfl⟩ | ⟨rfl,rfl,hl,rfl⟩ | ⟨h35,hk,hl,rfl,hh⟩ | ⟨rfl,hk,hl,hr,h1,h2⟩
  ·have e:ySy (.node b 0 t .nil .nil) = [(b,t)]:=by
    simp only [ySy]
    rw [if_neg (by omega),if_neg (by omega),if_neg (by omega),if_neg (by omega)]
   rw [e]
   show RD ns least none ((b,t) :: rest) = _
   rw [zEv]
   simp only
   rw [if_neg (by omega),if_neg (by omega)]
  ·have e:ySy (.node 6 0 ByteArray.empty l .nil) ++ rest = (6,opn) :: (ySy l ++ ((7,zA5) :: rest)):=by
    simp [ySy]
   rw [e,zEv]
   simp only
   rw [if_neg (by decide),if_pos trivial]
   have hs:¬ ((7,zA5):SyR).1 = 4 /\ ¬ ((7,zA5):SyR).1 = 5:=⟨by decide,by decide⟩
   have h0:(0:Int) <= lvT ns l:=by
    cases l with
    | nil=>exact hl.elim
    | node bb oo tt ll rr=>
     simp only [lvT]
     by_cases hb:bb = 3 \/ bb = 4 \/ bb = 5
     ·have hkn:knB ns (bb,tt) = true:=by
       rcases hl.2 with ⟨h | h,_⟩ | ⟨h,_⟩ | ⟨_,hk,_⟩ | ⟨_,hk,_⟩
       ·omega
       ·omega
       ·omega
       ·exact hk
       ·exact hk
      have:=(opF hv (s:=(bb,tt)) hb hkn).lo
      omega
     ·rw [Zz ns bb tt hb]; omega
   rw [ihl hl 0 _ h0 (zBP (by omega) l),zEx (zCF (by omega))]
   rfl
  ·rcases h35 with rfl | rfl
   ·have f:=(opF hv (Or.inl rfl) hk).pre rfl
    have e:ySy (.node 3 0 t l .nil) ++ rest = (3,t) :: (ySy l ++ rest):=by simp [ySy]
    obtain ⟨hst1,hst2⟩:=hst.1 rfl
    rw [e,zEv]
    simp only
    rw [if_pos trivial,if_neg (by omega),ihl hl _ rest hh hst2,zEx hst1]
   ·have f:=(opF hv (Or.inr (Or.inr rfl)) hk).post rfl
    have e:ySy (.node 5 0 t l .nil) ++ rest = ySy l ++ ((5,t) :: rest):=by simp [ySy]
    rw [e,ihl hl least _ (by omega) (zGW hv (q:=(5,t)) (Or.inr rfl) hk l hl hh),zEw]
    simp only
    rw [if_neg (by omega),if_pos ⟨trivial,hle⟩,if_neg (by omega)]
  ·have f:=(opF hv (Or.inr (Or.inl rfl)) hk).mid rfl
   have e:ySy (.node 4 0 t l r) ++ rest = ySy l ++ ((4,t) :: (ySy r ++ rest)):=by simp [ySy]
   obtain ⟨hst1,hst2⟩:=hst.2 rfl
   rw [e,ihl hl least _ (by omega) (zGW hv (q:=(4,t)) (Or.inl rfl) hk l hl h1),zEw]
   simp only
   rw [if_pos ⟨trivial,hle⟩,if_neg (by omega),ihr hr _ rest h2 hst2,zEx hst1]
def zAN (ns:List OpR):ET -> Prop
 | .nil=>False
 | .node b o t l r=>o = 0 /\ (((b = 1 \/ b = 2) /\ l = .nil /\ r = .nil) \/ (b = 6 /\ t = ByteArray.empty /\ zAN ns l /\ r = .nil) \/ ((b = 3 \/ b = 5) /\ knB ns (b,t) = true /\ zAN ns l /\ r = .nil) \/ (b = 4 /\ knB ns (b,t) = true /\ zAN ns l /\ zAN ns r))
theorem zh.well {ns:List OpR}:∀ {T:ET},zh ns T -> zAN ns T
 | .nil,h=>h
 | .node b o t l r,⟨h0,h⟩=>by
  refine ⟨h0,?_⟩
  rcases h with h | ⟨h1,h2,hl,h3⟩ | ⟨h1,h2,hl,h3,_⟩ | ⟨h1,h2,hl,hr,_⟩
  ·exact Or.inl h
  ·exact Or.inr (Or.inl ⟨h1,h2,hl.well,h3⟩)
  ·exact Or.inr (Or.inr (Or.inl ⟨h1,h2,hl.well,h3⟩))
  ·exact Or.inr (Or.inr (Or.inr ⟨h1,h2,hl.well,hr.well⟩))
theorem zAN.sh {ns:List OpR}:∀ {T:ET},zAN ns T -> Sh T
 | .nil,h=>h.elim
 | .node b o t l r,⟨h0,h⟩=>by
  refine ⟨h0,?_⟩
  rcases h with ⟨h | h,rfl,rfl⟩ | ⟨rfl,_,hl,rfl⟩ | ⟨h | h,_,hl,rfl⟩ | ⟨rfl,_,hl,hr⟩
  ·subst h; exact Or.inl ⟨by decide,rfl,rfl⟩
  ·subst h; exact Or.inl ⟨by decide,rfl,rfl⟩
  ·exact Or.inr (Or.inl ⟨by decide,hl.sh,rfl⟩)
  ·subst h; exact Or.inr (Or.inl ⟨by decide,hl.sh,rfl⟩)
  ·subst h; exact Or.inr (Or.inl ⟨by decide,hl.sh,rfl⟩)
  ·exact Or.inr (Or.inr ⟨by decide,hl.sh,hr.sh⟩)
theorem zDd {ns:List OpR} {b:Nat} {t:ByteArray} (h:knB ns (b,t) = true):(opA ns (rt b t)).s = t:=by
 obtain ⟨j,hj,hf,hk,ho⟩:=zDb h
 rw [ho]
 exact (Zg hf).2.1
theorem zKC {ns:List OpR} {xs:List zD} (htx:∀ i,i < xs.length -> Za (atN xs i)) (hkn:zAL ns xs):∀ (T:ET) (s:Nat),Sh T -> zBc xs T s -> s + tsz T <= xs.length -> zAN ns T:=by
 intro T
 induction T with
 | nil=>intro s h; exact h.elim
 | node b o t l r ihl ihr=>
  rintro s ⟨h0,hsh⟩ ⟨h1,h2,h3⟩ hz
  simp only [tsz] at hz
  have hi:s + tsz l + tsz r < xs.length:=by omega
  have ht:=htx _ hi
  have hk:=hkn _ hi
  rw [h3] at ht hk
  have hk':zn (tN b t l r s) -> knB ns (b,t) = true:=fun hop=>by
   have:=hk hop
   unfold knB
   cases e:fnd ns t ((b:Int) - 2) with
   | none=>exact absurd e this
   | some j=>rfl
  refine ⟨h0,?_⟩
  rcases ht.2 with ⟨e,_⟩ | ⟨e,_⟩ | ⟨e,e2⟩ | ⟨e,_⟩
  ·have e':b = 1:=by simp only [tN] at e; omega
   subst e'
   rcases hsh with ⟨_,hl,hr⟩ | ⟨hk,_⟩ | ⟨hk,_⟩
   ·exact Or.inl ⟨Or.inl rfl,hl,hr⟩
   ·exact absurd hk (by decide)
   ·exact absurd hk (by decide)
  ·have e':b = 2:=by simp only [tN] at e; omega
   subst e'
   rcases hsh with ⟨_,hl,hr⟩ | ⟨hk,_⟩ | ⟨hk,_⟩
   ·exact Or.inl ⟨Or.inr rfl,hl,hr⟩
   ·exact absurd hk (by decide)
   ·exact absurd hk (by decide)
  ·have e':b = 6:=by simp only [tN] at e; omega
   subst e'
   rcases hsh with ⟨hk,_⟩ | ⟨_,hl,hr⟩ | ⟨hk,_⟩
   ·exact absurd hk (by decide)
   ·subst hr
    refine Or.inr (Or.inl ⟨rfl,?_,ihl s hl h1 (by omega),rfl⟩)
    have:t.size = 0:=e2
    exact ByteArray.size_eq_zero_iff.1 this
   ·exact absurd hk (by decide)
  ·rcases e with e | e | e
   ·have e':b = 3:=by simp only [tN] at e; omega
    subst e'
    rcases hsh with ⟨hk,_⟩ | ⟨_,hl,hr⟩ | ⟨hk,_⟩
    ·exact absurd hk (by decide)
    ·subst hr
     exact Or.inr (Or.inr (Or.inl ⟨Or.inl rfl,hk' ⟨by simp [tN],by simp [tN]⟩,ihl s hl h1 (by omega),rfl⟩))
    ·exact absurd hk (by decide)
   ·have e':b = 4:=by simp only [tN] at e; omega
    subst e'
    rcases hsh with ⟨hk,_⟩ | ⟨hk,_⟩ | ⟨_,hl,hr⟩
    ·exact absurd hk (by decide)
    ·exact absurd hk (by decide)
    ·exact Or.inr (Or.inr (Or.inr ⟨rfl,hk' ⟨by simp [tN],by simp [tN]⟩,ihl s hl h1 (by omega),ihr _ hr h2 (by omega)⟩))
   ·have e':b = 5:=by simp only [tN] at e; omega
    subst e'
    rcases hsh with ⟨hk,_⟩ | ⟨_,hl,hr⟩ | ⟨hk,_⟩
    ·exact absurd hk (by decide)
    ·subst hr
     exact Or.inr (Or.inr (Or.inl ⟨Or.inr rfl,hk' ⟨by simp [tN],by simp [tN]⟩,ihl s hl h1 (by omega),rfl⟩))
    ·exact absurd hk (by decide)
theorem zEX {ns:List OpR} {xs:List zD} (h:zl xs) (hkn:zAL ns xs):∃ T,zAN ns T /\ tsz T = xs.length /\ xs = nd T 0:=by
 obtain ⟨T,hs,hz,hx⟩:=zH0 h
 refine ⟨T,zKC h.2.2.2 hkn T 0 hs (by rw [hx]; exact Zy T) (by omega),hz,hx⟩
theorem zLI {ns:List OpR} (hv:zK ns 0):∀ (T:ET) (l:Int),zAN ns T -> l <= 1001 -> zh ns (grT ns T l) /\ l <= lvT ns (grT ns T l):=by
 intro T
 induction T with
 | nil=>intro l h; exact h.elim
 | node b o t l r ihl ihr=>
  rintro least ⟨h0,h⟩ hle
  simp only [grT]
  split
  ·rename_i h6
   subst h6
   rcases h with ⟨h | h,_⟩ | ⟨_,_,hl,_⟩ | ⟨h | h,_⟩ | ⟨h,_⟩
   ·omega
   ·omega
   ·exact ihl _ hl hle
   ·omega
   ·omega
   ·omega
  ·rename_i h6
   have:zh ns (.node b 0 t (grT ns l (zR ns (rt b t) false)) (grT ns r (zR ns (rt b t) true))):=by
    refine ⟨rfl,?_⟩
    rcases h with ⟨h,rfl,rfl⟩ | ⟨h,_⟩ | ⟨h,hk,hl,rfl⟩ | ⟨h,hk,hl,hr⟩
    ·exact Or.inl ⟨h,rfl,rfl⟩
    ·exact absurd h h6
    ·have f:=opF hv (s:=(b,t)) (by omega) hk
     have f1:=f.hi
     have f2:=f.pre
     have f3:=f.post
     have hh:zR ns (rt b t) false <= 1001:=by
      show sH ns (b,t) false <= 1001
      rcases h with h | h
      ·have:=f2 h; omega
      ·have:=f3 h; omega
     obtain ⟨g,hg⟩:=ihl _ hl hh
     exact Or.inr (Or.inr (Or.inl ⟨h,hk,g,rfl,hg⟩))
    ·have f:=opF hv (s:=(b,t)) (by omega) hk
     have f1:=f.hi
     have f2:=f.mid h
     have hh:zR ns (rt b t) false <= 1001:=by show sH ns (b,t) false <= 1001; omega
     have hh2:zR ns (rt b t) true <= 1001:=by show sH ns (b,t) true <= 1001; omega
     obtain ⟨g,hg⟩:=ihl _ hl hh
     obtain ⟨g2,hg2⟩:=ihr _ hr hh2
     exact Or.inr (Or.inr (Or.inr ⟨h,hk,g,g2,hg,hg2⟩))
   unfold clT
   split
   ·refine ⟨⟨rfl,Or.inr (Or.inl ⟨rfl,rfl,this,rfl⟩)⟩,?_⟩
    simp only [lvT]
    rw [Zz ns 6 _ (by omega)]
    exact hle
   ·rename_i hn
    refine ⟨this,?_⟩
    simp only [lvT]
    show least <= ZF ns (rt b t)
    omega
end Go.Proofs.YtfboipappaonhaaGreat
