import Derived.Test.YtokabkhnidlcnacGreatDoorM12
namespace Go.Proofs.YtokabkhnidlcnacGreatDoor
set_option linter.unusedSimpArgs false
set_option linter.unusedVariables false
set_option maxHeartbeats 16000000
set_option maxRecDepth 100000
open Go.RowKit
open Go.Deep (BT)
def sLv (ns:List OpR) (s:SyR):Int:=zCI ns (rt s.1 s.2)
def sH (ns:List OpR) (s:SyR) (b:Bool):Int:=zLK ns (rt s.1 s.2) b
def sSo (ns:List OpR) (s:SyR):Int:=srt (opA ns (rt s.1 s.2)).k (opA ns (rt s.1 s.2)).sd
def knB (ns:List OpR) (s:SyR):Bool:=(fnd ns s.2 ((s.1:Int) - 2)).isSome
structure OpF (ns:List OpR) (s:SyR):Prop where
 lo:1 <= sLv ns s
 hi:sLv ns s <= 1000
 pre:s.1 = 3 -> sH ns s false = sLv ns s /\ sSo ns s = 2
 post:s.1 = 5 -> sH ns s false = sLv ns s /\ sSo ns s = 1
 mid:s.1 = 4 -> (sSo ns s = 1 /\ sH ns s false = sLv ns s /\ sH ns s true = sLv ns s + 1) \/ (sSo ns s = 2 /\ sH ns s false = sLv ns s + 1 /\ sH ns s true = sLv ns s) \/ (sSo ns s = 3 /\ sH ns s false = sLv ns s + 1 /\ sH ns s true = sLv ns s + 1)
theorem zFG {ns:List OpR} (h:zL ns 0):zBx ns ns.length /\ ¬ Pr 4 ns:=by
 rcases h with ⟨h,_⟩ | ⟨_,⟨h,_⟩ | ⟨hok,⟨h,_⟩ | ⟨_,⟨h,_⟩ | ⟨_,h4⟩⟩⟩⟩
 ·exact absurd h (by decide)
 ·exact absurd h (by decide)
 ·exact absurd h (by decide)
 ·exact absurd h (by decide)
 ·exact ⟨hok,h4⟩
theorem zLM {ns:List OpR} {s:SyR} (hk:knB ns s = true):∃ j,j < ns.length /\ fnd ns s.2 ((s.1:Int) - 2) = some j /\ (atO ns j).k = (s.1:Int) - 2 /\ opA ns (rt s.1 s.2) = atO ns j:=by
 unfold knB at hk
 obtain ⟨j,hj⟩:=Option.isSome_iff_exists.1 hk
 have:=zAp hj
 refine ⟨j,this.1,hj,this.2.2,?_⟩
 unfold opA rt
 simp only
 rw [hj]
theorem opF {ns:List OpR} (h:zL ns 0) {s:SyR} (hs:s.1 = 3 \/ s.1 = 4 \/ s.1 = 5) (hk:knB ns s = true):OpF ns s:=by
 obtain ⟨j,hj,hf,hkk,ho⟩:=zLM hk
 have hok:=(zFG h).1 j hj
 have hlv:sLv ns s = (atO ns j).l:=by
  unfold sLv zCI rt
  simp only
  rw [if_pos (by omega),hf]
 have hh:∀ b,sH ns s b = ZJ (atO ns j).s (atO ns j).k (atO ns j).l (atO ns j).sd b:=fun b=>by
  unfold sH zLK rt
  simp only
  rw [hf]
  rfl
 have hso:sSo ns s = srt (atO ns j).k (atO ns j).sd:=by unfold sSo; rw [ho]
 have hok':okB (atO ns j).s (atO ns j).k (atO ns j).l (atO ns j).sd = true:=hok
 have hok2:=hok'
 unfold okB zE6 at hok2
 simp only [Bool.and_eq_true,Bool.or_eq_true,decide_eq_true_eq,beq_iff_eq] at hok2
 obtain ⟨⟨⟨_,h1⟩,h2⟩,h3⟩:=hok2
 refine ⟨by omega,by omega,fun e=>?_,fun e=>?_,fun e=>?_⟩
 ·have k1:(atO ns j).k = 1:=by omega
  rw [hh,hlv,hso,ZJ,srt,k1]
  simp_all
 ·have k1:(atO ns j).k = 3:=by omega
  rw [hh,hlv,hso,ZJ,srt,k1]
  simp_all
 ·have k1:(atO ns j).k = 2:=by omega
  rw [hh,hh,hlv,hso,ZJ,ZJ,srt,k1]
  rw [k1] at hok' h3
  rw [hok']
  have h3':(atO ns j).sd = 1 \/ (atO ns j).sd = 2 \/ (atO ns j).sd = 3:=by simp at h3; omega
  rcases h3' with e | e | e <;> simp [zIn,e]
theorem zEm {ns:List OpR} (h:zL ns 0) {s s':SyR} (hs:s.1 = 3 \/ s.1 = 4 \/ s.1 = 5) (hs':s'.1 = 3 \/ s'.1 = 4 \/ s'.1 = 5) (hk:knB ns s = true) (hk':knB ns s' = true) (he:sLv ns s = sLv ns s'):sSo ns s = sSo ns s':=by
 obtain ⟨j,hj,hf,hkk,ho⟩:=zLM hk
 obtain ⟨j',hj',hf',hkk',ho'⟩:=zLM hk'
 have hlv:sLv ns s = (atO ns j).l:=by unfold sLv zCI rt; simp only; rw [if_pos (by omega),hf]
 have hlv':sLv ns s' = (atO ns j').l:=by unfold sLv zCI rt; simp only; rw [if_pos (by omega),hf']
 unfold sSo
 rw [ho,ho']
 by_cases hd:srt (atO ns j).k (atO ns j).sd = srt (atO ns j').k (atO ns j').sd
 ·exact hd
 ·exfalso
  apply (zFG h).2
  rcases Nat.lt_trichotomy j j' with e | e | e
  ·exact ⟨j',j,e,hj',by simp [cl]; exact ⟨by omega,fun x=>hd x.symm⟩⟩
  ·subst e; exact absurd rfl hd
  ·exact ⟨j,j',e,hj,by simp [cl]; exact ⟨by omega,hd⟩⟩
def lvT (ns:List OpR):ET -> Int
 | .nil=>1001
 | .node b _ t _ _=>sLv ns (b,t)
def zX (ns:List OpR):ET -> Prop
 | .nil=>False
 | .node b o t l r=>o = 0 /\ (((b = 1 \/ b = 2) /\ l = .nil /\ r = .nil) \/
   (b = 6 /\ t = ByteArray.empty /\ zX ns l /\ r = .nil) \/
   ((b = 3 \/ b = 5) /\ knB ns (b,t) = true /\ zX ns l /\ r = .nil /\ sH ns (b,t) false <= lvT ns l) \/
   (b = 4 /\ knB ns (b,t) = true /\ zX ns l /\ zX ns r /\ sH ns (b,t) false <= lvT ns l /\ sH ns (b,t) true <= lvT ns r))
theorem zAe (ns:List OpR) (b:Nat) (t:ByteArray) (h:¬ (b = 3 \/ b = 4 \/ b = 5)):sLv ns (b,t) = 1001:=by
 unfold sLv zCI rt
 simp only
 rw [if_neg (by omega)]
theorem zX.sh {ns:List OpR}:∀ {T:ET},zX ns T -> Sh T
 | .nil,h=>h.elim
 | .node b o t l r,⟨h0,h⟩=>by
  refine ⟨h0,?_⟩
  rcases h with ⟨h | h,rfl,rfl⟩ | ⟨rfl,_,hl,rfl⟩ | ⟨h | h,_,hl,rfl,_⟩ | ⟨rfl,_,hl,hr,_⟩
  ·subst h; exact Or.inl ⟨by decide,rfl,rfl⟩
  ·subst h; exact Or.inl ⟨by decide,rfl,rfl⟩
  ·exact Or.inr (Or.inl ⟨by decide,hl.sh,rfl⟩)
  ·subst h; exact Or.inr (Or.inl ⟨by decide,hl.sh,rfl⟩)
  ·subst h; exact Or.inr (Or.inl ⟨by decide,hl.sh,rfl⟩)
  ·exact Or.inr (Or.inr ⟨by decide,hl.sh,hr.sh⟩)
def rd (ns:List OpR):Nat -> Int -> Option ET -> List SyR -> Option (ET × List SyR)
 | 0,_,_,_=>none
 | _ + 1,_,none,[]=>none
 | n + 1,least,none,s :: r=>
  if s.1 = 3 then (if sLv ns s < least then none else (match rd ns n (sH ns s false) none r with
   | none=>none
   | some x=>rd ns n least (some (.node 3 0 s.2 x.1 .nil)) x.2))
  else if s.1 = 6 then (match rd ns n 0 none r with
   | none=>none
   | some x=>rd ns n least (some (.node 6 0 ByteArray.empty x.1 .nil)) x.2.tail)
  else rd ns n least (some (.node s.1 0 s.2 .nil .nil)) r
 | _ + 1,_,some T,[]=>some (T,[])
 | n + 1,least,some T,s :: r=>
  if s.1 = 4 /\ least <= sLv ns s then (if lvT ns T < sH ns s false then none else (match rd ns n (sH ns s true) none r with
   | none=>none
   | some x=>rd ns n least (some (.node 4 0 s.2 T x.1)) x.2))
  else if s.1 = 5 /\ least <= sLv ns s then (if lvT ns T < sH ns s false then none else rd ns n least (some (.node 5 0 s.2 T .nil)) r)
  else some (T,s :: r)
theorem zAW (ns:List OpR):∀ n least md ss x,rd ns n least md ss = some x -> x.2.length <= ss.length
 | 0,_,_,_,_,h=>by simp [rd] at h
 | n + 1,least,none,[],x,h=>by simp [rd] at h
 | n + 1,least,none,s :: r,x,h=>by
  simp only [rd] at h
  split at h
  ·split at h
   ·cases h
   ·split at h
    ·cases h
    ·rename_i y hy
     have h1:=zAW ns n _ _ _ _ hy
     have h2:=zAW ns n _ _ _ _ h
     simp only [List.length_cons]; omega
  ·split at h
   ·split at h
    ·cases h
    ·rename_i y hy
     have h1:=zAW ns n _ _ _ _ hy
     have h2:=zAW ns n _ _ _ _ h
     have h3:y.2.tail.length <= y.2.length:=by simp
     simp only [List.length_cons]; omega
   ·have h2:=zAW ns n _ _ _ _ h
    simp only [List.length_cons]; omega
 | n + 1,least,some T,[],x,h=>by
  simp only [rd,Option.some.injEq] at h
  subst h; simp
 | n + 1,least,some T,s :: r,x,h=>by
  simp only [rd] at h
  split at h
  ·split at h
   ·cases h
   ·split at h
    ·cases h
    ·rename_i y hy
     have h1:=zAW ns n _ _ _ _ hy
     have h2:=zAW ns n _ _ _ _ h
     simp only [List.length_cons]; omega
  ·split at h
   ·split at h
    ·cases h
    ·have h2:=zAW ns n _ _ _ _ h
     simp only [List.length_cons]; omega
   ·simp only [Option.some.injEq] at h
    subst h; simp
theorem zEG (ns:List OpR):∀ n m least md ss,ss.length < n -> ss.length < m -> rd ns n least md ss = rd ns m least md ss
 | 0,_,_,_,_,h,_=>absurd h (Nat.not_lt_zero _)
 | _ + 1,0,_,_,_,_,h=>absurd h (Nat.not_lt_zero _)
 | n + 1,m + 1,least,none,[],_,_=>by simp [rd]
 | n + 1,m + 1,least,some T,[],_,_=>by simp [rd]
 | n + 1,m + 1,least,none,s :: r,h,h'=>by
  simp only [List.length_cons] at h h'
  have e1:=fun l=>zEG ns n m l none r (by omega) (by omega)
  have e2:=fun l md q=>fun (hq:q.length <= r.length)=>zEG ns n m l md q (by omega) (by omega)
  simp only [rd,e1]
  split
  ·split
   ·rfl
   ·cases hy:rd ns m (sH ns s false) none r with
    | none=>rfl
    | some y=>exact e2 _ _ _ (zAW ns m _ _ _ _ hy)
  ·split
   ·cases hy:rd ns m 0 none r with
    | none=>rfl
    | some y=>exact e2 _ _ _ (by have:=zAW ns m _ _ _ _ hy; simp; omega)
   ·exact e2 _ _ _ (Nat.le_refl _)
 | n + 1,m + 1,least,some T,s :: r,h,h'=>by
  simp only [List.length_cons] at h h'
  have e1:=fun l=>zEG ns n m l none r (by omega) (by omega)
  have e2:=fun l md q=>fun (hq:q.length <= r.length)=>zEG ns n m l md q (by omega) (by omega)
  simp only [rd,e1]
  split
  ·split
   ·rfl
   ·cases hy:rd ns m (sH ns s true) none r with
    | none=>rfl
    | some y=>exact e2 _ _ _ (zAW ns m _ _ _ _ hy)
  ·split
   ·split
    ·rfl
    ·exact e2 _ _ _ (Nat.le_refl _)
   ·rfl
def RD (ns:List OpR) (least:Int) (md:Option ET) (ss:List SyR):Option (ET × List SyR):=rd ns (ss.length + 1) least md ss
theorem zPk (ns:List OpR) (n:Nat) (least:Int) (md:Option ET) (ss:List SyR) (h:ss.length < n):rd ns n least md ss = RD ns least md ss:=
 zEG ns _ _ _ _ _ h (Nat.lt_succ_self _)
theorem zFh (ns:List OpR) (least:Int) (s:SyR) (r:List SyR):RD ns least none (s :: r) =
  if s.1 = 3 then (if sLv ns s < least then none else (match RD ns (sH ns s false) none r with
   | none=>none
   | some x=>RD ns least (some (.node 3 0 s.2 x.1 .nil)) x.2))
  else if s.1 = 6 then (match RD ns 0 none r with
   | none=>none
   | some x=>RD ns least (some (.node 6 0 ByteArray.empty x.1 .nil)) x.2.tail)
  else RD ns least (some (.node s.1 0 s.2 .nil .nil)) r:=by
 have e:RD ns least none (s :: r) = rd ns (r.length + 1 + 1) least none (s :: r):=rfl
 have e1:∀ l,rd ns (r.length + 1) l none r = RD ns l none r:=fun l=>rfl
 have e2:∀ l md q,q.length <= r.length -> rd ns (r.length + 1) l md q = RD ns l md q:=fun l md q hq=>zPk ns _ l md q (by omega)
 rw [e]
 simp only [rd,e1]
 split
 ·split
  ·rfl
  ·cases hy:RD ns (sH ns s false) none r with
   | none=>rfl
   | some y=>exact e2 _ _ _ (zAW ns _ _ _ _ _ hy)
 ·split
  ·cases hy:RD ns 0 none r with
   | none=>rfl
   | some y=>exact e2 _ _ _ (by have:=zAW ns _ _ _ _ _ hy; simp; omega)
  ·rfl
theorem zFi (ns:List OpR) (least:Int) (T:ET) (s:SyR) (r:List SyR):RD ns least (some T) (s :: r) =
  if s.1 = 4 /\ least <= sLv ns s then (if lvT ns T < sH ns s false then none else (match RD ns (sH ns s true) none r with
   | none=>none
   | some x=>RD ns least (some (.node 4 0 s.2 T x.1)) x.2))
  else if s.1 = 5 /\ least <= sLv ns s then (if lvT ns T < sH ns s false then none else RD ns least (some (.node 5 0 s.2 T .nil)) r)
  else some (T,s :: r):=by
 have e:RD ns least (some T) (s :: r) = rd ns (r.length + 1 + 1) least (some T) (s :: r):=rfl
 have e1:∀ l,rd ns (r.length + 1) l none r = RD ns l none r:=fun l=>rfl
 have e2:∀ l md q,q.length <= r.length -> rd ns (r.length + 1) l md q = RD ns l md q:=fun l md q hq=>zPk ns _ l md q (by omega)
 rw [e]
 simp only [rd,e1]
 split
 ·split
  ·rfl
  ·cases hy:RD ns (sH ns s true) none r with
   | none=>rfl
   | some y=>exact e2 _ _ _ (zAW ns _ _ _ _ _ hy)
 ·split
  ·split
   ·rfl
   ·rfl
  ·rfl
def zFH (ns:List OpR) (least:Int) (ss:List SyR):Prop:=∀ s r,ss = s :: r -> (s.1 = 4 \/ s.1 = 5) -> sLv ns s < least
theorem zFj {ns:List OpR} {least:Int} {ss:List SyR} (h:zFH ns least ss) (T:ET):RD ns least (some T) ss = some (T,ss):=by
 cases ss with
 | nil=>rfl
 | cons s r=>
  have hs:=h s r rfl
  rw [zFi,if_neg (fun x=>by have:=hs (Or.inl x.1); omega),if_neg (fun x=>by have:=hs (Or.inr x.1); omega)]
def zHW (ns:List OpR):ET -> List SyR -> Prop
 | .nil,_=>True
 | .node b _ t l r,ss=>(b = 3 -> zFH ns (sH ns (b,t) false) ss /\ zHW ns l ss) /\ (b = 4 -> zFH ns (sH ns (b,t) true) ss /\ zHW ns r ss)
theorem zCp {ns:List OpR} {least:Int} {s:SyR} {r:List SyR} (h:¬ (s.1 = 4 \/ s.1 = 5)):zFH ns least (s :: r):=fun s' r' e hs=>by
 injection e with e1 e2
 subst e1
 exact absurd hs h
theorem zB4 {ns:List OpR} {s:SyR} {r:List SyR} (h:¬ (s.1 = 4 \/ s.1 = 5)):∀ T:ET,zHW ns T (s :: r)
 | .nil=>trivial
 | .node b o t l q=>⟨fun _=>⟨zCp h,zB4 h l⟩,fun _=>⟨zCp h,zB4 h q⟩⟩
theorem zFI {ns:List OpR} (hv:zL ns 0) {q:SyR} {r:List SyR}:∀ T:ET,zX ns T -> sLv ns q < lvT ns T -> zHW ns T (q :: r):=by
 intro T
 induction T with
 | nil=>intro h; exact h.elim
 | node b o t l rr ihl ihr=>
  rintro ⟨_,h⟩ hq
  have st:∀ m:Int,sLv ns q < m -> zFH ns m (q :: r):=fun m hm s' r' e _=>by
   injection e with e1 e2
   subst e1
   exact hm
  refine ⟨fun e=>?_,fun e=>?_⟩
  ·subst e
   rcases h with ⟨h | h,_⟩ | ⟨h,_⟩ | ⟨_,hk,hl,_,hh⟩ | ⟨h,_⟩
   ·omega
   ·omega
   ·omega
   ·have f:=(opF hv (Or.inl rfl) hk).pre rfl
    simp only [lvT] at hq
    exact ⟨st _ (by omega),ihl hl (by omega)⟩
   ·omega
  ·subst e
   rcases h with ⟨h | h,_⟩ | ⟨h,_⟩ | ⟨h | h,_⟩ | ⟨_,hk,hl,hr,h1,h2⟩
   ·omega
   ·omega
   ·omega
   ·omega
   ·omega
   ·have f:=(opF hv (Or.inr (Or.inl rfl)) hk).mid rfl
    simp only [lvT] at hq
    exact ⟨st _ (by omega),ihr hr (by omega)⟩
theorem zHX {ns:List OpR} (hv:zL ns 0) {q:SyR} {r:List SyR} (hq:q.1 = 4 \/ q.1 = 5) (hkq:knB ns q = true):∀ T:ET,zX ns T -> sH ns q false <= lvT ns T -> zHW ns T (q :: r):=by
 intro T hT hle
 have fq:=opF hv (by omega) hkq
 have hh:sH ns q false = sLv ns q + 1 \/ (sH ns q false = sLv ns q /\ sSo ns q = 1):=by
  rcases hq with e | e
  ·rcases fq.mid e with h | h | h
   ·exact Or.inr ⟨h.2.1,h.1⟩
   ·exact Or.inl h.2.1
   ·exact Or.inl h.2.1
  ·exact Or.inr (fq.post e)
 by_cases hlt:sLv ns q < lvT ns T
 ·exact zFI hv T hT hlt
 ·have heq:lvT ns T = sLv ns q /\ sSo ns q = 1:=by
   rcases hh with h | ⟨h,h'⟩
   ·omega
   ·exact ⟨by omega,h'⟩
  cases T with
  | nil=>exact hT.elim
  | node b o t l rr=>
   obtain ⟨_,h⟩:=hT
   simp only [lvT] at heq
   have st:∀ m:Int,sLv ns q < m -> zFH ns m (q :: r):=fun m hm s' r' e _=>by
    injection e with e1 e2
    subst e1
    exact hm
   refine ⟨fun e=>?_,fun e=>?_⟩
   ·subst e
    rcases h with ⟨h | h,_⟩ | ⟨h,_⟩ | ⟨_,hk,hl,_,hh⟩ | ⟨h,_⟩
    ·omega
    ·omega
    ·omega
    ·have f:=(opF hv (Or.inl rfl) hk).pre rfl
     have:=zEm hv (s:=(3,t)) (s':=q) (Or.inl rfl) (by omega) hk hkq heq.1
     omega
    ·omega
   ·subst e
    rcases h with ⟨h | h,_⟩ | ⟨h,_⟩ | ⟨h | h,_⟩ | ⟨_,hk,hl,hr,h1,h2⟩
    ·omega
    ·omega
    ·omega
    ·omega
    ·omega
    ·have f:=(opF hv (Or.inr (Or.inl rfl)) hk).mid rfl
     have:=zEm hv (s:=(4,t)) (s':=q) (Or.inr (Or.inl rfl)) (by omega) hk hkq heq.1
     have e2:sH ns (4,t) true = sLv ns (4,t) + 1:=by
      rcases f with h | h | h
      ·exact h.2.2
      ·omega
      ·omega
     exact ⟨st _ (by omega),zFI hv rr hr (by omega)⟩
theorem zM9 {ns:List OpR} (hv:zL ns 0):∀ (T:ET),zX ns T -> ∀ (least:Int) (rest:List SyR),least <= lvT ns T -> zHW ns T rest -> RD ns least none (ySy T ++ rest) = RD ns least (some T) rest:=by
 intro T
 induction T with
 | nil=>intro h; exact h.elim
 | node b o t l r ihl ihr=>
  rintro ⟨rfl,h⟩ least rest hle hst
  simp only [lvT] at hle
  rcases h with ⟨h12,rfl,rfl⟩ | ⟨rfl,rfl,hl,rfl⟩ | ⟨h35,hk,hl,rfl,hh⟩ | ⟨rfl,hk,hl,hr,h1,h2⟩
  ·have e:ySy (.node b 0 t .nil .nil) = [(b,t)]:=by
    simp only [ySy]
    rw [if_neg (by omega),if_neg (by omega),if_neg (by omega),if_neg (by omega)]
   rw [e]
   show RD ns least none ((b,t) :: rest) = _
   rw [zFh]
   simp only
   rw [if_neg (by omega),if_neg (by omega)]
  ·have e:ySy (.node 6 0 ByteArray.empty l .nil) ++ rest = (6,opn) :: (ySy l ++ ((7,zBh) :: rest)):=by
    simp [ySy]
   rw [e,zFh]
   simp only
   rw [if_neg (by decide),if_pos trivial]
   have hs:¬ ((7,zBh):SyR).1 = 4 /\ ¬ ((7,zBh):SyR).1 = 5:=⟨by decide,by decide⟩
   have h0:(0:Int) <= lvT ns l:=by
    cases l with
    | nil=>exact hl.elim
    | node bb oo tt ll rr=>
     simp only [lvT]
     by_cases hb:bb = 3 \/ bb = 4 \/ bb = 5
     ·have hkn:knB ns (bb,tt) = true:=by
       rcases hl.2 with ⟨h | h,_⟩ | ⟨h,_⟩ | ⟨_,hk,_⟩ | ⟨_,hk,_⟩
       ·omega
       ·omega
       ·omega
       ·exact hk
       ·exact hk
      have:=(opF hv (s:=(bb,tt)) hb hkn).lo
      omega
     ·rw [zAe ns bb tt hb]; omega
   rw [ihl hl 0 _ h0 (zB4 (by omega) l),zFj (zCp (by omega))]
   rfl
  ·rcases h35 with rfl | rfl
   ·have f:=(opF hv (Or.inl rfl) hk).pre rfl
    have e:ySy (.node 3 0 t l .nil) ++ rest = (3,t) :: (ySy l ++ rest):=by simp [ySy]
    obtain ⟨hst1,hst2⟩:=hst.1 rfl
    rw [e,zFh]
    simp only
    rw [if_pos trivial,if_neg (by omega),ihl hl _ rest hh hst2,zFj hst1]
   ·have f:=(opF hv (Or.inr (Or.inr rfl)) hk).post rfl
    have e:ySy (.node 5 0 t l .nil) ++ rest = ySy l ++ ((5,t) :: rest):=by simp [ySy]
    rw [e,ihl hl least _ (by omega) (zHX hv (q:=(5,t)) (Or.inr rfl) hk l hl hh),zFi]
    simp only
    rw [if_neg (by omega),if_pos ⟨trivial,hle⟩,if_neg (by omega)]
  ·have f:=(opF hv (Or.inr (Or.inl rfl)) hk).mid rfl
   have e:ySy (.node 4 0 t l r) ++ rest = ySy l ++ ((4,t) :: (ySy r ++ rest)):=by simp [ySy]
   obtain ⟨hst1,hst2⟩:=hst.2 rfl
   rw [e,ihl hl least _ (by omega) (zHX hv (q:=(4,t)) (Or.inl rfl) hk l hl h1),zFi]
   simp only
   rw [if_pos ⟨trivial,hle⟩,if_neg (by omega),ihr hr _ rest h2 hst2,zFj hst1]
def zOa (s:SyR):Bool:=decide (s.1 = 6 /\ s.2.data = opn.data)
def zOb (s:SyR):Bool:=decide (s.1 = 7 /\ s.2.data = zBh.data)
theorem zPl {a b:ByteArray} (h:a.data = b.data):a = b:=by cases a; cases b; simp_all
theorem zOc {s:SyR} (h:zOa s = true):s = (6,opn):=by
 unfold zOa at h
 have:=of_decide_eq_true h
 obtain ⟨a,b⟩:=s
 exact Prod.ext this.1 (zPl this.2)
theorem zOd {s:SyR} (h:zOb s = true):s = (7,zBh):=by
 unfold zOb at h
 have:=of_decide_eq_true h
 obtain ⟨a,b⟩:=s
 exact Prod.ext this.1 (zPl this.2)
def auS (ns:List OpR) (st:Bool × Nat) (s:SyR):Option (Bool × Nat):=
 if st.1 = false then
  (if s.1 = 1 \/ s.1 = 2 then some (true,st.2) else if s.1 = 3 /\ knB ns s = true then some (false,st.2) else if zOa s = true then some (false,st.2 + 1) else none)
 else
  (if s.1 = 4 /\ knB ns s = true then some (false,st.2) else if s.1 = 5 /\ knB ns s = true then some (true,st.2) else if zOb s = true /\ 0 < st.2 then some (true,st.2 - 1) else none)
def zAE (ns:List OpR):Bool × Nat -> List SyR -> Option (Bool × Nat)
 | st,[]=>some st
 | st,s :: r=>(match auS ns st s with
  | none=>none
  | some st'=>zAE ns st' r)
theorem zB5 (ns:List OpR):∀ (a b:List SyR) (st:Bool × Nat),zAE ns st (a ++ b) = (match zAE ns st a with
  | none=>none
  | some st'=>zAE ns st' b)
 | [],b,st=>rfl
 | s :: r,b,st=>by
  simp only [List.cons_append,zAE]
  cases auS ns st s with
  | none=>rfl
  | some st'=>exact zB5 ns r b st'
theorem zDB {ns:List OpR} {d:Nat} {s:SyR} {st:Bool × Nat} (h:auS ns (false,d) s = some st) :
  ((s.1 = 1 \/ s.1 = 2) /\ st = (true,d)) \/ (s.1 = 3 /\ knB ns s = true /\ st = (false,d)) \/ (s = (6,opn) /\ st = (false,d + 1)):=by
 unfold auS at h
 simp only [if_true] at h
 split at h
 ·injection h with h; exact Or.inl ⟨by assumption,h.symm⟩
 ·split at h
  ·rename_i hc; injection h with h; exact Or.inr (Or.inl ⟨hc.1,hc.2,h.symm⟩)
  ·split at h
   ·rename_i hc; injection h with h; exact Or.inr (Or.inr ⟨zOc hc,h.symm⟩)
   ·cases h
theorem zEH {ns:List OpR} {d:Nat} {s:SyR} {st:Bool × Nat} (h:auS ns (true,d) s = some st) :
  (s.1 = 4 /\ knB ns s = true /\ st = (false,d)) \/ (s.1 = 5 /\ knB ns s = true /\ st = (true,d)) \/ (s = (7,zBh) /\ 0 < d /\ st = (true,d - 1)):=by
 unfold auS at h
 simp only [Bool.true_eq_false,if_false] at h
 split at h
 ·rename_i hc; injection h with h; exact Or.inl ⟨hc.1,hc.2,h.symm⟩
 ·split at h
  ·rename_i hc; injection h with h; exact Or.inr (Or.inl ⟨hc.1,hc.2,h.symm⟩)
  ·split at h
   ·rename_i hc; injection h with h; exact Or.inr (Or.inr ⟨zOd hc.1,hc.2,h.symm⟩)
   ·cases h
theorem zLN {ns:List OpR} {d:Nat} {s:SyR} (h:s.1 = 1 \/ s.1 = 2):auS ns (false,d) s = some (true,d):=by
 unfold auS
 simp only [if_true]
 rw [if_pos h]
theorem zNA {ns:List OpR} {d:Nat} {s:SyR} (h:s.1 = 3) (hk:knB ns s = true):auS ns (false,d) s = some (false,d):=by
 unfold auS
 simp only [if_true]
 rw [if_neg (by omega),if_pos ⟨h,hk⟩]
theorem zLO {ns:List OpR} {d:Nat}:auS ns (false,d) (6,opn) = some (false,d + 1):=by
 unfold auS
 simp [zOa]
theorem zNB {ns:List OpR} {d:Nat} {s:SyR} (h:s.1 = 4) (hk:knB ns s = true):auS ns (true,d) s = some (false,d):=by
 unfold auS
 simp only [Bool.true_eq_false,if_false]
 rw [if_pos ⟨h,hk⟩]
theorem zLP {ns:List OpR} {d:Nat} {s:SyR} (h:s.1 = 5) (hk:knB ns s = true):auS ns (true,d) s = some (true,d):=by
 unfold auS
 simp only [Bool.true_eq_false,if_false]
 rw [if_neg (by omega),if_pos ⟨h,hk⟩]
theorem zJM {ns:List OpR} {d:Nat}:auS ns (true,d + 1) (7,zBh) = some (true,d):=by
 unfold auS
 simp [zOb]
def eoS:SyR:=(8,ByteArray.empty)
def Zg (ns:List OpR) (st:Bool × Nat) (ss:List SyR):Prop:=∃ q,ss = q ++ [eoS] /\ zAE ns st q = some (true,0)
theorem zBi {ns:List OpR} {st:Bool × Nat} (h:Zg ns st []):False:=by
 obtain ⟨q,h,_⟩:=h
 simp at h
theorem zHY {ns:List OpR} {st:Bool × Nat} {s:SyR} {r:List SyR} (h:Zg ns st (s :: r)):(s = eoS /\ r = [] /\ st = (true,0)) \/ ∃ st',auS ns st s = some st' /\ Zg ns st' r:=by
 obtain ⟨q,h,hr⟩:=h
 cases q with
 | nil=>
  simp only [List.nil_append] at h
  injection h with h1 h2
  simp only [zAE,Option.some.injEq] at hr
  exact Or.inl ⟨h1,h2,hr⟩
 | cons a q=>
  rw [List.cons_append] at h
  injection h with h1 h2
  subst h1
  simp only [zAE] at hr
  cases e:auS ns st s with
  | none=>rw [e] at hr; cases hr
  | some st'=>rw [e] at hr; exact Or.inr ⟨st',rfl,q,h2,hr⟩
theorem zBj {ns:List OpR} {d:Nat} {s:SyR} {r:List SyR} (h:Zg ns (false,d) (s :: r)) :
  ((s.1 = 1 \/ s.1 = 2) /\ Zg ns (true,d) r) \/ (s.1 = 3 /\ knB ns s = true /\ Zg ns (false,d) r) \/ (s = (6,opn) /\ Zg ns (false,d + 1) r):=by
 rcases zHY h with ⟨_,_,h⟩ | ⟨st',h1,h2⟩
 ·cases h
 ·rcases zDB h1 with ⟨a,rfl⟩ | ⟨a,b,rfl⟩ | ⟨a,rfl⟩
  ·exact Or.inl ⟨a,h2⟩
  ·exact Or.inr (Or.inl ⟨a,b,h2⟩)
  ·exact Or.inr (Or.inr ⟨a,h2⟩)
theorem zAf {ns:List OpR} {d:Nat} {s:SyR} {r:List SyR} (h:Zg ns (true,d) (s :: r)) :
  (s = eoS /\ r = [] /\ d = 0) \/ (s.1 = 4 /\ knB ns s = true /\ Zg ns (false,d) r) \/ (s.1 = 5 /\ knB ns s = true /\ Zg ns (true,d) r) \/ (s = (7,zBh) /\ 0 < d /\ Zg ns (true,d - 1) r):=by
 rcases zHY h with ⟨h1,h2,h3⟩ | ⟨st',h1,h2⟩
 ·simp only [Prod.mk.injEq,true_and] at h3
  exact Or.inl ⟨h1,h2,h3⟩
 ·rcases zEH h1 with ⟨a,b,rfl⟩ | ⟨a,b,rfl⟩ | ⟨a,b,rfl⟩
  ·exact Or.inr (Or.inl ⟨a,b,h2⟩)
  ·exact Or.inr (Or.inr (Or.inl ⟨a,b,h2⟩))
  ·exact Or.inr (Or.inr (Or.inr ⟨a,b,h2⟩))
def yM:Option ET -> List SyR
 | none=>[]
 | some T=>ySy T
theorem Ze {ns:List OpR} (hv:zL ns 0):∀ (n:Nat) (least:Int) (md:Option ET) (ss:List SyR) (d:Nat) (x:ET × List SyR),least <= 1001 -> Zg ns (md.isSome,d) ss -> (∀ L,md = some L -> zX ns L /\ least <= lvT ns L) -> rd ns n least md ss = some x ->
  Zg ns (true,d) x.2 /\ zX ns x.1 /\ least <= lvT ns x.1 /\ zFH ns least x.2 /\ yM md ++ ss = ySy x.1 ++ x.2
 | 0,_,_,_,_,_,_,_,_,h=>by simp [rd] at h
 | n + 1,least,none,[],d,x,_,hf,_,h=>(zBi hf).elim
 | n + 1,least,some T,[],d,x,_,hf,_,h=>(zBi hf).elim
 | n + 1,least,none,s :: r,d,x,hl,hf,hm,h=>by
  simp only [rd] at h
  rcases zBj hf with ⟨hs,hf'⟩ | ⟨hs,hk,hf'⟩ | ⟨hs,hf'⟩
  ·rw [if_neg (by omega),if_neg (by omega)] at h
   have hlv:lvT ns (.node s.1 0 s.2 .nil .nil) = 1001:=zAe ns _ _ (by omega)
   have:=Ze hv n least (some (.node s.1 0 s.2 .nil .nil)) r d x hl hf' (fun L e=>by
    injection e with e; subst e
    exact ⟨⟨rfl,Or.inl ⟨hs,rfl,rfl⟩⟩,by omega⟩) h
   refine ⟨this.1,this.2.1,this.2.2.1,this.2.2.2.1,?_⟩
   rw [<- this.2.2.2.2]
   simp only [yM,ySy]
   rw [if_neg (by omega),if_neg (by omega),if_neg (by omega),if_neg (by omega)]
   rfl
  ·rw [if_pos hs] at h
   have f:=(opF hv (s:=s) (Or.inl hs) hk)
   have fp:=f.pre hs
   have fh:=f.hi
   split at h
   ·cases h
   ·rename_i hlt
    split at h
    ·cases h
    ·rename_i y hy
     obtain ⟨a1,a2,a3,a4,a5⟩:=Ze hv n _ none r d y (by omega) hf' (fun L e=>by cases e) hy
     have es:((3,s.2):SyR) = s:=Prod.ext hs.symm rfl
     have hlv:lvT ns (.node 3 0 s.2 y.1 .nil) = sLv ns s:=by simp only [lvT,es]
     have:=Ze hv n least (some (.node 3 0 s.2 y.1 .nil)) y.2 d x hl a1 (fun L e=>by
      injection e with e; subst e
      exact ⟨⟨rfl,Or.inr (Or.inr (Or.inl ⟨Or.inl rfl,by rw [es]; exact hk,a2,rfl,by rw [es]; exact a3⟩))⟩,by omega⟩) h
     refine ⟨this.1,this.2.1,this.2.2.1,this.2.2.2.1,?_⟩
     rw [<- this.2.2.2.2]
     simp only [yM,List.nil_append] at a5 ⊢
     rw [a5]
     simp [ySy,es]
  ·subst hs
   simp only at h
   rw [if_neg (by decide),if_pos trivial] at h
   split at h
   ·cases h
   ·rename_i y hy
    obtain ⟨a1,a2,a3,a4,a5⟩:=Ze hv n 0 none r (d + 1) y (by omega) hf' (fun L e=>by cases e) hy
    obtain ⟨T,q⟩:=y
    simp only at a1 a2 a3 a4 a5 h
    cases q with
    | nil=>exact (zBi a1).elim
    | cons z q=>
     have hz:z = (7,zBh) /\ Zg ns (true,d) q:=by
      rcases zAf a1 with ⟨_,_,h0⟩ | ⟨h4,hkk,_⟩ | ⟨h5,hkk,_⟩ | ⟨h7,_,h8⟩
      ·omega
      ·have:=a4 z q rfl (Or.inl h4)
       have:=(opF hv (s:=z) (Or.inr (Or.inl h4)) hkk).lo
       omega
      ·have:=a4 z q rfl (Or.inr h5)
       have:=(opF hv (s:=z) (Or.inr (Or.inr h5)) hkk).lo
       omega
      ·exact ⟨h7,h8⟩
     obtain ⟨rfl,hq⟩:=hz
     simp only [List.tail_cons] at h
     have hlv:lvT ns (.node 6 0 ByteArray.empty T .nil) = 1001:=zAe ns _ _ (by omega)
     have:=Ze hv n least (some (.node 6 0 ByteArray.empty T .nil)) q d x hl hq (fun L e=>by
      injection e with e; subst e
      exact ⟨⟨rfl,Or.inr (Or.inl ⟨rfl,rfl,a2,rfl⟩)⟩,by omega⟩) h
     refine ⟨this.1,this.2.1,this.2.2.1,this.2.2.2.1,?_⟩
     rw [<- this.2.2.2.2]
     simp only [yM,List.nil_append] at a5 ⊢
     rw [a5]
     simp [ySy]
 | n + 1,least,some T,s :: r,d,x,hl,hf,hm,h=>by
  obtain ⟨hT,hTl⟩:=hm T rfl
  simp only [rd] at h
  have stop:(¬ (s.1 = 4 /\ least <= sLv ns s)) -> (¬ (s.1 = 5 /\ least <= sLv ns s)) -> Zg ns (true,d) x.2 /\ zX ns x.1 /\ least <= lvT ns x.1 /\ zFH ns least x.2 /\ yM (some T) ++ s :: r = ySy x.1 ++ x.2:=fun c1 c2=>by
   rw [if_neg c1,if_neg c2] at h
   injection h with h
   subst h
   refine ⟨hf,hT,hTl,fun s' r' e hs=>?_,rfl⟩
   injection e with e1 e2
   subst e1
   omega
  by_cases c1:s.1 = 4 /\ least <= sLv ns s
  ·rw [if_pos c1] at h
   have hf4:knB ns s = true /\ Zg ns (false,d) r:=by
    rcases zAf hf with ⟨h1,_⟩ | ⟨_,h1,h2⟩ | ⟨h1,_⟩ | ⟨h1,_⟩
    ·rw [h1] at c1; exact absurd c1.1 (by decide)
    ·exact ⟨h1,h2⟩
    ·omega
    ·rw [h1] at c1; exact absurd c1.1 (by decide)
   obtain ⟨hk,hf'⟩:=hf4
   have f:=(opF hv (s:=s) (Or.inr (Or.inl c1.1)) hk)
   have fp:=f.mid c1.1
   have fh:=f.hi
   split at h
   ·cases h
   ·rename_i hlt
    split at h
    ·cases h
    ·rename_i y hy
     obtain ⟨a1,a2,a3,a4,a5⟩:=Ze hv n _ none r d y (by omega) hf' (fun L e=>by cases e) hy
     have es:((4,s.2):SyR) = s:=Prod.ext c1.1.symm rfl
     have hlv:lvT ns (.node 4 0 s.2 T y.1) = sLv ns s:=by simp only [lvT,es]
     have:=Ze hv n least (some (.node 4 0 s.2 T y.1)) y.2 d x hl a1 (fun L e=>by
      injection e with e; subst e
      exact ⟨⟨rfl,Or.inr (Or.inr (Or.inr ⟨rfl,by rw [es]; exact hk,hT,a2,by rw [es]; omega,by rw [es]; exact a3⟩))⟩,by omega⟩) h
     refine ⟨this.1,this.2.1,this.2.2.1,this.2.2.2.1,?_⟩
     rw [<- this.2.2.2.2]
     simp only [yM,List.nil_append] at a5 ⊢
     rw [a5]
     simp [ySy,es]
  ·by_cases c2:s.1 = 5 /\ least <= sLv ns s
   ·rw [if_neg c1,if_pos c2] at h
    have hf4:knB ns s = true /\ Zg ns (true,d) r:=by
     rcases zAf hf with ⟨h1,_⟩ | ⟨h1,_⟩ | ⟨_,h1,h2⟩ | ⟨h1,_⟩
     ·rw [h1] at c2; exact absurd c2.1 (by decide)
     ·omega
     ·exact ⟨h1,h2⟩
     ·rw [h1] at c2; exact absurd c2.1 (by decide)
    obtain ⟨hk,hf'⟩:=hf4
    have f:=(opF hv (s:=s) (Or.inr (Or.inr c2.1)) hk)
    split at h
    ·cases h
    ·rename_i hlt
     have es:((5,s.2):SyR) = s:=Prod.ext c2.1.symm rfl
     have hlv:lvT ns (.node 5 0 s.2 T .nil) = sLv ns s:=by simp only [lvT,es]
     have:=Ze hv n least (some (.node 5 0 s.2 T .nil)) r d x hl hf' (fun L e=>by
      injection e with e; subst e
      exact ⟨⟨rfl,Or.inr (Or.inr (Or.inl ⟨Or.inr rfl,by rw [es]; exact hk,hT,rfl,by rw [es]; omega⟩))⟩,by omega⟩) h
     refine ⟨this.1,this.2.1,this.2.2.1,this.2.2.2.1,?_⟩
     rw [<- this.2.2.2.2]
     simp [yM,ySy,es]
   ·exact stop c1 c2
theorem zP2 {ns:List OpR} (hv:zL ns 0) {ss:List SyR} (hf:zAE ns (false,0) ss = some (true,0)) (T:ET):(zX ns T /\ ySy T = ss) ↔ RD ns 0 none (ss ++ [eoS]) = some (T,[eoS]):=by
 constructor
 ·rintro ⟨hT,rfl⟩
  have h0:(0:Int) <= lvT ns T:=by
   cases T with
   | nil=>exact hT.elim
   | node bb oo tt ll rr=>
    simp only [lvT]
    by_cases hb:bb = 3 \/ bb = 4 \/ bb = 5
    ·have hkn:knB ns (bb,tt) = true:=by
      rcases hT.2 with ⟨h | h,_⟩ | ⟨h,_⟩ | ⟨_,hk,_⟩ | ⟨_,hk,_⟩
      ·omega
      ·omega
      ·omega
      ·exact hk
      ·exact hk
     have:=(opF hv (s:=(bb,tt)) hb hkn).lo
     omega
    ·rw [zAe ns bb tt hb]; omega
  have hn:¬ (eoS.1 = 4 \/ eoS.1 = 5):=by decide
  rw [zM9 hv T hT 0 [eoS] h0 (zB4 hn T),zFj (zCp hn)]
 ·intro h
  obtain ⟨_,a2,_,_,a5⟩:=Ze hv _ 0 none (ss ++ [eoS]) 0 (T,[eoS]) (by omega) ⟨ss,rfl,hf⟩ (fun L e=>by cases e) h
  refine ⟨a2,?_⟩
  simp only [yM,List.nil_append] at a5
  exact (List.append_cancel_right a5).symm
theorem zP3 {ns:List OpR} (hv:zL ns 0) {ss:List SyR} (hf:zAE ns (false,0) ss = some (true,0)) {x:ET × List SyR} (h:RD ns 0 none (ss ++ [eoS]) = some x):x.2 = [eoS]:=by
 obtain ⟨a1,_,_,a4,_⟩:=Ze hv _ 0 none (ss ++ [eoS]) 0 x (by omega) ⟨ss,rfl,hf⟩ (fun L e=>by cases e) h
 obtain ⟨T,q⟩:=x
 simp only at a1 a4 ⊢
 cases q with
 | nil=>exact (zBi a1).elim
 | cons z q=>
  rcases zAf a1 with ⟨h1,h2,_⟩ | ⟨h4,hkk,_⟩ | ⟨h5,hkk,_⟩ | ⟨_,h7,_⟩
  ·rw [h1,h2]
  ·have:=a4 z q rfl (Or.inl h4)
   have:=(opF hv (s:=z) (Or.inr (Or.inl h4)) hkk).lo
   omega
  ·have:=a4 z q rfl (Or.inr h5)
   have:=(opF hv (s:=z) (Or.inr (Or.inr h5)) hkk).lo
   omega
  ·omega
end Go.Proofs.YtokabkhnidlcnacGreatDoor
