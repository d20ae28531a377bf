import Derived.Deep.RegionHeld
import Derived.Deep.QuietTactic
import Derived.BigQuiet
import Derived.OwnWalk
import Derived.Laws.OwnMore
import Derived.Deep.MidRow
import Derived.Laws.MakeOwn
import Derived.Test.YtgiemobdmbijiaaGreatDoorN00
namespace Go.Proofs.YtgiemobdmbijiaaGreatDoor
set_option linter.unusedSimpArgs false
set_option linter.unusedVariables false
set_option maxHeartbeats 16000000
set_option maxRecDepth 100000
theorem zFJ (c:UInt8) (s:ByteArray):∀ (n a:Nat),a <= s.size -> ∀ p ∈ pcF c s n a,p.1 <= p.2 /\ p.2 <= s.size /\ ∀ k,p.1 <= k -> k < p.2 -> bt s k ≠ c
 | 0,a,_,p,hp=>by simp [pcF] at hp
 | n + 1,a,ha,p,hp=>by
  obtain ⟨g1,g2,g3,_⟩:=Z3 c s a ha
  simp only [pcF,List.mem_cons] at hp
  rcases hp with rfl | hp
  ·exact ⟨g1,g2,g3⟩
  ·by_cases h:nx c s a < s.size
   ·rw [if_pos h] at hp
    exact zFJ c s n _ (by omega) p hp
   ·rw [if_neg h] at hp; cases hp
theorem zKT {c:UInt8} {s:ByteArray} {a b:Nat} (hb:b <= s.size) (h:∀ k,a <= k -> k < b -> bt s k ≠ c):NoB c (s.extract a b):=fun i hi=>by
 rw [ZO] at hi
 rw [zHW s a b i hi]
 exact h _ (by omega) (by omega)
theorem zNQ {l x:ByteArray} (hl:NoB 10 l) (h:x ∈ wds l):Wrd x:=by
 unfold wds at h
 obtain ⟨p,hp,rfl⟩:=List.mem_map.1 h
 obtain ⟨hp,hlt⟩:=List.mem_filter.1 hp
 obtain ⟨h1,h2,h3⟩:=zFJ 32 l _ 0 (Nat.zero_le _) p hp
 have hlt':p.1 < p.2:=by simpa using hlt
 refine ⟨by rw [ZO]; omega,zKT h2 h3,fun i hi=>?_⟩
 rw [ZO] at hi
 rw [zHW l _ _ i hi]
 exact hl _ (by omega)
def OpT (o:OpR):Prop:=Wrd o.s /\ (∃ n:Nat,o.l = (n:Int) /\ n < 1000000) /\ ((o.k = 1 /\ o.sd = 0) \/ (o.k = 3 /\ o.sd = 0) \/ (o.k = 2 /\ (o.sd = 1 \/ o.sd = 2 \/ o.sd = 3)))
theorem OpW.tells {ws:List ByteArray} {o:OpR} (h:OpW ws o) (hw:∀ x ∈ ws,Wrd x):OpT o:=by
 obtain ⟨k,t,l,hl,h⟩:=h
 have hv:zx l l.size < 1000000:=by
  have h1:=zDj l hl.2.2 l.size (Nat.le_refl _)
  have h2:10 ^ l.size <= 10 ^ 6:=Nat.pow_le_pow_right (by decide) hl.2.1
  omega
 rcases h with ⟨rfl,⟨_,rfl⟩ | ⟨_,rfl⟩⟩ | ⟨sd,rfl,_,hs,rfl⟩
 ·exact ⟨hw t (by simp),⟨_,rfl,hv⟩,Or.inl ⟨rfl,rfl⟩⟩
 ·exact ⟨hw t (by simp),⟨_,rfl,hv⟩,Or.inr (Or.inl ⟨rfl,rfl⟩)⟩
 ·refine ⟨hw t (by simp),⟨_,rfl,hv⟩,Or.inr (Or.inr ⟨rfl,?_⟩)⟩
  show ZM sd = 1 \/ ZM sd = 2 \/ ZM sd = 3
  unfold ZM at hs ⊢
  split
  ·exact Or.inl rfl
  ·split
   ·exact Or.inr (Or.inl rfl)
   ·split
    ·exact Or.inr (Or.inr rfl)
    ·rename_i h1 h2 h3; rw [if_neg h1,if_neg h2,if_neg h3] at hs; exact absurd rfl hs
theorem UnF.tells {s:ByteArray}:∀ (ls:List (Nat × Nat)) (n:Nat) (us:List ByteArray) (os:List OpR) {u:List ByteArray} {o:List OpR} {b:ByteArray} {c l:Int},(∀ p ∈ ls,NoB 10 (s.extract p.1 p.2)) -> (∀ x ∈ us,Wrd x) -> (∀ x ∈ os,OpT x) -> UnF s ls n us os u o b c l -> (∀ x ∈ u,Wrd x) /\ ∀ x ∈ o,OpT x
 | [],n,us,os,_,_,_,_,_,_,_,_,h=>by
  obtain ⟨rfl,rfl,rfl,rfl,rfl⟩:=h
  exact ⟨fun x hx=>(by cases hx),fun x hx=>(by cases hx)⟩
 | p :: r,n,us,os,u,o,b,c,l,hl,hu,ho,h=>by
  have hp:=hl p (by simp)
  rcases h with ⟨_,rfl,rfl,rfl,rfl,rfl⟩ | ⟨_,⟨us',os',h1,h⟩ | ⟨_,rfl,rfl,rfl,rfl,rfl⟩⟩
  ·exact ⟨hu,ho⟩
  ·have hw:∀ x ∈ wds (s.extract p.1 p.2),Wrd x:=fun x hx=>zNQ hp hx
   refine UnF.tells r (n + 1) us' os' (fun q hq=>hl q (by simp [hq])) ?_ ?_ h
   ·rcases h1 with ⟨_,rfl,rfl⟩ | ⟨x,hx,rfl,rfl⟩ | ⟨o',ho',rfl,rfl⟩
    ·exact hu
    ·intro z hz
     rcases List.mem_append.1 hz with hz | hz
     ·exact hu z hz
     ·refine hw z ?_
      rw [hx]
      simp at hz
      simp [hz]
    ·exact hu
   ·rcases h1 with ⟨_,rfl,rfl⟩ | ⟨x,hx,rfl,rfl⟩ | ⟨o',ho',rfl,rfl⟩
    ·exact ho
    ·exact ho
    ·intro z hz
     rcases List.mem_append.1 hz with hz | hz
     ·exact ho z hz
     ·simp at hz
      rw [hz]
      exact ho'.tells hw
  ·exact ⟨fun x hx=>(by cases hx),fun x hx=>(by cases hx)⟩
theorem zn.tells {s:ByteArray} {u:List ByteArray} {o:List OpR} {b:ByteArray} {c l:Int} (h:zn s u o b c l):(∀ x ∈ u,Wrd x) /\ ∀ x ∈ o,OpT x:=by
 rcases h with ⟨_,rfl,rfl,_⟩ | ⟨_,h⟩
 ·exact ⟨fun x hx=>(by cases hx),fun x hx=>(by cases hx)⟩
 ·refine UnF.tells _ _ _ _ (fun p hp=>?_) (fun x hx=>by cases hx) (fun x hx=>by cases hx) h
  obtain ⟨_,h2,h3⟩:=zFJ 10 s _ 0 (Nat.zero_le _) p hp
  exact zKT h2 h3
def Ze:Nat -> Nat -> ByteArray
 | 0,_=>ByteArray.empty
 | f + 1,n=>if n < 10 then one (UInt8.ofNat (48 + n)) else Ze f (n / 10) ++ one (UInt8.ofNat (48 + n % 10))
theorem zK9 {a:ByteArray} {c:UInt8}:zx (a ++ one c) (a.size + 1) = zx a a.size * 10 + (c.toNat - 48):=by
 have h:∀ k,k <= a.size -> zx (a ++ one c) k = zx a k:=fun k hk=>by
  induction k with
  | zero=>rfl
  | succ k ih=>
   simp only [zx]
   rw [ih (by omega),zBz (by omega)]
 have e:bt (a ++ one c) a.size = c:=by have:=zBF (a:=a) (b:=one c) 0; rw [Nat.add_zero] at this; rw [this]; rfl
 simp only [zx]
 rw [h _ (Nat.le_refl _),e]
theorem zC2 {d:Nat} (h:d < 10):(UInt8.ofNat (48 + d)).toNat = 48 + d:=by
 simp only [UInt8.toNat_ofNat']
 exact Nat.mod_eq_of_lt (by omega)
theorem zKU:∀ (f n k:Nat),n < 10 ^ f -> n < 10 ^ k -> 1 <= k -> 1 <= f -> (1 <= (Ze f n).size /\ (Ze f n).size <= k /\ ∀ i,i < (Ze f n).size -> 48 <= (bt (Ze f n) i).toNat /\ (bt (Ze f n) i).toNat <= 57) /\ zx (Ze f n) (Ze f n).size = n
 | 0,n,k,_,_,_,h=>by omega
 | f + 1,n,k,hf,hk,h1,_=>by
  by_cases h:n < 10
  ·simp only [Ze,if_pos h]
   refine ⟨⟨by rw [zk]; omega,by rw [zk]; exact h1,fun i hi=>?_⟩,?_⟩
   ·rw [zk] at hi
    obtain rfl:i = 0:=by omega
    rw [zHZ,zC2 h]
    omega
   ·show zx (one _) 1 = n
    simp only [zx]
    rw [zHZ,zC2 h]
    omega
  ·simp only [Ze,if_neg h]
   have hp:(10:Nat) ^ (f + 1) = 10 ^ f * 10:=Nat.pow_succ ..
   have hf1:1 <= f:=by
    rcases Nat.eq_zero_or_pos f with rfl | x
    ·simp at hf; omega
    ·exact x
   obtain ⟨k',rfl⟩:∃ k',k = k' + 1:=⟨k - 1,by omega⟩
   have hq:(10:Nat) ^ (k' + 1) = 10 ^ k' * 10:=Nat.pow_succ ..
   have hk1:1 <= k':=by
    rcases Nat.eq_zero_or_pos k' with rfl | x
    ·simp at hk; omega
    ·exact x
   obtain ⟨⟨i1,i2,i3⟩,i4⟩:=zKU f (n / 10) k' (by omega) (by omega) hk1 hf1
   have hs:(Ze f (n / 10) ++ one (UInt8.ofNat (48 + n % 10))).size = (Ze f (n / 10)).size + 1:=by rw [zK,zk]
   refine ⟨⟨by omega,by omega,fun i hi=>?_⟩,?_⟩
   ·by_cases e:i < (Ze f (n / 10)).size
    ·rw [zBz e]; exact i3 i e
    ·obtain rfl:i = (Ze f (n / 10)).size:=by omega
     have:=zBF (a:=Ze f (n / 10)) (b:=one (UInt8.ofNat (48 + n % 10))) 0
     rw [Nat.add_zero] at this
     rw [this,zHZ,zC2 (Nat.mod_lt _ (by decide))]
     have:=Nat.mod_lt n (show 0 < 10 by decide)
     omega
   ·rw [hs,zK9,i4,zC2 (Nat.mod_lt _ (by decide))]
    omega
def sdW (sd:Int):ByteArray:=if sd = 1 then zCd else if sd = 2 then zBZ else zCe
def dW (o:OpR):List ByteArray:=
 if o.k = 1 then [Zi,o.s,Ze 7 o.l.toNat] else if o.k = 3 then [ZN,o.s,Ze 7 o.l.toNat] else [Z7,o.s,Ze 7 o.l.toNat,sdW o.sd]
theorem zKV {n:Nat} (h:n < 1000000):zJW (Ze 7 n) /\ zx (Ze 7 n) (Ze 7 n).size = n:=zKU 7 n 6 (by omega) (by omega) (by decide) (by decide)
theorem zOj {o:OpR} (h:OpT o):OpW (dW o) o:=by
 obtain ⟨h1,⟨n,hn,hn6⟩,h3⟩:=h
 obtain ⟨d1,d2⟩:=zKV hn6
 have e:o.l.toNat = n:=by rw [hn]; rfl
 obtain ⟨s,k,l,sd⟩:=o
 simp only at h3 hn h1 e
 subst hn
 rcases h3 with ⟨rfl,rfl⟩ | ⟨rfl,rfl⟩ | ⟨rfl,h3⟩
 ·refine ⟨_,_,_,d1,Or.inl ⟨rfl,Or.inl ⟨rfl,?_⟩⟩⟩
  show _ = (⟨s,1,(zx (Ze 7 n) (Ze 7 n).size:Int),0⟩:OpR)
  rw [d2]
 ·refine ⟨_,_,_,d1,Or.inl ⟨rfl,Or.inr ⟨rfl,?_⟩⟩⟩
  show _ = (⟨s,3,(zx (Ze 7 n) (Ze 7 n).size:Int),0⟩:OpR)
  rw [d2]
 ·refine ⟨_,_,_,d1,Or.inr ⟨sdW sd,rfl,rfl,?_⟩⟩
  rcases h3 with rfl | rfl | rfl
  ·exact ⟨by decide,by rw [d2]; rfl⟩
  ·exact ⟨by decide,by rw [d2]; rfl⟩
  ·exact ⟨by decide,by rw [d2]; rfl⟩
theorem zLl {x:ByteArray} (h:1 <= x.size) (h':∀ i,i < x.size -> 33 <= (bt x i).toNat):Wrd x:=
 ⟨h,fun i hi e=>by have:=h' i hi; rw [e] at this; exact absurd this (by decide),fun i hi e=>by have:=h' i hi; rw [e] at this; exact absurd this (by decide)⟩
theorem zNR {x:ByteArray} (h:zJW x):Wrd x:=zLl h.1 fun i hi=>by have:=(h.2.2 i hi).1; omega
theorem zBn {l:List UInt8} (h:l ≠ []) (h':∀ c ∈ l,33 <= c.toNat):Wrd (bB l):=zLl (by
  show 1 <= l.toArray.size
  cases l with
  | nil=>exact absurd rfl h
  | cons a r=>simp) fun i hi=>by
 have hi':i < l.length:=by simpa [bB,ByteArray.size] using hi
 have:bt (bB l) i = l[i]:=by simp [bt,bB,hi']
 rw [this]
 exact h' _ (List.getElem_mem hi')
theorem zPU {o:OpR} (h:OpT o):dW o ≠ [zh] /\ dW o ≠ [] /\ ∀ x ∈ dW o,Wrd x:=by
 obtain ⟨h1,⟨n,hn,hn6⟩,h3⟩:=h
 have hl:Wrd (Ze 7 o.l.toNat):=zNR (zKV (by rw [hn]; exact hn6)).1
 have p1:Wrd Zi:=zBn (l:=[112,114,101,102,105,120]) (by decide) (by decide)
 have p2:Wrd ZN:=zBn (l:=[112,111,115,116,102,105,120]) (by decide) (by decide)
 have p3:Wrd Z7:=zBn (l:=[105,110,102,105,120]) (by decide) (by decide)
 have p4:Wrd (sdW o.sd):=by
  unfold sdW
  split
  ·exact zBn (l:=[108,101,102,116]) (by decide) (by decide)
  ·split
   ·exact zBn (l:=[114,105,103,104,116]) (by decide) (by decide)
   ·exact zBn (l:=[110,111,110,101]) (by decide) (by decide)
 unfold dW
 split
 ·exact ⟨by simp,by simp,fun x hx=>by simp at hx; rcases hx with rfl | rfl | rfl <;> assumption⟩
 ·split
  ·exact ⟨by simp,by simp,fun x hx=>by simp at hx; rcases hx with rfl | rfl | rfl <;> assumption⟩
  ·exact ⟨by simp,by simp,fun x hx=>by simp at hx; rcases hx with rfl | rfl | rfl | rfl <;> assumption⟩
def hdW (us:List ByteArray) (os:List OpR):List (List ByteArray):=us.map (fun x=>[zEM,x]) ++ os.map dW
theorem zGp:∀ (os:List OpR) (us0:List ByteArray) (os0:List OpR),(∀ x ∈ os,OpT x) -> zKS (os.map dW) us0 os0 us0 (os0 ++ os)
 | [],_,_,_=>⟨rfl,by simp⟩
 | o :: r,us0,os0,h=>by
  obtain ⟨h1,h2,h3⟩:=zPU (h o (by simp))
  refine ⟨h1,h2,h3,us0,os0 ++ [o],Or.inr (Or.inr ⟨o,zOj (h o (by simp)),rfl,rfl⟩),?_⟩
  have:=zGp r us0 (os0 ++ [o]) (fun x hx=>h x (by simp [hx]))
  simpa using this
theorem zIN (os:List OpR) (ho:∀ x ∈ os,OpT x):∀ (us us0:List ByteArray),(∀ x ∈ us,Wrd x) -> zKS (hdW us os) us0 [] (us0 ++ us) os
 | [],us0,_=>by
  have:=zGp os us0 [] ho
  simpa [hdW] using this
 | x :: r,us0,h=>by
  have ih:=zIN os ho r (us0 ++ [x]) (fun z hz=>h z (by simp [hz]))
  refine ⟨by simp,by simp,fun z hz=>?_,us0 ++ [x],[],Or.inr (Or.inl ⟨x,rfl,rfl,rfl⟩),?_⟩
  ·simp at hz
   rcases hz with rfl | rfl
   ·exact zBn (l:=[117,115,101]) (by decide) (by decide)
   ·exact h z (by simp)
  ·simpa [hdW] using ih
def zDk (us:List ByteArray) (os:List OpR) (b:ByteArray):ByteArray:=lnT ((hdW us os).map ze ++ [zh]) b
theorem zJb {s:ByteArray} {us:List ByteArray} {os:List OpR} {b:ByteArray} {c l:Int} (h:zn s us os b c l) (hs:(zDk us os b).size <= 20000):zn (zDk us os b) us os b 0 0:=by
 obtain ⟨hu,ho⟩:=h.tells
 have h1:=zGo b (hdW us os) ByteArray.empty 1 [] us [] os (by simpa using zIN os ho us [] hu)
 have e:ByteArray.empty ++ lnT ((hdW us os).map ze ++ [zh]) b = zDk us os b:=by apply ByteArray.ext; simp [ByteArray.data_append,zDk]
 rw [e] at h1
 exact Or.inr ⟨hs,h1⟩
end Go.Proofs.YtgiemobdmbijiaaGreatDoor
namespace Go.Proofs.YtgiemobdmbijiaaGreatDoor
set_option maxHeartbeats 16000000
set_option maxRecDepth 100000
def atB (ws:List ByteArray) (i:Nat):ByteArray:=ws.getD i ByteArray.empty
end Go.Proofs.YtgiemobdmbijiaaGreatDoor
namespace Go.Proofs.YtgiemobdmbijiaaGreatDoor
set_option linter.unusedSimpArgs false
set_option linter.unusedVariables false
set_option maxHeartbeats 16000000
set_option maxRecDepth 100000
open Go.RowKit
def zCf (i:Nat):ByteArray:=one (UInt8.ofNat (109 + i % 8)) ++ (⟨#[95,49]⟩:ByteArray).extract 0 (i / 8 % 3)
theorem zFa (i:Nat):(zCf i).size <= 3:=by
 unfold zCf
 have:(⟨#[95,49]⟩:ByteArray).size = 2:=rfl
 rw [zK,zk,ByteArray.size_extract]
 omega
def usT (pre:ByteArray) (us:List ByteArray) (o:ByteArray):Nat -> ByteArray
 | 0=>o
 | j + 1=>usT pre us o j ++ pre ++ atB us j ++ ⟨#[10]⟩
theorem zDl {pre:ByteArray} {us:List ByteArray} {o:ByteArray} {M:Nat} (hp:pre.size <= 5) (hu:∀ j,(atB us j).size <= M):∀ j,(usT pre us o j).size <= o.size + (M + 6) * j
 | 0=>Nat.le_refl _
 | j + 1=>by
  have h1:=zDl hp hu (o:=o) j
  have h2:=hu j
  have:(⟨#[10]⟩:ByteArray).size = 1:=rfl
  simp only [usT,Nat.mul_add,Nat.mul_one]
  rw [zK,zK,zK]
  omega
def zGb (k:Nat):ByteArray:=(⟨#[117,115,101,32,32]⟩:ByteArray).extract 0 (4 + k / 8 % 2)
def zCb:ByteArray:=⟨#[117,115,101,32]⟩
theorem zGq (k:Nat):(zGb k).size <= 5:=by
 unfold zGb
 have:(⟨#[117,115,101,32,32]⟩:ByteArray).size = 5:=rfl
 rw [ByteArray.size_extract]
 omega
def zGr (k:Nat) (o:OpR):ByteArray:=if k % 8 = 6 then (⟨#[32,32]⟩:ByteArray) ++ ze (dW o) ++ ⟨#[32]⟩ else ze (dW o)
def hoT (k:Nat) (us:List ByteArray) (os:List OpR):Nat -> ByteArray
 | 0=>if k % 8 = 7 then ⟨#[32,10]⟩ else ⟨#[]⟩
 | i + 1=>(if i = k % 3 then usT (zGb k) us (hoT k us os i) us.length else hoT k us os i) ++ zGr k (atO os i) ++ ⟨#[10]⟩
def zGs (k:Nat) (us:List ByteArray) (os:List OpR):ByteArray:=
 (if os.length <= k % 3 then usT zCb us (hoT k us os os.length) us.length else hoT k us os os.length) ++ ⟨#[98,101,103,105,110,10]⟩
theorem zIO (n:Nat):(Ze 7 n).size <= 7:=by
 have:∀ (f n:Nat),(Ze f n).size <= f:=by
  intro f
  induction f with
  | zero=>intro n; simp [Ze]
  | succ f ih=>
   intro n
   simp only [Ze]
   split
   ·rw [zk]; omega
   ·rw [zK,zk]; have:=ih (n / 10); omega
 exact this 7 n
theorem zIP (sd:Int):(sdW sd).size <= 5:=by
 unfold sdW
 repeat' split
 all_goals decide
theorem zC3 {o:OpR} (h:o.s.size <= 16):(ze (dW o)).size <= 50:=by
 have h1:=zIO o.l.toNat
 have h2:=zIP o.sd
 have a1:Zi.size = 6:=rfl
 have a2:ZN.size = 7:=rfl
 have a3:Z7.size = 5:=rfl
 unfold dW
 repeat' split
 all_goals
  simp only [ze,zK,zk]
  omega
theorem zJc {k:Nat} {o:OpR} (h:o.s.size <= 16):(zGr k o).size <= 53:=by
 have:=zC3 h
 have a1:(⟨#[32,32]⟩:ByteArray).size = 2:=rfl
 have a2:(⟨#[32]⟩:ByteArray).size = 1:=rfl
 unfold zGr
 split
 ·rw [zK,zK]; omega
 ·omega
theorem zIQ {k:Nat} {us:List ByteArray} {os:List OpR} (hu:∀ j,(atB us j).size <= 100) (hul:us.length <= 100) (ho:∀ i,(atO os i).s.size <= 16):∀ i,(hoT k us os i).size <= 2 + 10700 * i
 | 0=>by
  simp only [hoT]
  split
  ·exact Nat.le_refl _
  ·exact Nat.zero_le _
 | i + 1=>by
  have h1:=zIQ hu hul ho (k:=k) i
  have h2:=zJc (k:=k) (ho i)
  have h3:=zDl (zGq k) hu (o:=hoT k us os i) us.length
  have:(⟨#[10]⟩:ByteArray).size = 1:=rfl
  simp only [hoT]
  rw [zK,zK]
  split <;> omega
def HdI (s:ByteArray) (o b:OpR) (ls:List (Nat × Nat)):Nat -> ByteArray -> Prop
 | 0,t=>t = ⟨#[]⟩
 | i + 1,t=>∃ t0,HdI s o b ls i t0 /\
   (
    (OpW (wds (s.extract (ls.getD i (0,0)).1 (ls.getD i (0,0)).2)) o /\ t = t0 ++ ze (dW b) ++ ⟨#[10]⟩) \/
    (¬ OpW (wds (s.extract (ls.getD i (0,0)).1 (ls.getD i (0,0)).2)) o /\ t = t0 ++ s.extract (ls.getD i (0,0)).1 (ls.getD i (0,0)).2 ++ ⟨#[10]⟩))
def bgN (s:ByteArray):List (Nat × Nat) -> Nat -> Nat
 | [],_=>0
 | p :: r,n=>if wds (s.extract p.1 p.2) = [zh] then n + 1 else bgN s r (n + 1)
def zLm (s:ByteArray) (o b:OpR) (t:ByteArray):Prop:=HdI s o b (pcs 10 s 0) (bgN s (pcs 10 s 0) 0) t
end Go.Proofs.YtgiemobdmbijiaaGreatDoor
namespace Go.Proofs.YtgiemobdmbijiaaGreatDoor
set_option maxHeartbeats 16000000
set_option maxRecDepth 100000
open Go.RowKit
def Z1 (w:World) (g:Nat) (xs:List OpR) (k:Nat):Prop:=
 g < w.heap.size /\ w.there g 0 (xs.length * 4) /\ ∀ i,i < k -> zBT w g 0 xs i
theorem Z1.below {w w':World} {g k:Nat} {xs:List OpR} {B:Nat} (h:Z1 w g xs k) (hb:Below B w w') (hB:g < B):Z1 w' g xs k:=by
 obtain ⟨h1,h2,h3⟩:=h
 refine ⟨Nat.lt_of_lt_of_le h1 hb.size,fun j hj=>?_,fun i hi=>(h3 i hi).below hb hB⟩
 have:=h2 j hj
 exact ⟨by rw [hb.cell (p:=⟨g,_,none⟩) hB]; exact this.1,by rw [hb.frozen (p:=⟨g,_,none⟩) hB]; exact this.2⟩
theorem zBT.setCell {w:World} {b off i:Nat} {xs:List OpR} (h:zBT w b off xs i) (p:Addr) (v:Value) (hp:p.block ≠ b):zBT (w.setCell p v) b off xs i:=by
 obtain ⟨h0,h1,h2,h3⟩:=h
 have e:∀ o,(w.setCell p v).cell? ⟨b,o,none⟩ = w.cell? ⟨b,o,none⟩:=fun o=>World.cell?_setCell_other _ _ _ _ (fun e=>hp (by rw [e]))
 exact ⟨(e _).trans h0,(e _).trans h1,(e _).trans h2,(e _).trans h3⟩
theorem Z1.setCell {w:World} {g k:Nat} {xs:List OpR} (h:Z1 w g xs k) (p:Addr) (v:Value) (hp:p.block ≠ g):Z1 (w.setCell p v) g xs k:=by
 obtain ⟨h1,h2,h3⟩:=h
 refine ⟨by simpa [World.setCell] using h1,fun j hj=>⟨?_,?_⟩,fun i hi=>(h3 i hi).setCell p v hp⟩
 ·rw [World.cell?_setCell_other _ _ _ _ (fun e=>hp (by rw [e]))]; exact (h2 j hj).1
 ·rw [World.frozen?_setCell]; exact (h2 j hj).2
theorem Z1.ops {w:World} {g:Nat} {xs:List OpR} (h:Z1 w g xs xs.length):Ops w g 0 xs:=fun i hi=>h.2.2 i hi
theorem Z8 {s t:ByteArray} (h:s.toList = t.toList):s = t:=by
 rw [ByteArray.toList_eq,ByteArray.toList_eq] at h
 obtain ⟨⟨a⟩⟩:=s
 obtain ⟨⟨b⟩⟩:=t
 simp at h
 rw [h]
structure zF (w w':World) (g:Nat):Prop where
 os:w'.os = w.os
 tape:w'.tape = w.tape
 output:w'.output = w.output
 size:w.heap.size <= w'.heap.size
 block:∀ i,i < w.heap.size -> i ≠ g -> w'.heap[i]? = w.heap[i]?
theorem zF.refl (w:World) (g:Nat):zF w w g:=⟨rfl,rfl,rfl,Nat.le_refl _,fun _ _ _=>rfl⟩
theorem zF.trans {w w1 w2:World} {g:Nat} (h:zF w w1 g) (h':zF w1 w2 g):zF w w2 g:=
 ⟨h'.os.trans h.os,h'.tape.trans h.tape,h'.output.trans h.output,Nat.le_trans h.size h'.size,fun i hi a=>(h'.block i (Nat.lt_of_lt_of_le hi h.size) a).trans (h.block i hi a)⟩
theorem zF.of_below {w w':World} {g:Nat} (h:Below w.heap.size w w'):zF w w' g:=⟨h.os,h.tape,h.output,h.size,fun i hi _=>h.block i hi⟩
theorem zF.cell {w w':World} {g:Nat} (h:zF w w' g) {b:Nat} (hb:b < w.heap.size) (h1:b ≠ g) (o:Nat):w'.cell? ⟨b,o,none⟩ = w.cell? ⟨b,o,none⟩:=
 World.cell?_of_block (w:=w) (h.block b hb h1)
theorem zF.frozen {w w':World} {g:Nat} (h:zF w w' g) {b:Nat} (hb:b < w.heap.size) (h1:b ≠ g) (o:Nat):w'.frozen? ⟨b,o,none⟩ = w.frozen? ⟨b,o,none⟩:=
 World.frozen?_of_block (w:=w) (h.block b hb h1)
theorem zF.below {w w':World} {g B:Nat} (h:zF w w' g) (hB:B <= w.heap.size) (h1:B <= g):Below B w w':=
 ⟨h.os,h.tape,h.output,h.size,fun i hi=>h.block i (by omega) (by omega)⟩
theorem zAw {g:Nat}:∀ (vs:List Value) (o:Nat) (w:World),zF w (w.setCells g o vs) g
 | [],_,w=>zF.refl w g
 | v :: r,o,w=>(show zF w (w.setCell ⟨g,o,none⟩ v) g from ⟨rfl,rfl,rfl,by simp [World.setCell],fun _ _ hi=>Below.heap_setCell _ _ _ _ hi⟩).trans (zAw r (o + 1) _)
theorem zF.ops {w w':World} {g b off:Nat} {xs:List OpR} (h:zF w w' g) (ho:Ops w b off xs) (hb:b < w.heap.size) (hne:b ≠ g):Ops w' b off xs:=fun i hi=>by
 obtain ⟨a0,a1,a2,a3⟩:=ho i hi
 have e:=h.cell hb hne
 exact ⟨(e _).trans a0,(e _).trans a1,(e _).trans a2,(e _).trans a3⟩
theorem zF.filled {w w':World} {g b k:Nat} {xs:List OpR} (h:zF w w' g) (ho:Z1 w b xs k) (hne:b ≠ g):Z1 w' b xs k:=by
 obtain ⟨h1,h2,h3⟩:=ho
 have e:=h.cell h1 hne
 have f:=h.frozen h1 hne
 refine ⟨Nat.lt_of_lt_of_le h1 h.size,fun j hj=>⟨by rw [e]; exact (h2 j hj).1,by rw [f]; exact (h2 j hj).2⟩,fun i hi=>?_⟩
 obtain ⟨a0,a1,a2,a3⟩:=h3 i hi
 exact ⟨(e _).trans a0,(e _).trans a1,(e _).trans a2,(e _).trans a3⟩
theorem ZE {w w':World} {g:Nat} (h:zF w w' g):w.grownBy w' (some g):=⟨h.os,h.tape,h.output,h.size,fun i hi e=>h.block i hi (fun x=>e (by rw [x]))⟩
end Go.Proofs.YtgiemobdmbijiaaGreatDoor
namespace Go.Proofs.YtgiemobdmbijiaaGreatDoor
set_option linter.unusedSimpArgs false
set_option maxHeartbeats 16000000
set_option maxRecDepth 100000
open Go.RowKit
def nxt (bs:List UInt8) (p:Nat):Nat:=(bs.getD p 0).toNat
def adv (bs:List UInt8) (p:Nat):Nat:=if p < bs.length then p + 1 else p
theorem zJd (bs:List UInt8) (p:Nat):nxt bs p < 256:=UInt8.toNat_lt _
theorem zEN {bs:List UInt8} {p:Nat} (h:p <= bs.length):adv bs p <= bs.length:=by unfold adv; split <;> omega
structure RdS (w:World) (rp:Nat) (a:Option Addr) (cap:Nat) (bs:List UInt8) (p:Nat):Prop where
 c0:w.cell? ⟨rp,0,none⟩ = some (.slice a bs.length cap)
 c1:w.cell? ⟨rp,1,none⟩ = some (.int .i64 (p:Int))
 fz:w.frozen? ⟨rp,1,none⟩ = false
 le:p <= bs.length
 bts:bs.length = 0 \/ ∃ b off,a = some ⟨b,off,none⟩ /\ b < rp /\ ∀ i,i < bs.length -> w.cell? ⟨b,off + i,none⟩ = some (.int .u8 ((bs.getD i 0).toNat:Int))
theorem RdS.lt {w:World} {rp cap p:Nat} {a:Option Addr} {bs:List UInt8} (h:RdS w rp a cap bs p):rp < w.heap.size:=block_lt_of_cell h.c0
theorem RdS.kept {w w':World} {rp cap p:Nat} {a:Option Addr} {bs:List UInt8} (h:RdS w rp a cap bs p) (hb:∀ i,i <= rp -> w'.heap[i]? = w.heap[i]?):RdS w' rp a cap bs p:=by
 have e:=fun o=>World.cell?_of_block (w:=w) (w':=w') (a:=⟨rp,o,none⟩) (hb rp (Nat.le_refl _))
 refine ⟨(e _).trans h.c0,(e _).trans h.c1,(World.frozen?_of_block (w:=w) (w':=w') (a:=⟨rp,1,none⟩) (hb rp (Nat.le_refl _))).trans h.fz,h.le,?_⟩
 rcases h.bts with h0 | ⟨b,off,ha,hlt,hc⟩
 ·exact Or.inl h0
 ·exact Or.inr ⟨b,off,ha,hlt,fun i hi=>(World.cell?_of_block (w:=w) (w':=w') (a:=⟨b,off + i,none⟩) (hb b (Nat.le_of_lt hlt))).trans (hc i hi)⟩
theorem RdS.below {w w':World} {rp cap p:Nat} {a:Option Addr} {bs:List UInt8} (h:RdS w rp a cap bs p) (hb:Below w.heap.size w w'):RdS w' rp a cap bs p:=
 h.kept (fun i hi=>hb.block i (by have:=h.lt; omega))
theorem RdS.move {w:World} {rp cap p:Nat} {a:Option Addr} {bs:List UInt8} (h:RdS w rp a cap bs p) (hp:p < bs.length) (n:Int) (hn:n = ((p + 1:Nat):Int)):RdS (w.setCell ⟨rp,1,none⟩ (.int .i64 n)) rp a cap bs (p + 1):=by
 subst hn
 refine ⟨(World.cell?_setCell_other _ _ _ _ (by simp)).trans h.c0,World.cell?_setCell_same _ _ _ h.c1,(World.frozen?_setCell _ _ _ _).trans h.fz,by omega,?_⟩
 rcases h.bts with h0 | ⟨b,off,ha,hlt,hc⟩
 ·exact Or.inl h0
 ·exact Or.inr ⟨b,off,ha,hlt,fun i hi=>(World.cell?_setCell_other _ _ _ _ (fun e=>by simp at e; first | done | omega)).trans (hc i hi)⟩
theorem Zt (w:World) (n g:Nat):zF w (w.drewN n) g:=⟨rfl,rfl,rfl,Nat.le_refl _,fun _ _ _=>rfl⟩
theorem zAl (w:World) (p o:Nat) (v:Value):zF w (w.setCell ⟨p,o,none⟩ v) p:=zAw [v] o w
theorem RdS.drewN {w:World} {rp cap p:Nat} {a:Option Addr} {bs:List UInt8} (h:RdS w rp a cap bs p) (n:Nat):RdS (w.drewN n) rp a cap bs p:=h.kept (fun _ _=>rfl)
theorem zLn (rp cap p:Nat) (a:Option Addr) (bs:List UInt8) (w:World) (h:RdS w rp a cap bs p) (hl:bs.length <= 1200) :
  Calls Tryz.prog 10 #[.pointer (some ⟨rp,0,none⟩)] w fun e w'=>e = .returned (.int .i64 (nxt bs p:Int)) /\ Hid (RdS w' rp a cap bs (adv bs p)) /\ zF w w' rp:=by
 have H:=zB h
 obtain ⟨c0,c1,fz,le,bts⟩:=h
 by_cases hp:p < bs.length
 ·have hpI:(p:Int) < (bs.length:Int):=by omega
  rcases bts with h0 | ⟨b,off,rfl,hlt,hc⟩
  ·omega
  have b0:=hc p hp
  have HA:=zB (show adv bs p = p + 1 by simp [adv,hp])
  have HN:=zB (show nxt bs p = (bs.getD p 0).toNat from rfl)
  clear hc
  go_enter Tryz.func10,Tryz.ntmps10
  go_wp2_with fail
  go_quiet (fail)
  go_wp2_with fail
  go_quiet (fail)
  go_wp2_with fail
  go_ret
  rw [zA HA]
  refine ⟨zG ?_,zB (((zA H).drewN _).move hp _ (by omega)),(Zt w _ _).trans (zAl _ rp 1 _)⟩
  have h8:nxt bs p < 256:=zJd bs p
  have h9:nxt bs p = bs[p].toNat:=by simp [nxt,hp]
  rw [h9] at h8 ⊢
  unfold wrap64
  omega
 ·have hpI:¬ (p:Int) < (bs.length:Int):=by omega
  have HA:=zB (show adv bs p = p by simp [adv,hp])
  have HN:=zB (show nxt bs p = 0 by simp [nxt,hp])
  go_enter Tryz.func10,Tryz.ntmps10
  go_wp2_with fail
  go_quiet (fail)
  go_wp2_with fail
  go_ret
  rw [zA HA,zA HN]
  exact ⟨rfl,zB ((zA H).drewN _),Zt w _ _⟩
theorem Z4 (rp cap p:Nat) (a:Option Addr) (bs:List UInt8) (w:World) (h:RdS w rp a cap bs p) (hl:bs.length <= 1200) :
  Calls Tryz.prog 10 #[.pointer (some ⟨rp,0,none⟩)] w fun e w'=>(∃ k:Nat,e = .returned (.int .i64 (k:Int)) /\ k < 256 /\ Hid (k = nxt bs p)) /\ Hid (RdS w' rp a cap bs (adv bs p)) /\ Hid (zF w w' rp):=by
 refine (zLn rp cap p a bs w h hl).mono ?_
 rintro e w' ⟨rfl,h1,h2⟩
 exact ⟨⟨nxt bs p,rfl,zJd bs p,zB rfl⟩,h1,zB h2⟩
theorem zB0 (rp cap p:Nat) (a:Option Addr) (bs:List UInt8) (w:World) (h:RdS w rp a cap bs p) (hl:bs.length <= 1200) :
  Calls Tryz.prog 78 #[.pointer (some ⟨rp,0,none⟩)] w fun e w'=>e = .returned (.int .i64 ((bs.length - p:Nat):Int)) /\ Hid (RdS w' rp a cap bs p) /\ Below w.heap.size w w':=by
 have H:=zB h
 obtain ⟨c0,c1,fz,le,bts⟩:=h
 clear bts
 go_enter Tryz.func78,Tryz.ntmps78
 go_wp2_with fail
 go_quiet (fail)
 go_wp2_with fail
 go_ret
 exact ⟨zG (by omega),zB ((zA H).drewN _),⟨rfl,rfl,rfl,Nat.le_refl _,fun _ _=>rfl⟩⟩
def zGc (l:List UInt8):List UInt8:=l.take 1200
def zLo (w:World) (a:Option Addr) (l:List UInt8):Prop:=l.length = 0 \/ ∃ b off,a = some ⟨b,off,none⟩ /\ b < w.heap.size /\ ∀ i,i < l.length -> w.cell? ⟨b,off + i,none⟩ = some (.int .u8 ((l.getD i 0).toNat:Int))
theorem zJe (a:Option Addr) (cap:Nat) (l:List UInt8) (w:World) (hl:l.length <= 1048576) (hcap:l.length <= cap) (h:zLo w a l) :
  Calls Tryz.prog 9 #[.slice a l.length cap] w fun e w'=>(∃ rp cap',e = .returned (.pointer (some ⟨rp,0,none⟩)) /\ w.heap.size <= rp /\ Hid (RdS w' rp a cap' (zGc l) 0)) /\ Below w.heap.size w w':=by
 have H:=zB h
 clear h
 by_cases h12:1200 < l.length
 ·have h12':(1200:Int) < (l.length:Int):=by omega
  rcases zA H with h0 | ⟨b,off,rfl,hb,hc⟩
  ·omega
  have HC:=zB hc
  clear hc
  have hci:(1200:Int) <= (cap:Int):=by omega
  go_enter Tryz.func9,Tryz.ntmps9
  go_wp2_with fail
  go_ret
  have hr:RdS (w.alloc (.cells #[.slice (some ⟨b,off,none⟩) 1200 cap,.int .i64 0] 58)) w.heap.size (some ⟨b,off,none⟩) cap (zGc l) 0:=by
   have hlen:(zGc l).length = 1200:=by simp [zGc]; omega
   refine ⟨by rw [hlen]; simp [go_sem],by simp [go_sem],by simp [go_sem],Nat.zero_le _,Or.inr ⟨b,off,rfl,hb,fun i hi=>?_⟩⟩
   rw [hlen] at hi
   rw [(zC w _).cell (p:=⟨b,off + i,none⟩) hb,(zA HC) i (by omega)]
   simp [zGc,hi,List.getElem?_take]
  refine ⟨?_,zC _ _⟩
  first
   | exact ⟨w.heap.size,cap,rfl,Nat.le_refl _,zB hr⟩
   | exact ⟨w.heap.size,rfl,Nat.le_refl _,cap,zB hr⟩
 ·have h12':¬ (1200:Int) < (l.length:Int):=by omega
  have HE:=zB (show zGc l = l from List.take_of_length_le (by omega))
  go_enter Tryz.func9,Tryz.ntmps9
  go_wp2_with fail
  go_ret
  have hr:RdS (w.alloc (.cells #[.slice a l.length cap,.int .i64 0] 58)) w.heap.size a cap (zGc l) 0:=by
   rw [zA HE]
   refine ⟨by simp [go_sem],by simp [go_sem],by simp [go_sem],Nat.zero_le _,?_⟩
   rcases zA H with h0 | ⟨b,off,rfl,hb,hc⟩
   ·exact Or.inl h0
   ·exact Or.inr ⟨b,off,rfl,hb,fun i hi=>((zC w _).cell (p:=⟨b,off + i,none⟩) hb).trans (hc i hi)⟩
  refine ⟨?_,zC _ _⟩
  first
   | exact ⟨w.heap.size,cap,rfl,Nat.le_refl _,zB hr⟩
   | exact ⟨w.heap.size,rfl,Nat.le_refl _,cap,zB hr⟩
def zNS:Value -> Nat
 | .slice _ n _=>n
 | _=>0
theorem zLp (l:List UInt8):(zGc l).length <= 1200:=by unfold zGc; simp; omega
end Go.Proofs.YtgiemobdmbijiaaGreatDoor
namespace Go.Proofs.YtgiemobdmbijiaaGreatDoor
set_option maxHeartbeats 16000000
set_option maxRecDepth 100000
open Go.RowKit
theorem zO {w w':World} (h:Below w.heap.size w w') (row:Option Nat):w.grownBy w' row:=⟨h.os,h.tape,h.output,h.size,fun i hi _=>h.block i hi⟩
theorem zc {w w1 w2:World} {row:Option Nat} (h:Below w.heap.size w w1) (h2:w1.grownBy w2 row):w.grownBy w2 row:=
 ⟨h2.os.trans h.os,h2.tape.trans h.tape,h2.output.trans h.output,Nat.le_trans h.size h2.size,fun i hi hr=>(h2.block i (Nat.lt_of_lt_of_le hi h.size) hr).trans (h.block i hi)⟩
theorem zP {w w1 w2:World} {row row':Option Nat} (h:w.grownBy w1 row) (h2:w1.grownBy w2 row') (hr:row' = row \/ ∃ k,row' = some k /\ w.heap.size <= k):w.grownBy w2 row:=
 ⟨h2.os.trans h.os,h2.tape.trans h.tape,h2.output.trans h.output,Nat.le_trans h.size h2.size,fun i hi hne=>(h2.block i (Nat.lt_of_lt_of_le hi h.size) (fun e=>by
  rcases hr with rfl | ⟨k,rfl,hk⟩
  ·exact hne e
  ·injection e with e; omega)).trans (h.block i hi hne)⟩
theorem zE {w w':World} {row:Option Nat} (h:w.grownBy w' row) {b:Nat} (hb:b < w.heap.size) (hne:row ≠ some b) (o:Nat):w'.cell? ⟨b,o,none⟩ = w.cell? ⟨b,o,none⟩:=
 World.cell?_of_block (w:=w) (h.block b hb (fun e=>hne e.symm))
theorem Z9 {w w':World} {row row':Option Nat} (h:w.grownBy w' row) (hr:row' = row \/ ∃ k,row' = some k /\ w.heap.size <= k) (r:Option Nat) (hr2:r = row' \/ ∃ k,r = some k /\ w'.heap.size <= k):r = row \/ ∃ k,r = some k /\ w.heap.size <= k:=by
 have:=h.size
 rcases hr2 with rfl | ⟨k,rfl,hk⟩
 ·exact hr
 ·exact Or.inr ⟨k,rfl,by omega⟩
theorem zQ {t:TypeId} {z:Value} {s b:Nat} (h:(Tryz.prog.info? t).map (fun i=>(i.zero,i.size,i.bytes)) = some (some z,s,b)):∃ i,Tryz.prog.info? t = some i /\ i.zero = some z /\ i.size = s /\ i.bytes = b:=by
 obtain ⟨i,hi,hz⟩:=Option.map_eq_some_iff.1 h
 simp only [Prod.mk.injEq] at hz
 exact ⟨i,hi,hz.1,hz.2.1,hz.2.2⟩
structure zT where
 k:Int
 g:ByteArray
 t:ByteArray
def zT.zero:zT:=⟨0,⟨#[]⟩,⟨#[]⟩⟩
def atT (xs:List zT) (i:Nat):zT:=xs.getD i zT.zero
def zEO (w:World) (b off:Nat) (xs:List zT) (i:Nat):Prop:=
 w.cell? ⟨b,off + i * 3,none⟩ = some (.int .i64 (atT xs i).k) /\ w.cell? ⟨b,off + i * 3 + 1,none⟩ = some (.string (atT xs i).g) /\ w.cell? ⟨b,off + i * 3 + 2,none⟩ = some (.string (atT xs i).t)
def zEP (w:World) (b off:Nat) (xs:List zT):Prop:=∀ i,i < xs.length -> zEO w b off xs i
theorem zEO.below {w w':World} {b off i:Nat} {xs:List zT} {B:Nat} (h:zEO w b off xs i) (hb:Below B w w') (hB:b < B):zEO w' b off xs i:=by
 obtain ⟨h0,h1,h2⟩:=h
 exact ⟨(hb.cell (p:=⟨b,_,none⟩) hB).trans h0,(hb.cell (p:=⟨b,_,none⟩) hB).trans h1,(hb.cell (p:=⟨b,_,none⟩) hB).trans h2⟩
theorem zEP.below {w w':World} {b off:Nat} {xs:List zT} {B:Nat} (h:zEP w b off xs) (hb:Below B w w') (hB:b < B):zEP w' b off xs:=
 fun i hi=>(h i hi).below hb hB
def zNT (o:zT):Nat:=o.g.size + o.t.size
def Zp (xs:List zT):Nat -> Nat
 | 0=>0
 | k + 1=>Zp xs k + zNT (atT xs k)
def zKW (w:World) (g:Nat) (xs:List zT) (k:Nat):Prop:=
 g < w.heap.size /\ w.there g 0 (xs.length * 3) /\ ∀ i,i < k -> zEO w g 0 xs i
theorem zPV:(Tryz.prog.info? 125).map (fun i=>(i.zero,i.size,i.bytes)) = some (some (.agg #[.int .i64 0,.string ⟨#[]⟩,.string ⟨#[]⟩]),3,40):=by kernel_rfl
end Go.Proofs.YtgiemobdmbijiaaGreatDoor
