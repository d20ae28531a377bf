import Derived.Test.YtfboipappaonhaaGreatM00
import Derived.Test.YtfboipappaonhaaGreatM21
namespace Go.Proofs.YtfboipappaonhaaGreat
set_option linter.unusedSimpArgs false
set_option linter.unusedVariables false
set_option maxHeartbeats 16000000
set_option maxRecDepth 100000
open Go.RowKit
open Go.Deep (BT)
structure ZR where
 t:ByteArray
 o:Bool
 i:Bool
def ZR.zero:ZR:=⟨⟨#[]⟩,false,false⟩
def atW (xs:List ZR) (i:Nat):ZR:=xs.getD i ZR.zero
def opn:ByteArray:=⟨#[40]⟩
def zAl:ByteArray:=⟨#[41]⟩
abbrev SyR:=Nat × ByteArray
def ySy:ET -> List SyR
 | .nil=>[]
 | .node b _ t l r=>
  if b = 6 then (6,opn) :: (ySy l ++ [(7,zAl)])
  else if b = 3 then (3,t) :: ySy l
  else if b = 5 then ySy l ++ [(5,t)]
  else if b = 4 then ySy l ++ ((4,t) :: ySy r)
  else [(b,t)]
def wS (s:SyR):ZR:=⟨s.2,decide (3 <= s.1 /\ s.1 <= 5),decide (s.1 = 4)⟩
def yT (T:ET):List ZR:=(ySy T).map wS
theorem zGy:∀ {T:ET},Sh T -> 1 <= (ySy T).length
 | .nil,h=>h.elim
 | .node b o t l r,h=>by
  simp only [ySy]
  split
  ·simp
  ·split
   ·simp
   ·split
    ·simp
    ·split
     ·simp; omega
     ·simp
theorem zM9 {T:ET} (h:Sh T):1 <= (yT T).length:=by
 rw [yT,List.length_map]
 exact zGy h
end Go.Proofs.YtfboipappaonhaaGreat
namespace Go.Proofs.YtfboipappaonhaaGreat
set_option linter.unusedSimpArgs false
set_option linter.unusedVariables false
set_option maxHeartbeats 16000000
set_option maxRecDepth 100000
theorem zDd {a b:ByteArray} {i:Nat} (h:i < a.size):bt (a ++ b) i = bt a i:=by
 unfold bt
 rw [ByteArray.data_append,Array.getElem?_append_left (by simpa using h)]
theorem zB6 {a b:ByteArray} (i:Nat):bt (a ++ b) (a.size + i) = bt b i:=by
 unfold bt
 rw [ByteArray.data_append,Array.getElem?_append_right (show a.data.size <= a.size + i from Nat.le_add_right _ _)]
 have e:a.size + i - a.data.size = i:=by show a.data.size + i - a.data.size = i; omega
 rw [e]
theorem zFP (a b c:ByteArray):a ++ b ++ c = a ++ (b ++ c):=by
 apply ByteArray.ext
 simp [ByteArray.data_append,Array.append_assoc]
theorem zAr (a b:ByteArray):(a ++ b).size = a.size + b.size:=by simp
theorem zGz (a:ByteArray):a.size = a.data.toList.length:=rfl
theorem zIj {a b:ByteArray} (h:a.data.toList = b.data.toList):a = b:=by
 apply ByteArray.ext
 exact Array.ext' h
theorem zK4 (s:ByteArray) (i j:Nat):(s.extract i j).data.toList = (s.data.toList.drop i).take (j - i):=by
 rw [ByteArray.data_extract,Array.toList_extract,List.extract_eq_take_drop]
theorem zDG (a b:ByteArray):(a ++ b).data.toList = a.data.toList ++ b.data.toList:=by rw [ByteArray.data_append,Array.toList_append]
theorem zG0 (a l r:ByteArray):(a ++ (l ++ r)).extract a.size (a.size + l.size) = l:=by
 apply zIj
 rw [zK4,zDG,zDG,zGz a,zGz l,List.drop_left,Nat.add_sub_cancel_left,List.take_left]
theorem zL8 (a r:ByteArray):(a ++ r).extract a.size (a ++ r).size = r:=by
 apply zIj
 rw [zK4,zDG,zAr,zGz a,zGz r,List.drop_left,Nat.add_sub_cancel_left,List.take_length]
def one (c:UInt8):ByteArray:=⟨#[c]⟩
theorem zK5 (c:UInt8):(one c).size = 1:=rfl
theorem zNA (c:UInt8):bt (one c) 0 = c:=rfl
end Go.Proofs.YtfboipappaonhaaGreat
namespace Go.Proofs.YtfboipappaonhaaGreat
set_option linter.unusedSimpArgs false
set_option linter.unusedVariables false
set_option maxHeartbeats 16000000
set_option maxRecDepth 100000
open Go.RowKit
def WdK (ns:List OpR) (t:ByteArray) (k:Nat):Prop:=(k = 1 /\ zJ1 t) \/ (k = 2 /\ zE0 t) \/ (k = 3 /\ opT ns t) \/ (k = 4 /\ t = opn) \/ (k = 5 /\ t = zAl)
def Sep (k:Nat) (R:ByteArray):Prop:=0 < R.size -> ((k = 1 \/ k = 2) -> cls (bt R 0) ≠ 2 /\ cls (bt R 0) ≠ 3) /\ (k = 3 -> cls (bt R 0) ≠ 6)
theorem zFQ {ns:List OpR} (hv:ZZ ns) {t:ByteArray} (h:opT ns t):1 <= t.size /\ ∀ q,q < t.size -> cls (bt t q) = 6:=by
 obtain ⟨j,hj,rfl⟩:=h
 exact ⟨(hv j hj).1,(hv j hj).2.2⟩
theorem zJW {ns:List OpR} (hv:ZZ ns) {t:ByteArray} {k:Nat} (h:WdK ns t k):1 <= t.size:=by
 rcases h with ⟨_,h⟩ | ⟨_,h⟩ | ⟨_,h⟩ | ⟨_,rfl⟩ | ⟨_,rfl⟩
 ·exact h.1
 ·exact h.1
 ·exact (zFQ hv h).1
 ·decide
 ·decide
theorem zKB {ns:List OpR} (hv:ZZ ns) {t:ByteArray} {k:Nat} (h:WdK ns t k):cls (bt t 0) ≠ 1:=by
 rcases h with ⟨_,h⟩ | ⟨_,h⟩ | ⟨_,h⟩ | ⟨_,rfl⟩ | ⟨_,rfl⟩
 ·rw [h.2 0 h.1]; decide
 ·rcases h.2 0 h.1 with e | ⟨e,_⟩
  ·rw [e]; decide
  ·exact absurd rfl e
 ·rw [(zFQ hv h).2 0 (zFQ hv h).1]; decide
 ·decide
 ·decide
theorem zIk {ns:List OpR} (hv:ZZ ns) (P w R:ByteArray) {k:Nat} (h:WdK ns w k) (hs:Sep k R):zAu ns (P ++ (w ++ R)) P.size w.size k:=by
 have h1:=zJW hv h
 have hz:(P ++ (w ++ R)).size = P.size + (w.size + R.size):=by rw [zAr,zAr]
 have b1:∀ j,j < w.size -> bt (P ++ (w ++ R)) (P.size + j) = bt w j:=fun j hj=>by rw [zB6,zDd hj]
 have b0:bt (P ++ (w ++ R)) P.size = bt w 0:=b1 0 h1
 have b2:bt (P ++ (w ++ R)) (P.size + w.size) = bt R 0:=by
  rw [zB6]
  have:=zB6 (a:=w) (b:=R) 0
  rw [Nat.add_zero] at this
  exact this
 have hR:P.size + w.size < (P ++ (w ++ R)).size -> 0 < R.size:=fun x=>by omega
 refine ⟨h1,by omega,?_⟩
 rcases h with ⟨rfl,h⟩ | ⟨rfl,h⟩ | ⟨rfl,h⟩ | ⟨rfl,rfl⟩ | ⟨rfl,rfl⟩
 ·exact Or.inl ⟨by rw [b0]; exact h.2 0 h1,rfl,fun j hj=>by rw [b1 j hj]; exact h.2 j hj,fun x=>by rw [b2]; exact ((hs (hR x)).1 (Or.inl rfl)).1⟩
 ·refine Or.inr (Or.inl ⟨?_,rfl,fun j hj=>?_,fun x=>?_⟩)
  ·rw [b0]
   rcases h.2 0 h1 with e | ⟨e,_⟩
   ·exact e
   ·exact absurd rfl e
  ·rw [b1 j hj]
   rcases h.2 j hj with e | ⟨_,e⟩
   ·exact Or.inr e
   ·exact Or.inl e
  ·rw [b2]
   have:=(hs (hR x)).1 (Or.inr rfl)
   exact fun y=>y.elim this.1 this.2
 ·have hc:=zFQ hv h
  have e:sub (P ++ (w ++ R)) P.size w.size = w:=zG0 P w R
  refine Or.inr (Or.inr (Or.inr (Or.inr (Or.inl ⟨by rw [b0]; exact hc.2 0 h1,Or.inl ⟨rfl,by rw [e]; exact h,fun m hm hms ho=>?_⟩⟩))))
  have hcm:=zFQ hv ho
  have hR':0 < R.size:=by omega
  have:=hcm.2 w.size (by rw [zDP hms]; exact hm)
  rw [zKk hms hm,b2] at this
  exact (hs hR').2 rfl this
 ·exact Or.inr (Or.inr (Or.inl ⟨by rw [b0]; decide,rfl,rfl⟩))
 ·exact Or.inr (Or.inr (Or.inr (Or.inl ⟨by rw [b0]; decide,rfl,rfl⟩)))
structure GwR where
 g:ByteArray
 w:ByteArray
 k:Nat
def spr:List GwR -> ByteArray -> ByteArray
 | [],e=>e
 | x :: r,e=>x.g ++ (x.w ++ spr r e)
def Bl (g:ByteArray):Prop:=∀ i,i < g.size -> cls (bt g i) = 1
def zG1 (ns:List OpR):List GwR -> ByteArray -> Prop
 | [],e=>Bl e
 | x :: r,e=>Bl x.g /\ WdK ns x.w x.k /\ Sep x.k (spr r e) /\ zG1 ns r e
def zK6 (x:GwR):zS:=⟨(x.k:Int),x.g,x.w⟩
theorem zGJ {ns:List OpR} (hv:ZZ ns):∀ (xs:List GwR) (e a:ByteArray),zG1 ns xs e -> ZP ns (a ++ spr xs e) a.size (xs.map zK6 ++ [⟨7,e,⟨#[]⟩⟩])
 | [],e,a,h=>by
  have hz:=zAr a e
  have:=ZP.fin (xs:=ns) (s:=a ++ e) (i:=a.size) (by omega) (fun q h1 h2=>by
   obtain ⟨j,rfl⟩:=Nat.exists_eq_add_of_le h1
   rw [zB6]
   exact h j (by omega))
  rw [zL8] at this
  exact this
 | x :: r,e,a,h=>by
  obtain ⟨h1,h2,h3,h4⟩:=h
  have ih:=zGJ hv r e (a ++ x.g ++ x.w) h4
  have hp:=zJW hv h2
  have e1:a ++ x.g ++ x.w ++ spr r e = a ++ (x.g ++ (x.w ++ spr r e)):=by rw [zFP,zFP]
  have e2:(a ++ x.g ++ x.w).size = a.size + x.g.size + x.w.size:=by rw [zAr,zAr]
  have e3:(a ++ x.g) ++ (x.w ++ spr r e) = a ++ (x.g ++ (x.w ++ spr r e)):=by rw [zFP]
  have e4:(a ++ x.g).size = a.size + x.g.size:=zAr _ _
  have hz:(a ++ (x.g ++ (x.w ++ spr r e))).size = a.size + (x.g.size + (x.w.size + (spr r e).size)):=by rw [zAr,zAr,zAr]
  rw [e1,e2] at ih
  have ht:=zIk hv (a ++ x.g) x.w (spr r e) h2 h3
  have hx:=zG0 (a ++ x.g) x.w (spr r e)
  have hb:=zB6 (a:=a ++ x.g) (b:=x.w ++ spr r e) 0
  rw [e3,e4] at ht hx hb
  have hg:=zG0 a x.g (x.w ++ spr r e)
  have:=ZP.tok (xs:=ns) (s:=a ++ (x.g ++ (x.w ++ spr r e))) (i:=a.size) (j:=a.size + x.g.size) (n:=x.w.size) (k:=x.k) (by omega) (by omega) (fun q q1 q2=>by
   obtain ⟨j,rfl⟩:=Nat.exists_eq_add_of_le q1
   rw [zB6,zDd (by omega)]
   exact h1 j (by omega)) (by
   rw [Nat.add_zero] at hb
   rw [hb,zDd hp]
   exact zKB hv h2) ht ih
  rw [hg,hx] at this
  exact this
theorem zHw {ns:List OpR} (hv:ZZ ns) (xs:List GwR) (e:ByteArray) (h:zG1 ns xs e):ZP ns (spr xs e) 0 (xs.map zK6 ++ [⟨7,e,⟨#[]⟩⟩]):=by
 have:=zGJ hv xs e ByteArray.empty h
 have e1:ByteArray.empty ++ spr xs e = spr xs e:=by apply ByteArray.ext; simp [ByteArray.data_append]
 rw [e1] at this
 exact this
end Go.Proofs.YtfboipappaonhaaGreat
namespace Go.Proofs.YtfboipappaonhaaGreat
set_option linter.unusedSimpArgs false
set_option linter.unusedVariables false
set_option maxHeartbeats 16000000
set_option maxRecDepth 100000
open Go.RowKit
open Go.Deep (BT)
def sLv (ns:List OpR) (s:SyR):Int:=ZI ns (rt s.1 s.2)
def sH (ns:List OpR) (s:SyR) (b:Bool):Int:=zT ns (rt s.1 s.2) b
def sSo (ns:List OpR) (s:SyR):Int:=srt (opA ns (rt s.1 s.2)).k (opA ns (rt s.1 s.2)).sd
def knB (ns:List OpR) (s:SyR):Bool:=(fnd ns s.2 ((s.1:Int) - 2)).isSome
structure OpF (ns:List OpR) (s:SyR):Prop where
 lo:1 <= sLv ns s
 hi:sLv ns s <= 1000
 pre:s.1 = 3 -> sH ns s false = sLv ns s /\ sSo ns s = 2
 post:s.1 = 5 -> sH ns s false = sLv ns s /\ sSo ns s = 1
 mid:s.1 = 4 -> (sSo ns s = 1 /\ sH ns s false = sLv ns s /\ sH ns s true = sLv ns s + 1) \/ (sSo ns s = 2 /\ sH ns s false = sLv ns s + 1 /\ sH ns s true = sLv ns s) \/ (sSo ns s = 3 /\ sH ns s false = sLv ns s + 1 /\ sH ns s true = sLv ns s + 1)
theorem zCe {ns:List OpR} (h:zO ns 0):zAD ns ns.length /\ ¬ Pr 4 ns:=by
 rcases h with ⟨h,_⟩ | ⟨_,⟨h,_⟩ | ⟨hok,⟨h,_⟩ | ⟨_,⟨h,_⟩ | ⟨_,h4⟩⟩⟩⟩
 ·exact absurd h (by decide)
 ·exact absurd h (by decide)
 ·exact absurd h (by decide)
 ·exact absurd h (by decide)
 ·exact ⟨hok,h4⟩
theorem zDe {ns:List OpR} {s:SyR} (hk:knB ns s = true):∃ j,j < ns.length /\ fnd ns s.2 ((s.1:Int) - 2) = some j /\ (atO ns j).k = (s.1:Int) - 2 /\ opA ns (rt s.1 s.2) = atO ns j:=by
 unfold knB at hk
 obtain ⟨j,hj⟩:=Option.isSome_iff_exists.1 hk
 have:=Ze hj
 refine ⟨j,this.1,hj,this.2.2,?_⟩
 unfold opA rt
 simp only
 rw [hj]
theorem opF {ns:List OpR} (h:zO ns 0) {s:SyR} (hs:s.1 = 3 \/ s.1 = 4 \/ s.1 = 5) (hk:knB ns s = true):OpF ns s:=by
 obtain ⟨j,hj,hf,hkk,ho⟩:=zDe hk
 have hok:=(zCe h).1 j hj
 have hlv:sLv ns s = (atO ns j).l:=by
  unfold sLv ZI rt
  simp only
  rw [if_pos (by omega),hf]
 have hh:∀ b,sH ns s b = zm (atO ns j).s (atO ns j).k (atO ns j).l (atO ns j).sd b:=fun b=>by
  unfold sH zT rt
  simp only
  rw [hf]
  rfl
 have hso:sSo ns s = srt (atO ns j).k (atO ns j).sd:=by unfold sSo; rw [ho]
 have hok':okB (atO ns j).s (atO ns j).k (atO ns j).l (atO ns j).sd = true:=hok
 have hok2:=hok'
 unfold okB zEO at hok2
 simp only [Bool.and_eq_true,Bool.or_eq_true,decide_eq_true_eq,beq_iff_eq] at hok2
 obtain ⟨⟨⟨_,h1⟩,h2⟩,h3⟩:=hok2
 refine ⟨by omega,by omega,fun e=>?_,fun e=>?_,fun e=>?_⟩
 ·have k1:(atO ns j).k = 1:=by omega
  rw [hh,hlv,hso,zm,srt,k1]
  simp_all
 ·have k1:(atO ns j).k = 3:=by omega
  rw [hh,hlv,hso,zm,srt,k1]
  simp_all
 ·have k1:(atO ns j).k = 2:=by omega
  rw [hh,hh,hlv,hso,zm,zm,srt,k1]
  rw [k1] at hok' h3
  rw [hok']
  have h3':(atO ns j).sd = 1 \/ (atO ns j).sd = 2 \/ (atO ns j).sd = 3:=by simp at h3; omega
  rcases h3' with e | e | e <;> simp [zHb,e]
theorem zGK {ns:List OpR} (h:zO ns 0) {s s':SyR} (hs:s.1 = 3 \/ s.1 = 4 \/ s.1 = 5) (hs':s'.1 = 3 \/ s'.1 = 4 \/ s'.1 = 5) (hk:knB ns s = true) (hk':knB ns s' = true) (he:sLv ns s = sLv ns s'):sSo ns s = sSo ns s':=by
 obtain ⟨j,hj,hf,hkk,ho⟩:=zDe hk
 obtain ⟨j',hj',hf',hkk',ho'⟩:=zDe hk'
 have hlv:sLv ns s = (atO ns j).l:=by unfold sLv ZI rt; simp only; rw [if_pos (by omega),hf]
 have hlv':sLv ns s' = (atO ns j').l:=by unfold sLv ZI rt; simp only; rw [if_pos (by omega),hf']
 unfold sSo
 rw [ho,ho']
 by_cases hd:srt (atO ns j).k (atO ns j).sd = srt (atO ns j').k (atO ns j').sd
 ·exact hd
 ·exfalso
  apply (zCe h).2
  rcases Nat.lt_trichotomy j j' with e | e | e
  ·exact ⟨j',j,e,hj',by simp [cl]; exact ⟨by omega,fun x=>hd x.symm⟩⟩
  ·subst e; exact absurd rfl hd
  ·exact ⟨j,j',e,hj,by simp [cl]; exact ⟨by omega,hd⟩⟩
def lvT (ns:List OpR):ET -> Int
 | .nil=>1001
 | .node b _ t _ _=>sLv ns (b,t)
def zl (ns:List OpR):ET -> Prop
 | .nil=>False
 | .node b o t l r=>o = 0 /\ (((b = 1 \/ b = 2) /\ l = .nil /\ r = .nil) \/
   (b = 6 /\ t = ByteArray.empty /\ zl ns l /\ r = .nil) \/
   ((b = 3 \/ b = 5) /\ knB ns (b,t) = true /\ zl ns l /\ r = .nil /\ sH ns (b,t) false <= lvT ns l) \/
   (b = 4 /\ knB ns (b,t) = true /\ zl ns l /\ zl ns r /\ sH ns (b,t) false <= lvT ns l /\ sH ns (b,t) true <= lvT ns r))
theorem Z2 (ns:List OpR) (b:Nat) (t:ByteArray) (h:¬ (b = 3 \/ b = 4 \/ b = 5)):sLv ns (b,t) = 1001:=by
 unfold sLv ZI rt
 simp only
 rw [if_neg (by omega)]
theorem zl.sh {ns:List OpR}:∀ {T:ET},zl ns T -> Sh T
 | .nil,h=>h.elim
 | .node b o t l r,⟨h0,h⟩=>by
  refine ⟨h0,?_⟩
  rcases h with ⟨h | h,rfl,rfl⟩ | ⟨rfl,_,hl,rfl⟩ | ⟨h | h,_,hl,rfl,_⟩ | ⟨rfl,_,hl,hr,_⟩
  ·subst h; exact Or.inl ⟨by decide,rfl,rfl⟩
  ·subst h; exact Or.inl ⟨by decide,rfl,rfl⟩
  ·exact Or.inr (Or.inl ⟨by decide,hl.sh,rfl⟩)
  ·subst h; exact Or.inr (Or.inl ⟨by decide,hl.sh,rfl⟩)
  ·subst h; exact Or.inr (Or.inl ⟨by decide,hl.sh,rfl⟩)
  ·exact Or.inr (Or.inr ⟨by decide,hl.sh,hr.sh⟩)
def rd (ns:List OpR):Nat -> Int -> Option ET -> List SyR -> Option (ET × List SyR)
 | 0,_,_,_=>none
 | _ + 1,_,none,[]=>none
 | n + 1,least,none,s :: r=>
  if s.1 = 3 then (if sLv ns s < least then none else (match rd ns n (sH ns s false) none r with
   | none=>none
   | some x=>rd ns n least (some (.node 3 0 s.2 x.1 .nil)) x.2))
  else if s.1 = 6 then (match rd ns n 0 none r with
   | none=>none
   | some x=>rd ns n least (some (.node 6 0 ByteArray.empty x.1 .nil)) x.2.tail)
  else rd ns n least (some (.node s.1 0 s.2 .nil .nil)) r
 | _ + 1,_,some T,[]=>some (T,[])
 | n + 1,least,some T,s :: r=>
  if s.1 = 4 /\ least <= sLv ns s then (if lvT ns T < sH ns s false then none else (match rd ns n (sH ns s true) none r with
   | none=>none
   | some x=>rd ns n least (some (.node 4 0 s.2 T x.1)) x.2))
  else if s.1 = 5 /\ least <= sLv ns s then (if lvT ns T < sH ns s false then none else rd ns n least (some (.node 5 0 s.2 T .nil)) r)
  else some (T,s :: r)
theorem zAO (ns:List OpR):∀ n least md ss x,rd ns n least md ss = some x -> x.2.length <= ss.length
 | 0,_,_,_,_,h=>by simp [rd] at h
 | n + 1,least,none,[],x,h=>by simp [rd] at h
 | n + 1,least,none,s :: r,x,h=>by
  simp only [rd] at h
  split at h
  ·split at h
   ·cases h
   ·split at h
    ·cases h
    ·rename_i y hy
     have h1:=zAO ns n _ _ _ _ hy
     have h2:=zAO ns n _ _ _ _ h
     simp only [List.length_cons]; omega
  ·split at h
   ·split at h
    ·cases h
    ·rename_i y hy
     have h1:=zAO ns n _ _ _ _ hy
     have h2:=zAO ns n _ _ _ _ h
     have h3:y.2.tail.length <= y.2.length:=by simp
     simp only [List.length_cons]; omega
   ·have h2:=zAO ns n _ _ _ _ h
    simp only [List.length_cons]; omega
 | n + 1,least,some T,[],x,h=>by
  simp only [rd,Option.some.injEq] at h
  subst h; simp
 | n + 1,least,some T,s :: r,x,h=>by
  simp only [rd] at h
  split at h
  ·split at h
   ·cases h
   ·split at h
    ·cases h
    ·rename_i y hy
     have h1:=zAO ns n _ _ _ _ hy
     have h2:=zAO ns n _ _ _ _ h
     simp only [List.length_cons]; omega
  ·split at h
   ·split at h
    ·cases h
    ·have h2:=zAO ns n _ _ _ _ h
     simp only [List.length_cons]; omega
   ·simp only [Option.some.injEq] at h
    subst h; simp
theorem zDf (ns:List OpR):∀ n m least md ss,ss.length < n -> ss.length < m -> rd ns n least md ss = rd ns m least md ss
 | 0,_,_,_,_,h,_=>absurd h (Nat.not_lt_zero _)
 | _ + 1,0,_,_,_,_,h=>absurd h (Nat.not_lt_zero _)
 | n + 1,m + 1,least,none,[],_,_=>by simp [rd]
 | n + 1,m + 1,least,some T,[],_,_=>by simp [rd]
 | n + 1,m + 1,least,none,s :: r,h,h'=>by
  simp only [List.length_cons] at h h'
  have e1:=fun l=>zDf ns n m l none r (by omega) (by omega)
  have e2:=fun l md q=>fun (hq:q.length <= r.length)=>zDf ns n m l md q (by omega) (by omega)
  simp only [rd,e1]
  split
  ·split
   ·rfl
   ·cases hy:rd ns m (sH ns s false) none r with
    | none=>rfl
    | some y=>exact e2 _ _ _ (zAO ns m _ _ _ _ hy)
  ·split
   ·cases hy:rd ns m 0 none r with
    | none=>rfl
    | some y=>exact e2 _ _ _ (by have:=zAO ns m _ _ _ _ hy; simp; omega)
   ·exact e2 _ _ _ (Nat.le_refl _)
 | n + 1,m + 1,least,some T,s :: r,h,h'=>by
  simp only [List.length_cons] at h h'
  have e1:=fun l=>zDf ns n m l none r (by omega) (by omega)
  have e2:=fun l md q=>fun (hq:q.length <= r.length)=>zDf ns n m l md q (by omega) (by omega)
  simp only [rd,e1]
  split
  ·split
   ·rfl
   ·cases hy:rd ns m (sH ns s true) none r with
    | none=>rfl
    | some y=>exact e2 _ _ _ (zAO ns m _ _ _ _ hy)
  ·split
   ·split
    ·rfl
    ·exact e2 _ _ _ (Nat.le_refl _)
   ·rfl
def RD (ns:List OpR) (least:Int) (md:Option ET) (ss:List SyR):Option (ET × List SyR):=rd ns (ss.length + 1) least md ss
theorem zMs (ns:List OpR) (n:Nat) (least:Int) (md:Option ET) (ss:List SyR) (h:ss.length < n):rd ns n least md ss = RD ns least md ss:=
 zDf ns _ _ _ _ _ h (Nat.lt_succ_self _)
theorem zEo (ns:List OpR) (least:Int) (s:SyR) (r:List SyR):RD ns least none (s :: r) =
  if s.1 = 3 then (if sLv ns s < least then none else (match RD ns (sH ns s false) none r with
   | none=>none
   | some x=>RD ns least (some (.node 3 0 s.2 x.1 .nil)) x.2))
  else if s.1 = 6 then (match RD ns 0 none r with
   | none=>none
   | some x=>RD ns least (some (.node 6 0 ByteArray.empty x.1 .nil)) x.2.tail)
  else RD ns least (some (.node s.1 0 s.2 .nil .nil)) r:=by
 have e:RD ns least none (s :: r) = rd ns (r.length + 1 + 1) least none (s :: r):=rfl
 have e1:∀ l,rd ns (r.length + 1) l none r = RD ns l none r:=fun l=>rfl
 have e2:∀ l md q,q.length <= r.length -> rd ns (r.length + 1) l md q = RD ns l md q:=fun l md q hq=>zMs ns _ l md q (by omega)
 rw [e]
 simp only [rd,e1]
 split
 ·split
  ·rfl
  ·cases hy:RD ns (sH ns s false) none r with
   | none=>rfl
   | some y=>exact e2 _ _ _ (zAO ns _ _ _ _ _ hy)
 ·split
  ·cases hy:RD ns 0 none r with
   | none=>rfl
   | some y=>exact e2 _ _ _ (by have:=zAO ns _ _ _ _ _ hy; simp; omega)
  ·rfl
theorem zEp (ns:List OpR) (least:Int) (T:ET) (s:SyR) (r:List SyR):RD ns least (some T) (s :: r) =
  if s.1 = 4 /\ least <= sLv ns s then (if lvT ns T < sH ns s false then none else (match RD ns (sH ns s true) none r with
   | none=>none
   | some x=>RD ns least (some (.node 4 0 s.2 T x.1)) x.2))
  else if s.1 = 5 /\ least <= sLv ns s then (if lvT ns T < sH ns s false then none else RD ns least (some (.node 5 0 s.2 T .nil)) r)
  else some (T,s :: r):=by
 have e:RD ns least (some T) (s :: r) = rd ns (r.length + 1 + 1) least (some T) (s :: r):=rfl
 have e1:∀ l,rd ns (r.length + 1) l none r = RD ns l none r:=fun l=>rfl
 have e2:∀ l md q,q.length <= r.length -> rd ns (r.length + 1) l md q = RD ns l md q:=fun l md q hq=>zMs ns _ l md q (by omega)
 rw [e]
 simp only [rd,e1]
 split
 ·split
  ·rfl
  ·cases hy:RD ns (sH ns s true) none r with
   | none=>rfl
   | some y=>exact e2 _ _ _ (zAO ns _ _ _ _ _ hy)
 ·split
  ·split
   ·rfl
   ·rfl
  ·rfl
def zES (ns:List OpR) (least:Int) (ss:List SyR):Prop:=∀ s r,ss = s :: r -> (s.1 = 4 \/ s.1 = 5) -> sLv ns s < least
theorem zEq {ns:List OpR} {least:Int} {ss:List SyR} (h:zES ns least ss) (T:ET):RD ns least (some T) ss = some (T,ss):=by
 cases ss with
 | nil=>rfl
 | cons s r=>
  have hs:=h s r rfl
  rw [zEp,if_neg (fun x=>by have:=hs (Or.inl x.1); omega),if_neg (fun x=>by have:=hs (Or.inr x.1); omega)]
def zGL (ns:List OpR):ET -> List SyR -> Prop
 | .nil,_=>True
 | .node b _ t l r,ss=>(b = 3 -> zES ns (sH ns (b,t) false) ss /\ zGL ns l ss) /\ (b = 4 -> zES ns (sH ns (b,t) true) ss /\ zGL ns r ss)
theorem zCR {ns:List OpR} {least:Int} {s:SyR} {r:List SyR} (h:¬ (s.1 = 4 \/ s.1 = 5)):zES ns least (s :: r):=fun s' r' e hs=>by
 injection e with e1 e2
 subst e1
 exact absurd hs h
theorem zBm {ns:List OpR} {s:SyR} {r:List SyR} (h:¬ (s.1 = 4 \/ s.1 = 5)):∀ T:ET,zGL ns T (s :: r)
 | .nil=>trivial
 | .node b o t l q=>⟨fun _=>⟨zCR h,zBm h l⟩,fun _=>⟨zCR h,zBm h q⟩⟩
theorem zET {ns:List OpR} (hv:zO ns 0) {q:SyR} {r:List SyR}:∀ T:ET,zl ns T -> sLv ns q < lvT ns T -> zGL ns T (q :: r):=by
 intro T
 induction T with
 | nil=>intro h; exact h.elim
 | node b o t l rr ihl ihr=>
  rintro ⟨_,h⟩ hq
  have st:∀ m:Int,sLv ns q < m -> zES ns m (q :: r):=fun m hm s' r' e _=>by
   injection e with e1 e2
   subst e1
   exact hm
  refine ⟨fun e=>?_,fun e=>?_⟩
  ·subst e
   rcases h with ⟨h | h,_⟩ | ⟨h,_⟩ | ⟨_,hk,hl,_,hh⟩ | ⟨h,_⟩
   ·omega
   ·omega
   ·omega
   ·have f:=(opF hv (Or.inl rfl) hk).pre rfl
    simp only [lvT] at hq
    exact ⟨st _ (by omega),ihl hl (by omega)⟩
   ·omega
  ·subst e
   rcases h with ⟨h | h,_⟩ | ⟨h,_⟩ | ⟨h | h,_⟩ | ⟨_,hk,hl,hr,h1,h2⟩
   ·omega
   ·omega
   ·omega
   ·omega
   ·omega
   ·have f:=(opF hv (Or.inr (Or.inl rfl)) hk).mid rfl
    simp only [lvT] at hq
    exact ⟨st _ (by omega),ihr hr (by omega)⟩
theorem zGM {ns:List OpR} (hv:zO ns 0) {q:SyR} {r:List SyR} (hq:q.1 = 4 \/ q.1 = 5) (hkq:knB ns q = true):∀ T:ET,zl ns T -> sH ns q false <= lvT ns T -> zGL ns T (q :: r):=by
 intro T hT hle
 have fq:=opF hv (by omega) hkq
 have hh:sH ns q false = sLv ns q + 1 \/ (sH ns q false = sLv ns q /\ sSo ns q = 1):=by
  rcases hq with e | e
  ·rcases fq.mid e with h | h | h
   ·exact Or.inr ⟨h.2.1,h.1⟩
   ·exact Or.inl h.2.1
   ·exact Or.inl h.2.1
  ·exact Or.inr (fq.post e)
 by_cases hlt:sLv ns q < lvT ns T
 ·exact zET hv T hT hlt
 ·have heq:lvT ns T = sLv ns q /\ sSo ns q = 1:=by
   rcases hh with h | ⟨h,h'⟩
   ·omega
   ·exact ⟨by omega,h'⟩
  cases T with
  | nil=>exact hT.elim
  | node b o t l rr=>
   obtain ⟨_,h⟩:=hT
   simp only [lvT] at heq
   have st:∀ m:Int,sLv ns q < m -> zES ns m (q :: r):=fun m hm s' r' e _=>by
    injection e with e1 e2
    subst e1
    exact hm
   refine ⟨fun e=>?_,fun e=>?_⟩
   ·subst e
    rcases h with ⟨h | h,_⟩ | ⟨h,_⟩ | ⟨_,hk,hl,_,hh⟩ | ⟨h,_⟩
    ·omega
    ·omega
    ·omega
    ·have f:=(opF hv (Or.inl rfl) hk).pre rfl
     have:=zGK hv (s:=(3,t)) (s':=q) (Or.inl rfl) (by omega) hk hkq heq.1
     omega
    ·omega
   ·subst e
    rcases h with ⟨h | h,_⟩ | ⟨h,_⟩ | ⟨h | h,_⟩ | ⟨_,hk,hl,hr,h1,h2⟩
    ·omega
    ·omega
    ·omega
    ·omega
    ·omega
    ·have f:=(opF hv (Or.inr (Or.inl rfl)) hk).mid rfl
     have:=zGK hv (s:=(4,t)) (s':=q) (Or.inr (Or.inl rfl)) (by omega) hk hkq heq.1
     have e2:sH ns (4,t) true = sLv ns (4,t) + 1:=by
      rcases f with h | h | h
      ·exact h.2.2
      ·omega
      ·omega
     exact ⟨st _ (by omega),zET hv rr hr (by omega)⟩
theorem zK7 {ns:List OpR} (hv:zO ns 0):∀ (T:ET),zl ns T -> ∀ (least:Int) (rest:List SyR),least <= lvT ns T -> zGL ns T rest -> RD ns least none (ySy T ++ rest) = RD ns least (some T) rest:=by
 intro T
 induction T with
 | nil=>intro h; exact h.elim
 | node b o t l r ihl ihr=>
  rintro ⟨rfl,h⟩ least rest hle hst
  simp only [lvT] at hle
  rcases h with ⟨h12,rfl,rfl⟩ | ⟨rfl,rfl,hl,rfl⟩ | ⟨h35,hk,hl,rfl,hh⟩ | ⟨rfl,hk,hl,hr,h1,h2⟩
  ·have e:ySy (.node b 0 t .nil .nil) = [(b,t)]:=by
    simp only [ySy]
    rw [if_neg (by omega),if_neg (by omega),if_neg (by omega),if_neg (by omega)]
   rw [e]
   show RD ns least none ((b,t) :: rest) = _
   rw [zEo]
   simp only
   rw [if_neg (by omega),if_neg (by omega)]
  ·have e:ySy (.node 6 0 ByteArray.empty l .nil) ++ rest = (6,opn) :: (ySy l ++ ((7,zAl) :: rest)):=by
    simp [ySy]
   rw [e,zEo]
   simp only
   rw [if_neg (by decide),if_pos trivial]
   have hs:¬ ((7,zAl):SyR).1 = 4 /\ ¬ ((7,zAl):SyR).1 = 5:=⟨by decide,by decide⟩
   have h0:(0:Int) <= lvT ns l:=by
    cases l with
    | nil=>exact hl.elim
    | node bb oo tt ll rr=>
     simp only [lvT]
     by_cases hb:bb = 3 \/ bb = 4 \/ bb = 5
     ·have hkn:knB ns (bb,tt) = true:=by
       rcases hl.2 with ⟨h | h,_⟩ | ⟨h,_⟩ | ⟨_,hk,_⟩ | ⟨_,hk,_⟩
       ·omega
       ·omega
       ·omega
       ·exact hk
       ·exact hk
      have:=(opF hv (s:=(bb,tt)) hb hkn).lo
      omega
     ·rw [Z2 ns bb tt hb]; omega
   rw [ihl hl 0 _ h0 (zBm (by omega) l),zEq (zCR (by omega))]
   rfl
  ·rcases h35 with rfl | rfl
   ·have f:=(opF hv (Or.inl rfl) hk).pre rfl
    have e:ySy (.node 3 0 t l .nil) ++ rest = (3,t) :: (ySy l ++ rest):=by simp [ySy]
    obtain ⟨hst1,hst2⟩:=hst.1 rfl
    rw [e,zEo]
    simp only
    rw [if_pos trivial,if_neg (by omega),ihl hl _ rest hh hst2,zEq hst1]
   ·have f:=(opF hv (Or.inr (Or.inr rfl)) hk).post rfl
    have e:ySy (.node 5 0 t l .nil) ++ rest = ySy l ++ ((5,t) :: rest):=by simp [ySy]
    rw [e,ihl hl least _ (by omega) (zGM hv (q:=(5,t)) (Or.inr rfl) hk l hl hh),zEp]
    simp only
    rw [if_neg (by omega),if_pos ⟨trivial,hle⟩,if_neg (by omega)]
  ·have f:=(opF hv (Or.inr (Or.inl rfl)) hk).mid rfl
   have e:ySy (.node 4 0 t l r) ++ rest = ySy l ++ ((4,t) :: (ySy r ++ rest)):=by simp [ySy]
   obtain ⟨hst1,hst2⟩:=hst.2 rfl
   rw [e,ihl hl least _ (by omega) (zGM hv (q:=(4,t)) (Or.inl rfl) hk l hl h1),zEp]
   simp only
   rw [if_pos ⟨trivial,hle⟩,if_neg (by omega),ihr hr _ rest h2 hst2,zEq hst1]
end Go.Proofs.YtfboipappaonhaaGreat
