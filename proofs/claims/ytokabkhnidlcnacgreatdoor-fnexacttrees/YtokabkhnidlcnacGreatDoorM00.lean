import Derived.Test.YtokabkhnidlcnacGreatDoorRows
import Derived.WalkKit
import Derived.WalkSpells
import Derived.WalkLawsBesides
import Derived.Lib.Walk
import Derived.Deep.Light
import Derived.Deep.MidRow
import Derived.Lib.Bytealg
import Derived.Laws.MakeOwn
import Derived.Deep.RegionHeld
import Derived.OwnWalk
import Derived.Laws.OwnMore
import Derived.Deep.QuietTactic
import Derived.BigQuiet
import Derived.WalkSmall
namespace Go.Proofs.YtokabkhnidlcnacGreatDoor
set_option maxHeartbeats 16000000
set_option maxRecDepth 100000
open Go.RowKit
theorem zB {p:Prop} (h:p):Hid p:=h
theorem zA {p:Prop} (h:Hid p):p:=h
theorem zE5 {W w1:World} (hb:Below W.heap.size W w1):(∀ b o,b < W.heap.size -> w1.cell? ⟨b,o,none⟩ = W.cell? ⟨b,o,none⟩) /\ (∀ b o,b < W.heap.size -> w1.frozen? ⟨b,o,none⟩ = W.frozen? ⟨b,o,none⟩):=
 ⟨fun b o h=>hb.cell (p:=⟨b,o,none⟩) h,fun b o h=>hb.frozen (p:=⟨b,o,none⟩) h⟩
theorem zS {a b:Bool} (h:a = b):Ending.returned (.bool a) = .returned (.bool b):=by rw [h]
theorem zG {k:IntKind} {a b:Int} (h:a = b):Ending.returned (.int k a) = .returned (.int k b):=by rw [h]
theorem zK3 {a b:ByteArray} (h:a = b):Ending.returned (.string a) = .returned (.string b):=by rw [h]
theorem zC (w:World) (o):Below w.heap.size w (w.alloc o):=(Below.refl _ _).alloc (Nat.le_refl _) _
theorem zH {B:Nat} {a:World} {g:Nat} (hg:B <= g):∀ (vs:List Value) (o:Nat) (w:World),Below B a w -> Below B a (w.setCells g o vs)
 | [],_,_,h=>h
 | v :: r,o,_,h=>zH hg r (o + 1) _ (h.setCell (p:=⟨g,o,none⟩) hg v)
end Go.Proofs.YtokabkhnidlcnacGreatDoor
namespace Go.Proofs.YtokabkhnidlcnacGreatDoor
set_option maxHeartbeats 16000000
set_option maxRecDepth 100000
def sgL:List UInt8:=[43,45,42,47,60,62,61,33,38,124,94,126,63,58,64,37,36,46]
def sgB (c:UInt8):Bool:=sgL.contains c
def zFm (l:List UInt8):Bool:=l.all sgB
def zFR (s:ByteArray):Bool:=zFm s.data.toList && decide (1 <= s.size) && decide (s.size <= 16)
def zE6 (k sd:Int):Bool:=(k == 2 && (sd == 1 || sd == 2 || sd == 3)) || ((k == 1 || k == 3) && sd == 0)
def okB (s:ByteArray) (k l sd:Int):Bool:=zFR s && decide (1 <= l) && decide (l <= 1000) && zE6 k sd
def zIn (l sd:Int) (b:Bool):Int:=if sd = (if b then 2 else 1) then l else l + 1
def ZJ (s:ByteArray) (k l sd:Int) (b:Bool):Int:=
 if okB s k l sd = false then 0 else if k = 2 then zIn l sd b else if b then 0 else l
theorem zA7 (s:ByteArray) (k l sd:Int) (h:okB s k l sd = true) :
  (1 <= l /\ l <= 1000) /\ ((k = 2 /\ sd = 1) \/ (k = 2 /\ sd = 2) \/ (k = 2 /\ sd = 3) \/ (k = 1 /\ sd = 0) \/ (k = 3 /\ sd = 0)):=by
 simp only [okB,zE6,Bool.and_eq_true,Bool.or_eq_true,decide_eq_true_eq,beq_iff_eq] at h
 omega
theorem zIo (s:ByteArray) (k l sd:Int) (b:Bool) (h:okB s k l sd = false):ZJ s k l sd b = 0:=by
 simp [ZJ,h]
theorem zPr (c:UInt8):(decide (0 <= Lib.indexByte sgL c)) = sgB c:=by
 obtain ⟨v⟩:=c
 revert v
 decide +kernel
theorem zMT (c:UInt8) (h:∀ j,j < 18 -> sgL.getD j 0 ≠ c):sgB c = false:=by
 have h':∀ x ∈ sgL,x ≠ c:=by
  intro x hx
  obtain ⟨j,hj,e⟩:=List.getElem_of_mem hx
  have:=h j hj
  rw [List.getD_eq_getElem?_getD,List.getElem?_eq_getElem hj] at this
  simpa [e] using this
 unfold sgB
 simp only [List.contains_eq_mem,decide_eq_false_iff_not]
 intro hc
 exact h' c hc rfl
theorem zMU (c:UInt8) (j:Nat) (hj:j < 18) (h:sgL.getD j 0 = c):sgB c = true:=by
 unfold sgB
 simp only [List.contains_eq_mem,decide_eq_true_eq]
 rw [List.getD_eq_getElem?_getD,List.getElem?_eq_getElem hj] at h
 rw [<- h]
 exact List.getElem_mem _
theorem zMV (l:List UInt8) (c:UInt8):zFm (l ++ [c]) = (zFm l && sgB c):=by
 simp [zFm]
theorem zLi (s:ByteArray) (k:Nat) (h:k < s.size):s.data.toList.take (k + 1) = s.data.toList.take k ++ [s[k]]:=by
 rw [List.take_succ_eq_append_getElem (by simpa using h)]; rfl
theorem zMW (s:ByteArray) (k:Nat) (h:¬ k < s.size):s.data.toList.take k = s.data.toList:=by
 rw [List.take_of_length_le]; simp; omega
theorem zLj (s:ByteArray) (k:Nat) (h:k < s.size) (hb:sgB s[k] = false):zFm s.data.toList = false:=by
 have hm:s[k] ∈ s.data.toList:=by
  have:s[k] = s.data.toList[k]'(by simpa using h):=rfl
  rw [this]; exact List.getElem_mem _
 simp only [zFm,List.all_eq_false]
 exact ⟨_,hm,by simp [hb]⟩
theorem zQR (a c:UInt8) (h:((a.toNat:Int) == (c.toNat:Int)) = true):a = c:=by
 have:=beq_iff_eq.1 h
 exact UInt8.toNat_inj.1 (by omega)
theorem zQS (a c:UInt8) (h:((a.toNat:Int) == (c.toNat:Int)) = false):a ≠ c:=by
 intro e
 subst e
 simp at h
theorem zK4 (k:Nat) (h:k < 18) (h':k < (ByteArray.mk #[43,45,42,47,60,62,61,33,38,124,94,126,63,58,64,37,36,46]).size) :
  (ByteArray.mk #[43,45,42,47,60,62,61,33,38,124,94,126,63,58,64,37,36,46])[k]'h' = sgL.getD k 0:=by
 have e:∀ i:Fin 18,(ByteArray.mk #[43,45,42,47,60,62,61,33,38,124,94,126,63,58,64,37,36,46])[i.val]'i.isLt = sgL.getD i.val 0:=by decide
 exact e ⟨k,h⟩
end Go.Proofs.YtokabkhnidlcnacGreatDoor
namespace Go.Proofs.YtokabkhnidlcnacGreatDoor
set_option maxHeartbeats 16000000
set_option maxRecDepth 100000
open Go.RowKit
structure OpR where
 s:ByteArray
 k:Int
 l:Int
 sd:Int
def OpR.ok (o:OpR):Bool:=okB o.s o.k o.l o.sd
def OpR.zero:OpR:=⟨⟨#[]⟩,0,0,0⟩
def atO (xs:List OpR) (i:Nat):OpR:=xs.getD i OpR.zero
def zBO (w:World) (b off:Nat) (xs:List OpR) (i:Nat):Prop:=
 w.cell? ⟨b,off + i * 4,none⟩ = some (.string (atO xs i).s) /\ w.cell? ⟨b,off + i * 4 + 1,none⟩ = some (.int .i64 (atO xs i).k) /\
  w.cell? ⟨b,off + i * 4 + 2,none⟩ = some (.int .i64 (atO xs i).l) /\ w.cell? ⟨b,off + i * 4 + 3,none⟩ = some (.int .i64 (atO xs i).sd)
def Ops (w:World) (b off:Nat) (xs:List OpR):Prop:=∀ i,i < xs.length -> zBO w b off xs i
def Zm (xs:List OpR):Prop:=∀ i,i < xs.length -> (atO xs i).s.size <= maxLen
theorem zBO.below {w w':World} {b off i:Nat} {xs:List OpR} {B:Nat} (h:zBO w b off xs i) (hb:Below B w w') (hB:b < B):zBO w' b off xs i:=by
 obtain ⟨h0,h1,h2,h3⟩:=h
 exact ⟨(hb.cell (p:=⟨b,_,none⟩) hB).trans h0,(hb.cell (p:=⟨b,_,none⟩) hB).trans h1,(hb.cell (p:=⟨b,_,none⟩) hB).trans h2,(hb.cell (p:=⟨b,_,none⟩) hB).trans h3⟩
theorem Ops.below {w w':World} {b off:Nat} {xs:List OpR} {B:Nat} (h:Ops w b off xs) (hb:Below B w w') (hB:b < B):Ops w' b off xs:=
 fun i hi=>(h i hi).below hb hB
def zBx (xs:List OpR) (k:Nat):Prop:=∀ j,j < k -> (atO xs j).ok = true
theorem zHG {xs:List OpR} {k:Nat} (h:zBx xs k) (hk:(atO xs k).ok = true):zBx xs (k + 1):=by
 intro j hj
 by_cases e:j = k
 ·subst e; exact hk
 ·exact h j (by omega)
def bt (s:ByteArray) (i:Nat):UInt8:=s.data[i]?.getD 0
theorem zk {s:ByteArray} {i:Nat} (h:i < s.size):s[i] = bt s i:=by
 have h':i < s.data.size:=h
 show s.data[i] = _
 unfold bt
 rw [Array.getElem?_eq_getElem h']
 rfl
def cls (c:UInt8):Nat:=
 if c.toNat = 32 \/ c.toNat = 9 \/ c.toNat = 10 then 1
 else if 48 <= c.toNat /\ c.toNat <= 57 then 2
 else if (65 <= c.toNat /\ c.toNat <= 90) \/ (97 <= c.toNat /\ c.toNat <= 122) \/ c.toNat = 95 then 3
 else if c.toNat = 40 then 4
 else if c.toNat = 41 then 5
 else if sgB c = true then 6
 else 0
theorem zHw (c:UInt8):sgB c = decide (cls c = 6):=by
 obtain ⟨v⟩:=c
 revert v
 decide +kernel
theorem zLk (c:UInt8):(cls c = 1) ↔ (c.toNat = 32 \/ c.toNat = 9 \/ c.toNat = 10):=by
 obtain ⟨v⟩:=c
 revert v
 decide +kernel
theorem zCb (c:UInt8):(cls c = 2) ↔ (48 <= c.toNat /\ c.toNat <= 57):=by
 obtain ⟨v⟩:=c
 revert v
 decide +kernel
theorem zOE (c:UInt8):(cls c = 3) ↔ ((65 <= c.toNat /\ c.toNat <= 90) \/ (97 <= c.toNat /\ c.toNat <= 122) \/ c.toNat = 95):=by
 obtain ⟨v⟩:=c
 revert v
 decide +kernel
theorem zDy (c:UInt8):(cls c = 4) ↔ c = 40:=by
 obtain ⟨v⟩:=c
 revert v
 decide +kernel
theorem zDO (c:UInt8):(cls c = 5) ↔ c = 41:=by
 obtain ⟨v⟩:=c
 revert v
 decide +kernel
theorem zMX (c:UInt8):cls c < 7:=by
 unfold cls
 split
 ·omega
 ·split
  ·omega
  ·split
   ·omega
   ·split
    ·omega
    ·split
     ·omega
     ·split <;> omega
def zEb (t:ByteArray):Prop:=1 <= t.size /\ ∀ j,j < t.size -> cls (bt t j) = 2
def zAx (t:ByteArray):Prop:=1 <= t.size /\ ∀ j,j < t.size -> (cls (bt t j) = 3 \/ (j ≠ 0 /\ cls (bt t j) = 2))
def zOF (t:ByteArray):Bool:=decide (1 <= t.size) && (List.range t.size).all fun j=>cls (bt t j) == 2
def zMY (t:ByteArray):Bool:=decide (1 <= t.size) && (List.range t.size).all fun j=>cls (bt t j) == 3 || (j != 0 && cls (bt t j) == 2)
theorem Za (t:ByteArray):zOF t = true ↔ zEb t:=by
 simp [zOF,zEb,List.all_eq_true]
theorem Zh (t:ByteArray):zMY t = true ↔ zAx t:=by
 simp [zMY,zAx,List.all_eq_true]
theorem zB3 (t:ByteArray) (a:Array UInt8):t.data = a ↔ t = ⟨a⟩:=⟨fun h=>by cases t; simp_all,fun h=>by rw [h]⟩
end Go.Proofs.YtokabkhnidlcnacGreatDoor
namespace Go.Proofs.YtokabkhnidlcnacGreatDoor
set_option linter.unusedSimpArgs false
set_option linter.unusedVariables false
set_option maxHeartbeats 16000000
set_option maxRecDepth 100000
def nxF (c:UInt8) (s:ByteArray):Nat -> Nat -> Nat
 | 0,i=>i
 | n + 1,i=>if i < s.size /\ bt s i ≠ c then nxF c s n (i + 1) else i
def nx (c:UInt8) (s:ByteArray) (i:Nat):Nat:=nxF c s (s.size - i) i
theorem zIp (c:UInt8) (s:ByteArray):∀ (n i:Nat),s.size - i <= n -> i <= s.size -> i <= nxF c s n i /\ nxF c s n i <= s.size /\ (∀ k,i <= k -> k < nxF c s n i -> bt s k ≠ c) /\ (nxF c s n i < s.size -> bt s (nxF c s n i) = c)
 | 0,i,hn,hi=>by
  simp only [nxF]
  exact ⟨Nat.le_refl _,hi,fun k h1 h2=>by omega,fun h=>by omega⟩
 | n + 1,i,hn,hi=>by
  simp only [nxF]
  by_cases h:i < s.size /\ bt s i ≠ c
  ·rw [if_pos h]
   obtain ⟨h1,h2,h3,h4⟩:=zIp c s n (i + 1) (by omega) (by omega)
   refine ⟨by omega,h2,fun k k1 k2=>?_,h4⟩
   by_cases e:k = i
   ·subst e; exact h.2
   ·exact h3 k (by omega) k2
  ·rw [if_neg h]
   refine ⟨Nat.le_refl _,hi,fun k h1 h2=>by omega,fun hl=>?_⟩
   by_cases e:bt s i = c
   ·exact e
   ·exact absurd ⟨hl,e⟩ h
theorem zAJ (c:UInt8) (s:ByteArray) (i:Nat) (hi:i <= s.size):i <= nx c s i /\ nx c s i <= s.size /\ (∀ k,i <= k -> k < nx c s i -> bt s k ≠ c) /\ (nx c s i < s.size -> bt s (nx c s i) = c):=
 zIp c s _ i (Nat.le_refl _) hi
theorem zJ8 {c:UInt8} {s:ByteArray} {i j:Nat} (hi:i <= s.size) (h1:i <= j) (h2:j <= s.size) (h3:∀ k,i <= k -> k < j -> bt s k ≠ c) (h4:j < s.size -> bt s j = c):nx c s i = j:=by
 obtain ⟨g1,g2,g3,g4⟩:=zAJ c s i hi
 rcases Nat.lt_trichotomy (nx c s i) j with h | h | h
 ·exact absurd (g4 (by omega)) (h3 _ g1 h)
 ·exact h
 ·exact absurd (h4 (by omega)) (g3 _ h1 h)
def pcF (c:UInt8) (s:ByteArray):Nat -> Nat -> List (Nat × Nat)
 | 0,_=>[]
 | n + 1,i=>(i,nx c s i) :: (if nx c s i < s.size then pcF c s n (nx c s i + 1) else [])
def pcs (c:UInt8) (s:ByteArray) (i:Nat):List (Nat × Nat):=pcF c s (s.size - i + 1) i
theorem zIq (c:UInt8) (s:ByteArray):∀ (n m i:Nat),i <= s.size -> s.size - i + 1 <= n -> s.size - i + 1 <= m -> pcF c s n i = pcF c s m i
 | 0,_,i,hi,hn,_=>by omega
 | _ + 1,0,i,hi,_,hm=>by omega
 | n + 1,m + 1,i,hi,hn,hm=>by
  simp only [pcF]
  congr 1
  have h:=zAJ c s i hi
  by_cases hl:nx c s i < s.size
  ·rw [if_pos hl,if_pos hl]
   exact zIq c s n m _ (by omega) (by omega) (by omega)
  ·rw [if_neg hl,if_neg hl]
theorem zA8 (c:UInt8) (s:ByteArray) (i:Nat) (hi:i <= s.size):pcs c s i = (i,nx c s i) :: (if nx c s i < s.size then pcs c s (nx c s i + 1) else []):=by
 have h:=zAJ c s i hi
 conv=>lhs; unfold pcs
 simp only [pcF]
 congr 1
 by_cases hl:nx c s i < s.size
 ·rw [if_pos hl,if_pos hl]
  exact zIq c s _ _ _ (by omega) (by omega) (by omega)
 ·rw [if_neg hl,if_neg hl]
def wds (l:ByteArray):List ByteArray:=((pcs 32 l 0).filter (fun p=>decide (p.1 < p.2))).map (fun p=>l.extract p.1 p.2)
def zBP (l:ByteArray) (i:Nat):List ByteArray:=((pcs 32 l i).filter (fun p=>decide (p.1 < p.2))).map (fun p=>l.extract p.1 p.2)
theorem zMZ (l:ByteArray):wds l = zBP l 0:=rfl
theorem zCc (l:ByteArray) (i:Nat) (hi:i <= l.size):zBP l i = (if i < nx 32 l i then [l.extract i (nx 32 l i)] else []) ++ (if nx 32 l i < l.size then zBP l (nx 32 l i + 1) else []):=by
 unfold zBP
 rw [zA8 32 l i hi]
 by_cases h1:i < nx 32 l i
 ·rw [if_pos h1,List.filter_cons_of_pos (by simpa using h1)]
  by_cases h2:nx 32 l i < l.size
  ·rw [if_pos h2,if_pos h2]; rfl
  ·rw [if_neg h2,if_neg h2]; rfl
 ·rw [if_neg h1,List.filter_cons_of_neg (by simpa using h1)]
  by_cases h2:nx 32 l i < l.size
  ·rw [if_pos h2,if_pos h2]; rfl
  ·rw [if_neg h2,if_neg h2]; rfl
def Z7:ByteArray:=⟨#[98,101,103,105,110]⟩
def zGy:ByteArray:=⟨#[117,115,101]⟩
def zAQ:ByteArray:=⟨#[112,114,101,102,105,120]⟩
def zBL:ByteArray:=⟨#[105,110,102,105,120]⟩
def Zy:ByteArray:=⟨#[112,111,115,116,102,105,120]⟩
def zDz:ByteArray:=⟨#[108,101,102,116]⟩
def zCd:ByteArray:=⟨#[114,105,103,104,116]⟩
def zD0:ByteArray:=⟨#[110,111,110,101]⟩
def zMa (w:ByteArray):Prop:=1 <= w.size /\ w.size <= 6 /\ ∀ i,i < w.size -> 48 <= (bt w i).toNat /\ (bt w i).toNat <= 57
def Zn (w:ByteArray):Nat -> Nat
 | 0=>0
 | k + 1=>Zn w k * 10 + ((bt w k).toNat - 48)
def ZS (w:ByteArray):Int:=if w = zDz then 1 else if w = zCd then 2 else if w = zD0 then 3 else 0
theorem zFn (w:ByteArray) (h:∀ i,i < w.size -> 48 <= (bt w i).toNat /\ (bt w i).toNat <= 57):∀ k,k <= w.size -> Zn w k < 10 ^ k
 | 0,_=>by simp [Zn]
 | k + 1,hk=>by
  have:=zFn w h k (by omega)
  have:=h k (by omega)
  simp only [Zn,Nat.pow_succ]
  omega
def OpW (ws:List ByteArray) (o:OpR):Prop:=
 ∃ k t l,zMa l /\ ((ws = [k,t,l] /\ ((k = zAQ /\ o = ⟨t,1,(Zn l l.size:Int),0⟩) \/ (k = Zy /\ o = ⟨t,3,(Zn l l.size:Int),0⟩))) \/
  ∃ sd,ws = [k,t,l,sd] /\ k = zBL /\ ZS sd ≠ 0 /\ o = ⟨t,2,(Zn l l.size:Int),ZS sd⟩)
theorem OpW.one {ws:List ByteArray} {o o':OpR} (h:OpW ws o) (h':OpW ws o'):o = o':=by
 obtain ⟨k,t,l,hl,h⟩:=h
 obtain ⟨k',t',l',hl',h'⟩:=h'
 rcases h with ⟨e,h⟩ | ⟨sd,e,hk,hs,rfl⟩
 ·rcases h' with ⟨e',h'⟩ | ⟨sd',e',hk',hs',rfl⟩
  ·rw [e] at e'
   simp only [List.cons.injEq,and_true] at e'
   obtain ⟨rfl,rfl,rfl⟩:=e'
   rcases h with ⟨h1,rfl⟩ | ⟨h1,rfl⟩ <;> rcases h' with ⟨h2,rfl⟩ | ⟨h2,rfl⟩
   ·rfl
   ·rw [h1] at h2; exact absurd h2 (by decide)
   ·rw [h1] at h2; exact absurd h2 (by decide)
   ·rfl
  ·rw [e] at e'; simp at e'
 ·rcases h' with ⟨e',h'⟩ | ⟨sd',e',hk',hs',rfl⟩
  ·rw [e] at e'; simp at e'
  ·rw [e] at e'
   simp only [List.cons.injEq,and_true] at e'
   obtain ⟨rfl,rfl,rfl,rfl⟩:=e'
   rfl
def Z8 (ws:List ByteArray) (us:List ByteArray) (os:List OpR) (us':List ByteArray) (os':List OpR):Prop:=
 (ws = [] /\ us' = us /\ os' = os) \/ (∃ x,ws = [zGy,x] /\ us' = us ++ [x] /\ os' = os) \/ (∃ o,OpW ws o /\ us' = us /\ os' = os ++ [o])
theorem OpW.len {ws:List ByteArray} {o:OpR} (h:OpW ws o):ws.length = 3 \/ ws.length = 4:=by
 obtain ⟨k,t,l,hl,⟨rfl,_⟩ | ⟨sd,rfl,_⟩⟩:=h
 ·exact Or.inl rfl
 ·exact Or.inr rfl
theorem Z8.one {ws us us1 us2:List ByteArray} {os os1 os2:List OpR} (h:Z8 ws us os us1 os1) (h':Z8 ws us os us2 os2):us1 = us2 /\ os1 = os2:=by
 rcases h with ⟨e,rfl,rfl⟩ | ⟨x,e,rfl,rfl⟩ | ⟨o,ho,rfl,rfl⟩
 ·rcases h' with ⟨_,rfl,rfl⟩ | ⟨x',e',_⟩ | ⟨o',ho',_⟩
  ·exact ⟨rfl,rfl⟩
  ·rw [e] at e'; simp at e'
  ·have:=ho'.len; rw [e] at this; simp at this
 ·rcases h' with ⟨e',_⟩ | ⟨x',e',rfl,rfl⟩ | ⟨o',ho',_⟩
  ·rw [e] at e'; simp at e'
  ·rw [e] at e'
   simp only [List.cons.injEq,and_true,true_and] at e'
   subst e'
   exact ⟨rfl,rfl⟩
  ·have:=ho'.len; rw [e] at this; simp at this
 ·rcases h' with ⟨e',_⟩ | ⟨x',e',_⟩ | ⟨o',ho',rfl,rfl⟩
  ·have:=ho.len; rw [e'] at this; simp at this
  ·have:=ho.len; rw [e'] at this; simp at this
  ·rw [ho.one ho']; exact ⟨rfl,rfl⟩
def zAb (s:ByteArray) (z:Nat):ByteArray:=if z < s.size then s.extract (z + 1) s.size else ByteArray.empty
def UnF (s:ByteArray):List (Nat × Nat) -> Nat -> List ByteArray -> List OpR -> List ByteArray -> List OpR -> ByteArray -> Int -> Int -> Prop
 | [],_,_,_,u,o,b,c,l=>u = [] /\ o = [] /\ b = ByteArray.empty /\ c = 3 /\ l = 0
 | p :: r,n,us,os,u,o,b,c,l=>
  (wds (s.extract p.1 p.2) = [Z7] /\ u = us /\ o = os /\ b = zAb s p.2 /\ c = 0 /\ l = 0) \/
  (wds (s.extract p.1 p.2) ≠ [Z7] /\ ((∃ us' os',Z8 (wds (s.extract p.1 p.2)) us os us' os' /\ UnF s r (n + 1) us' os' u o b c l) \/
   ((∀ us' os',¬ Z8 (wds (s.extract p.1 p.2)) us os us' os') /\ u = [] /\ o = [] /\ b = ByteArray.empty /\ c = 2 /\ l = (n:Int))))
theorem UnF.one {s:ByteArray}:∀ (ls:List (Nat × Nat)) (n:Nat) (us:List ByteArray) (os:List OpR) {u u':List ByteArray} {o o':List OpR} {b b':ByteArray} {c c' l l':Int},UnF s ls n us os u o b c l -> UnF s ls n us os u' o' b' c' l' -> u = u' /\ o = o' /\ b = b' /\ c = c' /\ l = l'
 | [],n,us,os,_,_,_,_,_,_,_,_,_,_,h,h'=>by
  obtain ⟨rfl,rfl,rfl,rfl,rfl⟩:=h
  obtain ⟨rfl,rfl,rfl,rfl,rfl⟩:=h'
  exact ⟨rfl,rfl,rfl,rfl,rfl⟩
 | p :: r,n,us,os,_,_,_,_,_,_,_,_,_,_,h,h'=>by
  rcases h with ⟨e,rfl,rfl,rfl,rfl,rfl⟩ | ⟨e,h⟩
  ·rcases h' with ⟨_,rfl,rfl,rfl,rfl,rfl⟩ | ⟨e',_⟩
   ·exact ⟨rfl,rfl,rfl,rfl,rfl⟩
   ·exact absurd e e'
  ·rcases h' with ⟨e',_⟩ | ⟨_,h'⟩
   ·exact absurd e' e
   ·rcases h with ⟨us1,os1,h1,h⟩ | ⟨h1,rfl,rfl,rfl,rfl,rfl⟩
    ·rcases h' with ⟨us2,os2,h2,h'⟩ | ⟨h2,_⟩
     ·obtain ⟨rfl,rfl⟩:=h1.one h2
      exact UnF.one r (n + 1) us1 os1 h h'
     ·exact absurd h1 (h2 _ _)
    ·rcases h' with ⟨us2,os2,h2,h'⟩ | ⟨h2,rfl,rfl,rfl,rfl,rfl⟩
     ·exact absurd h2 (h1 _ _)
     ·exact ⟨rfl,rfl,rfl,rfl,rfl⟩
def zq (s:ByteArray) (u:List ByteArray) (o:List OpR) (b:ByteArray) (c l:Int):Prop:=
 (20000 < s.size /\ u = [] /\ o = [] /\ b = ByteArray.empty /\ c = 1 /\ l = 0) \/ (s.size <= 20000 /\ UnF s (pcs 10 s 0) 1 [] [] u o b c l)
theorem zq.one {s:ByteArray} {u u':List ByteArray} {o o':List OpR} {b b':ByteArray} {c c' l l':Int} (h:zq s u o b c l) (h':zq s u' o' b' c' l'):u = u' /\ o = o' /\ b = b' /\ c = c' /\ l = l':=by
 rcases h with ⟨a,rfl,rfl,rfl,rfl,rfl⟩ | ⟨a,h⟩
 ·rcases h' with ⟨_,rfl,rfl,rfl,rfl,rfl⟩ | ⟨a',_⟩
  ·exact ⟨rfl,rfl,rfl,rfl,rfl⟩
  ·omega
 ·rcases h' with ⟨a',_⟩ | ⟨_,h'⟩
  ·omega
  ·exact UnF.one _ _ _ _ h h'
end Go.Proofs.YtokabkhnidlcnacGreatDoor
namespace Go.Proofs.YtokabkhnidlcnacGreatDoor
set_option maxHeartbeats 16000000
set_option maxRecDepth 100000
open Go.RowKit
def zDj (w:World) (g:Nat) (xs:List OpR) (k:Nat):Prop:=
 g < w.heap.size /\ w.there g 0 (xs.length * 4) /\ ∀ i,i < k -> zBO w g 0 xs i
theorem zBO.setCell {w:World} {b off i:Nat} {xs:List OpR} (h:zBO w b off xs i) (p:Addr) (v:Value) (hp:p.block ≠ b):zBO (w.setCell p v) b off xs i:=by
 obtain ⟨h0,h1,h2,h3⟩:=h
 have e:∀ o,(w.setCell p v).cell? ⟨b,o,none⟩ = w.cell? ⟨b,o,none⟩:=fun o=>World.cell?_setCell_other _ _ _ _ (fun e=>hp (by rw [e]))
 exact ⟨(e _).trans h0,(e _).trans h1,(e _).trans h2,(e _).trans h3⟩
theorem zDj.setCell {w:World} {g k:Nat} {xs:List OpR} (h:zDj w g xs k) (p:Addr) (v:Value) (hp:p.block ≠ g):zDj (w.setCell p v) g xs k:=by
 obtain ⟨h1,h2,h3⟩:=h
 refine ⟨by simpa [World.setCell] using h1,fun j hj=>⟨?_,?_⟩,fun i hi=>(h3 i hi).setCell p v hp⟩
 ·rw [World.cell?_setCell_other _ _ _ _ (fun e=>hp (by rw [e]))]; exact (h2 j hj).1
 ·rw [World.frozen?_setCell]; exact (h2 j hj).2
theorem zDj.ops {w:World} {g:Nat} {xs:List OpR} (h:zDj w g xs xs.length):Ops w g 0 xs:=fun i hi=>h.2.2 i hi
theorem zFo {s t:ByteArray} (h:s.toList = t.toList):s = t:=by
 rw [ByteArray.toList_eq,ByteArray.toList_eq] at h
 obtain ⟨⟨a⟩⟩:=s
 obtain ⟨⟨b⟩⟩:=t
 simp at h
 rw [h]
def zP (zs:List OpR):List Value:=zs.flatMap fun o=>[.string o.s,.int .i64 o.k,.int .i64 o.l,.int .i64 o.sd]
theorem zJ9:zP [] = []:=rfl
theorem Z0 (xs ys:List OpR):zP (xs ++ ys) = zP xs ++ zP ys:=by simp [zP]
theorem zCe:∀ zs:List OpR,(zP zs).length = zs.length * 4
 | []=>rfl
 | o :: r=>by
  have:=zCe r
  simp only [zP,List.flatMap_cons,List.length_append,List.length_cons,List.length_nil] at *
  omega
theorem zEc:∀ (zs:List OpR) (i:Nat),i < zs.length -> (zP zs)[i * 4]? = some (.string (atO zs i).s) /\ (zP zs)[i * 4 + 1]? = some (.int .i64 (atO zs i).k) /\ (zP zs)[i * 4 + 2]? = some (.int .i64 (atO zs i).l) /\ (zP zs)[i * 4 + 3]? = some (.int .i64 (atO zs i).sd)
 | [],i,h=>absurd h (Nat.not_lt_zero i)
 | o :: r,0,_=>⟨rfl,rfl,rfl,rfl⟩
 | o :: r,i + 1,h=>by
  have ih:=zEc r i (by simpa using h)
  have e:∀ j,(zP (o :: r))[(i + 1) * 4 + j]? = (zP r)[i * 4 + j]?:=fun j=>by
   have:(i + 1) * 4 + j = (i * 4 + j) + 4:=by omega
   rw [this]
   rfl
  exact ⟨(e 0).trans ih.1,(e 1).trans ih.2.1,(e 2).trans ih.2.2.1,(e 3).trans ih.2.2.2⟩
theorem ZT (zs:List OpR):∀ u ∈ zP zs,u.oneCell' = true:=by
 intro u hu
 simp only [zP,List.mem_flatMap] at hu
 obtain ⟨o,_,ho⟩:=hu
 simp at ho
 rcases ho with rfl | rfl | rfl | rfl <;> rfl
theorem zMb {w:World} {b off:Nat} {xs:List OpR} (h:Ops w b off xs):∀ j u,(zP xs)[j]? = some u -> w.cell? ((⟨b,off,none⟩:Addr).add j) = some u:=by
 intro j u hj
 have hlt:j < xs.length * 4:=by
  rw [<- zCe]
  exact (List.getElem?_eq_some_iff.1 hj).1
 rw [Addr.add_mid]
 have hi:j / 4 < xs.length:=by omega
 obtain ⟨a0,a1,a2,a3⟩:=h (j / 4) hi
 obtain ⟨c0,c1,c2,c3⟩:=zEc xs (j / 4) hi
 have hr:j % 4 = 0 \/ j % 4 = 1 \/ j % 4 = 2 \/ j % 4 = 3:=by omega
 rcases hr with e | e | e | e
 ·have ej:j = j / 4 * 4:=by omega
  rw [ej] at hj ⊢
  rw [c0] at hj
  rw [<- hj]
  exact a0
 ·have ej:j = j / 4 * 4 + 1:=by omega
  rw [ej] at hj ⊢
  rw [c1] at hj
  rw [<- hj]
  exact a1
 ·have ej:j = j / 4 * 4 + 2:=by omega
  rw [ej] at hj ⊢
  rw [c2] at hj
  rw [<- hj]
  exact a2
 ·have ej:j = j / 4 * 4 + 3:=by omega
  rw [ej] at hj ⊢
  rw [c3] at hj
  rw [<- hj]
  exact a3
theorem zC3 {w:World} {base g cap:Nat} {e:TypeId} {zs:List OpR} (h:w.ownsRow base e 4 (.slice (some ⟨g,0,none⟩) zs.length cap) zs.length (zP zs)):base <= g /\ zDj w g zs zs.length:=by
 have hlt:=h.lt g rfl
 refine ⟨hlt.1,hlt.2,fun j hj=>⟨?_,h.frozenAt _⟩,fun i hi=>?_⟩
 ·rw [h.cellAt (0 + j) (by omega)]
  have:0 + j < (zP zs).length:=by rw [zCe]; omega
  rw [List.getElem?_eq_getElem this]
  rfl
 ·obtain ⟨c0,c1,c2,c3⟩:=zEc zs i hi
  have e:=fun j (hj:j < 4)=>h.cellAt (i * 4 + j) (by omega)
  exact ⟨by simpa using (e 0 (by omega)).trans c0,by simpa using (e 1 (by omega)).trans c1,by simpa using (e 2 (by omega)).trans c2,by simpa using (e 3 (by omega)).trans c3⟩
theorem zCf {w:World} {base n size:Nat} {e:TypeId} {v:Value} {xs:List Value} (h:w.ownsRow base e size v n xs) (hv:v ≠ .slice none 0 0):∃ g cap,v = .slice (some ⟨g,0,none⟩) n cap:=by
 obtain ⟨_,h | ⟨g,cap,cur,hv',_⟩⟩:=h
 ·exact absurd h.1 hv
 ·exact ⟨g,cap,hv'⟩
theorem zD1:(Tryz.prog.info? 41).map (fun i=>(i.zero,i.size,i.bytes)) = some (some (.agg #[.string ⟨#[]⟩,.int .i64 0,.int .i64 0,.int .i64 0]),4,40):=by kernel_rfl
theorem zE7 {B:Nat} {w w':World} {row:Option Nat} (hg:w.grownBy w' row) (hB:B <= w.heap.size) (hr:∀ k,row = some k -> B <= k):Below B w w':=
 (Below.refl B w).grown hg hB hr
theorem zMc {w:World} {base n size g cap:Nat} {e:TypeId} {xs:List Value} (h:w.ownsRow base e size (.slice (some ⟨g,0,none⟩) n cap) n xs):n <= cap /\ cap <= maxLen:=by
 obtain ⟨_,h | ⟨g',cap',cur,hv',_,_,h1,h2,_⟩⟩:=h
 ·simp at h
 ·simp only [Value.slice.injEq,Option.some.injEq] at hv'
  obtain ⟨_,_,rfl⟩:=hv'
  exact ⟨h1,h2⟩
theorem zLl (w:World) (o:OpR):(w.alloc (.cells #[.string o.s,.int .i64 o.k,.int .i64 o.l,.int .i64 o.sd] 41)).rangeAt w.heap.size 0 [.string o.s,.int .i64 o.k,.int .i64 o.l,.int .i64 o.sd]:=by
 have:=World.rangeAt_of_block (w:=w.alloc (.cells #[.string o.s,.int .i64 o.k,.int .i64 o.l,.int .i64 o.sd] 41)) (b:=w.heap.size) (heap_alloc_new w _) 0 4
 simpa using this
theorem zAh (w:World) (o:OpR):∀ j u,(zP [o])[j]? = some u -> (w.alloc (.cells #[.string o.s,.int .i64 o.k,.int .i64 o.l,.int .i64 o.sd] 41)).cell? ((⟨w.heap.size,0,none⟩:Addr).add j) = some u:=by
 intro j u hj
 rw [Addr.add_mid]
 exact zLl w o j u hj
def zAB (a b:OpR):Bool:=a.s.toList == b.s.toList && a.k == b.k && a.l == b.l && a.sd == b.sd
theorem ZB {a b:OpR}:zAB a b = true ↔ a = b:=by
 obtain ⟨s,k,l,sd⟩:=a
 obtain ⟨s',k',l',sd'⟩:=b
 simp only [zAB,Bool.and_eq_true,beq_iff_eq]
 constructor
 ·rintro ⟨⟨⟨h1,h2⟩,h3⟩,h4⟩
  rw [zFo h1,h2,h3,h4]
 ·intro h
  injection h with h1 h2 h3 h4
  exact ⟨⟨⟨by rw [h1],h2⟩,h3⟩,h4⟩
theorem zMd:Tryz.prog.underlying 41 = some (.struct (Tryz.prog.fieldsOf 41)):=by kernel_rfl
theorem zPs:Tryz.prog.stoodInHeld 41 = false:=by kernel_rfl
theorem zOG:Tryz.prog.eqGuardType Tryz.prog.depth 41 = false:=by kernel_rfl
theorem zLm (a b:OpR) (w:World) :
  (binOp .eql 41 (.agg #[.string a.s,.int .i64 a.k,.int .i64 a.l,.int .i64 a.sd]) (.agg #[.string b.s,.int .i64 b.k,.int .i64 b.l,.int .i64 b.sd])).run Tryz.prog w = .ok (.bool (zAB a b)) w:=by
 rw [run_eql_struct,run_equalIn_agg _ _ _ _ _ zMd zPs]
 unfold Program.fieldsOf zAB
 rw [Tryz.underlying41]
 cases h1:(a.s.toList == b.s.toList) <;> cases h2:(a.k == b.k) <;> cases h3:(a.l == b.l) <;> cases h4:(a.sd == b.sd) <;> simp [go_sem,h1,h2,h3,h4]
theorem zLn (g cap k:Nat) (zs:List OpR) (o:OpR) (w:World) (hm:zs.length <= 1048576) (hk:k <= zs.length) (hw:Ops w g 0 zs) (hB:g < w.heap.size) :
  Calls Tryz.prog 35 #[.slice (some ⟨g,0,none⟩) k cap,.agg #[.string o.s,.int .i64 o.k,.int .i64 o.l,.int .i64 o.sd]] w fun e w'=>(∃ v,e = .returned (.bool v) /\ (v = true ↔ ∃ j,j < k /\ atO zs j = o)) /\ Below w.heap.size w w':=by
 go_enter Tryz.func35,Tryz.ntmps35
 go_wp2
 go_loopw [5] (fun i wr=>∃ n:Nat,n <= k /\ i = .int .i64 (n:Int) /\ Hid (∀ j,j < n -> atO zs j ≠ o) /\ Below (w.heap.size + 1) (w.alloc (.cells #[.string o.s,.int .i64 o.k,.int .i64 o.l,.int .i64 o.sd] 41)) wr) (fun i _=>k - (intOf i).toNat)
 case atStart=>exact ⟨0,Nat.zero_le _,rfl,zB (fun j h=>(by omega)),Below.refl _ _⟩
 case round=>
  obtain ⟨n,hn,rfl,hno,hbel⟩:=hrel
  by_cases hlt:n < k
  ·obtain ⟨a0,a1,a2,a3⟩:=((hw n (by omega)).below (zC _ _) hB).below hbel (by omega)
   simp only [Nat.zero_add] at a0 a1 a2 a3
   have c0:wr.cell? ⟨w.heap.size,0,none⟩ = some (.string o.s):=by rw [hbel.cell (p:=⟨w.heap.size,0,none⟩) (show w.heap.size < _ by omega)]; simp [go_sem]
   have c1:wr.cell? ⟨w.heap.size,1,none⟩ = some (.int .i64 o.k):=by rw [hbel.cell (p:=⟨w.heap.size,1,none⟩) (show w.heap.size < _ by omega)]; simp [go_sem]
   have c2:wr.cell? ⟨w.heap.size,2,none⟩ = some (.int .i64 o.l):=by rw [hbel.cell (p:=⟨w.heap.size,2,none⟩) (show w.heap.size < _ by omega)]; simp [go_sem]
   have c3:wr.cell? ⟨w.heap.size,3,none⟩ = some (.int .i64 o.sd):=by rw [hbel.cell (p:=⟨w.heap.size,3,none⟩) (show w.heap.size < _ by omega)]; simp [go_sem]
   have hltI:(n:Int) < (k:Int):=by omega
   have hbel':=zB hbel
   clear hbel
   have hq:=fun W=>zLm (atO zs n) o W
   have hg:=zOG
   go_wp2_with fail
   go_quiet (fail)
   clear hq hg
   cases hsm:zAB (atO zs n) o
   ·have hne:=zB (show atO zs n ≠ o from fun e=>by rw [ZB.2 e] at hsm; cases hsm)
    go_wp2
    refine ⟨⟨n + 1,by omega,by go_num,zB ?_,below_drewN (zA hbel') nq⟩,by simp [intOf]; omega⟩
    intro j hj
    by_cases e:j = n
    ·subst e; exact zA hne
    ·exact (zA hno) j (by omega)
   ·have heq:=zB (ZB.1 hsm)
    go_wp2
    go_ret
    exact ⟨⟨true,rfl,⟨fun _=>⟨n,hlt,zA heq⟩,fun _=>rfl⟩⟩,below_drewN ((zC _ _).trans ((zA hbel').mono (by omega))) nq⟩
  ·go_wp2
   go_ret
   refine ⟨⟨false,rfl,⟨fun h=>(by cases h),fun ⟨j,hj,he⟩=>absurd he ((zA hno) j (by omega))⟩⟩,(zC _ _).trans (hbel.mono (by omega))⟩
def zAC (zs:List OpR):Nat -> List OpR
 | 0=>[]
 | k + 1=>if (List.range k).any (fun j=>zAB (atO zs j) (atO zs k)) then zAC zs k else zAC zs k ++ [atO zs k]
theorem zK5 {zs:List OpR} {k:Nat} (h:∃ j,j < k /\ atO zs j = atO zs k):zAC zs (k + 1) = zAC zs k:=by
 obtain ⟨j,hj,e⟩:=h
 have hp:((List.range k).any fun j=>zAB (atO zs j) (atO zs k)) = true:=by
  rw [List.any_eq_true]
  exact ⟨j,List.mem_range.2 hj,ZB.2 e⟩
 show (if _ then _ else _) = _
 rw [if_pos hp]
theorem zIr {zs:List OpR} {k:Nat} (h:¬ ∃ j,j < k /\ atO zs j = atO zs k):zAC zs (k + 1) = zAC zs k ++ [atO zs k]:=by
 have hp:¬ ((List.range k).any fun j=>zAB (atO zs j) (atO zs k)) = true:=by
  rw [List.any_eq_true]
  rintro ⟨j,hj,e⟩
  exact h ⟨j,List.mem_range.1 hj,ZB.1 e⟩
 show (if _ then _ else _) = _
 rw [if_neg hp]
theorem zK6 (zs:List OpR):∀ k,(zAC zs k).length <= k
 | 0=>Nat.le_refl _
 | k + 1=>by
  have:=zK6 zs k
  unfold zAC
  split
  ·omega
  ·simp; omega
end Go.Proofs.YtokabkhnidlcnacGreatDoor
