import Derived.Test.YtgiemobdmbijiaaGreatDoorRows
import Derived.WalkKit
import Derived.WalkSpells
import Derived.WalkLawsBesides
import Derived.Lib.Walk
import Derived.Deep.Light
import Derived.Deep.MidRow
import Derived.Lib.Bytealg
import Derived.Laws.MakeOwn
import Derived.Lib.SplitLaws
namespace Go.Proofs.YtgiemobdmbijiaaGreatDoor
set_option maxHeartbeats 16000000
set_option maxRecDepth 100000
open Go.RowKit
theorem zB {p:Prop} (h:p):Hid p:=h
theorem zA {p:Prop} (h:Hid p):p:=h
theorem zPR {W w1:World} (hb:Below W.heap.size W w1):(∀ b o,b < W.heap.size -> w1.cell? ⟨b,o,none⟩ = W.cell? ⟨b,o,none⟩) /\ (∀ b o,b < W.heap.size -> w1.frozen? ⟨b,o,none⟩ = W.frozen? ⟨b,o,none⟩):=
 ⟨fun b o h=>hb.cell (p:=⟨b,o,none⟩) h,fun b o h=>hb.frozen (p:=⟨b,o,none⟩) h⟩
theorem ZA {a b:Bool} (h:a = b):Ending.returned (.bool a) = .returned (.bool b):=by rw [h]
theorem zG {k:IntKind} {a b:Int} (h:a = b):Ending.returned (.int k a) = .returned (.int k b):=by rw [h]
theorem zKP {a b:ByteArray} (h:a = b):Ending.returned (.string a) = .returned (.string b):=by rw [h]
theorem zC (w:World) (o):Below w.heap.size w (w.alloc o):=(Below.refl _ _).alloc (Nat.le_refl _) _
theorem zJ {B:Nat} {a:World} {g:Nat} (hg:B <= g):∀ (vs:List Value) (o:Nat) (w:World),Below B a w -> Below B a (w.setCells g o vs)
 | [],_,_,h=>h
 | v :: r,o,_,h=>zJ hg r (o + 1) _ (h.setCell (p:=⟨g,o,none⟩) hg v)
end Go.Proofs.YtgiemobdmbijiaaGreatDoor
namespace Go.Proofs.YtgiemobdmbijiaaGreatDoor
set_option maxHeartbeats 16000000
set_option maxRecDepth 100000
def sgL:List UInt8:=[43,45,42,47,60,62,61,33,38,124,94,126,63,58,64,37,36,46]
def sgB (c:UInt8):Bool:=sgL.contains c
def zGa (l:List UInt8):Bool:=l.all sgB
def zFW (s:ByteArray):Bool:=zGa s.data.toList && decide (1 <= s.size) && decide (s.size <= 16)
def zGl (k sd:Int):Bool:=(k == 2 && (sd == 1 || sd == 2 || sd == 3)) || ((k == 1 || k == 3) && sd == 0)
def okB (s:ByteArray) (k l sd:Int):Bool:=zFW s && decide (1 <= l) && decide (l <= 1000) && zGl k sd
def zOf (l sd:Int) (b:Bool):Int:=if sd = (if b then 2 else 1) then l else l + 1
def zAu (s:ByteArray) (k l sd:Int) (b:Bool):Int:=
 if okB s k l sd = false then 0 else if k = 2 then zOf l sd b else if b then 0 else l
theorem zIE (s:ByteArray) (k l sd:Int) (h:okB s k l sd = true) :
  (1 <= l /\ l <= 1000) /\ ((k = 2 /\ sd = 1) \/ (k = 2 /\ sd = 2) \/ (k = 2 /\ sd = 3) \/ (k = 1 /\ sd = 0) \/ (k = 3 /\ sd = 0)):=by
 simp only [okB,zGl,Bool.and_eq_true,Bool.or_eq_true,decide_eq_true_eq,beq_iff_eq] at h
 omega
theorem zLc (s:ByteArray) (k l sd:Int) (b:Bool) (h:okB s k l sd = false):zAu s k l sd b = 0:=by
 simp [zAu,h]
theorem zOg (c:UInt8):(decide (0 <= Lib.indexByte sgL c)) = sgB c:=by
 obtain ⟨v⟩:=c
 revert v
 decide +kernel
theorem zLd (c:UInt8) (h:∀ j,j < 18 -> sgL.getD j 0 ≠ c):sgB c = false:=by
 have h':∀ x ∈ sgL,x ≠ c:=by
  intro x hx
  obtain ⟨j,hj,e⟩:=List.getElem_of_mem hx
  have:=h j hj
  rw [List.getD_eq_getElem?_getD,List.getElem?_eq_getElem hj] at this
  simpa [e] using this
 unfold sgB
 simp only [List.contains_eq_mem,decide_eq_false_iff_not]
 intro hc
 exact h' c hc rfl
theorem zLe (c:UInt8) (j:Nat) (hj:j < 18) (h:sgL.getD j 0 = c):sgB c = true:=by
 unfold sgB
 simp only [List.contains_eq_mem,decide_eq_true_eq]
 rw [List.getD_eq_getElem?_getD,List.getElem?_eq_getElem hj] at h
 rw [<- h]
 exact List.getElem_mem _
theorem zLf (l:List UInt8) (c:UInt8):zGa (l ++ [c]) = (zGa l && sgB c):=by
 simp [zGa]
theorem zK4 (s:ByteArray) (k:Nat) (h:k < s.size):s.data.toList.take (k + 1) = s.data.toList.take k ++ [s[k]]:=by
 rw [List.take_succ_eq_append_getElem (by simpa using h)]; rfl
theorem zLg (s:ByteArray) (k:Nat) (h:¬ k < s.size):s.data.toList.take k = s.data.toList:=by
 rw [List.take_of_length_le]; simp; omega
theorem zK5 (s:ByteArray) (k:Nat) (h:k < s.size) (hb:sgB s[k] = false):zGa s.data.toList = false:=by
 have hm:s[k] ∈ s.data.toList:=by
  have:s[k] = s.data.toList[k]'(by simpa using h):=rfl
  rw [this]; exact List.getElem_mem _
 simp only [zGa,List.all_eq_false]
 exact ⟨_,hm,by simp [hb]⟩
theorem zPS (a c:UInt8) (h:((a.toNat:Int) == (c.toNat:Int)) = true):a = c:=by
 have:=beq_iff_eq.1 h
 exact UInt8.toNat_inj.1 (by omega)
theorem zPT (a c:UInt8) (h:((a.toNat:Int) == (c.toNat:Int)) = false):a ≠ c:=by
 intro e
 subst e
 simp at h
theorem zKQ (k:Nat) (h:k < 18) (h':k < (ByteArray.mk #[43,45,42,47,60,62,61,33,38,124,94,126,63,58,64,37,36,46]).size) :
  (ByteArray.mk #[43,45,42,47,60,62,61,33,38,124,94,126,63,58,64,37,36,46])[k]'h' = sgL.getD k 0:=by
 have e:∀ i:Fin 18,(ByteArray.mk #[43,45,42,47,60,62,61,33,38,124,94,126,63,58,64,37,36,46])[i.val]'i.isLt = sgL.getD i.val 0:=by decide
 exact e ⟨k,h⟩
end Go.Proofs.YtgiemobdmbijiaaGreatDoor
namespace Go.Proofs.YtgiemobdmbijiaaGreatDoor
set_option maxHeartbeats 16000000
set_option maxRecDepth 100000
open Go.RowKit
structure OpR where
 s:ByteArray
 k:Int
 l:Int
 sd:Int
def OpR.ok (o:OpR):Bool:=okB o.s o.k o.l o.sd
def OpR.zero:OpR:=⟨⟨#[]⟩,0,0,0⟩
def atO (xs:List OpR) (i:Nat):OpR:=xs.getD i OpR.zero
def zBT (w:World) (b off:Nat) (xs:List OpR) (i:Nat):Prop:=
 w.cell? ⟨b,off + i * 4,none⟩ = some (.string (atO xs i).s) /\ w.cell? ⟨b,off + i * 4 + 1,none⟩ = some (.int .i64 (atO xs i).k) /\
  w.cell? ⟨b,off + i * 4 + 2,none⟩ = some (.int .i64 (atO xs i).l) /\ w.cell? ⟨b,off + i * 4 + 3,none⟩ = some (.int .i64 (atO xs i).sd)
def Ops (w:World) (b off:Nat) (xs:List OpR):Prop:=∀ i,i < xs.length -> zBT w b off xs i
def Zs (xs:List OpR):Prop:=∀ i,i < xs.length -> (atO xs i).s.size <= maxLen
theorem zBT.below {w w':World} {b off i:Nat} {xs:List OpR} {B:Nat} (h:zBT w b off xs i) (hb:Below B w w') (hB:b < B):zBT w' b off xs i:=by
 obtain ⟨h0,h1,h2,h3⟩:=h
 exact ⟨(hb.cell (p:=⟨b,_,none⟩) hB).trans h0,(hb.cell (p:=⟨b,_,none⟩) hB).trans h1,(hb.cell (p:=⟨b,_,none⟩) hB).trans h2,(hb.cell (p:=⟨b,_,none⟩) hB).trans h3⟩
theorem Ops.below {w w':World} {b off:Nat} {xs:List OpR} {B:Nat} (h:Ops w b off xs) (hb:Below B w w') (hB:b < B):Ops w' b off xs:=
 fun i hi=>(h i hi).below hb hB
def zDR (xs:List OpR) (k:Nat):Prop:=∀ j,j < k -> (atO xs j).ok = true
theorem zK6 {xs:List OpR} {k:Nat} (h:zDR xs k) (hk:(atO xs k).ok = true):zDR xs (k + 1):=by
 intro j hj
 by_cases e:j = k
 ·subst e; exact hk
 ·exact h j (by omega)
def bt (s:ByteArray) (i:Nat):UInt8:=s.data[i]?.getD 0
theorem ZH {s:ByteArray} {i:Nat} (h:i < s.size):s[i] = bt s i:=by
 have h':i < s.data.size:=h
 show s.data[i] = _
 unfold bt
 rw [Array.getElem?_eq_getElem h']
 rfl
def cls (c:UInt8):Nat:=
 if c.toNat = 32 \/ c.toNat = 9 \/ c.toNat = 10 then 1
 else if 48 <= c.toNat /\ c.toNat <= 57 then 2
 else if (65 <= c.toNat /\ c.toNat <= 90) \/ (97 <= c.toNat /\ c.toNat <= 122) \/ c.toNat = 95 then 3
 else if c.toNat = 40 then 4
 else if c.toNat = 41 then 5
 else if sgB c = true then 6
 else 0
theorem zHT (c:UInt8):sgB c = decide (cls c = 6):=by
 obtain ⟨v⟩:=c
 revert v
 decide +kernel
theorem zK7 (c:UInt8):(cls c = 1) ↔ (c.toNat = 32 \/ c.toNat = 9 \/ c.toNat = 10):=by
 obtain ⟨v⟩:=c
 revert v
 decide +kernel
theorem zCA (c:UInt8):(cls c = 2) ↔ (48 <= c.toNat /\ c.toNat <= 57):=by
 obtain ⟨v⟩:=c
 revert v
 decide +kernel
theorem zNN (c:UInt8):(cls c = 3) ↔ ((65 <= c.toNat /\ c.toNat <= 90) \/ (97 <= c.toNat /\ c.toNat <= 122) \/ c.toNat = 95):=by
 obtain ⟨v⟩:=c
 revert v
 decide +kernel
theorem zDi (c:UInt8):(cls c = 4) ↔ c = 40:=by
 obtain ⟨v⟩:=c
 revert v
 decide +kernel
theorem zC1 (c:UInt8):(cls c = 5) ↔ c = 41:=by
 obtain ⟨v⟩:=c
 revert v
 decide +kernel
theorem zOh (c:UInt8):cls c < 7:=by
 unfold cls
 split
 ·omega
 ·split
  ·omega
  ·split
   ·omega
   ·split
    ·omega
    ·split
     ·omega
     ·split <;> omega
def zDS (t:ByteArray):Prop:=1 <= t.size /\ ∀ j,j < t.size -> cls (bt t j) = 2
def zBY (t:ByteArray):Prop:=1 <= t.size /\ ∀ j,j < t.size -> (cls (bt t j) = 3 \/ (j ≠ 0 /\ cls (bt t j) = 2))
def zNO (t:ByteArray):Bool:=decide (1 <= t.size) && (List.range t.size).all fun j=>cls (bt t j) == 2
def zLh (t:ByteArray):Bool:=decide (1 <= t.size) && (List.range t.size).all fun j=>cls (bt t j) == 3 || (j != 0 && cls (bt t j) == 2)
theorem Zb (t:ByteArray):zNO t = true ↔ zDS t:=by
 simp [zNO,zDS,List.all_eq_true]
theorem Zg (t:ByteArray):zLh t = true ↔ zBY t:=by
 simp [zLh,zBY,List.all_eq_true]
theorem zBm (t:ByteArray) (a:Array UInt8):t.data = a ↔ t = ⟨a⟩:=⟨fun h=>by cases t; simp_all,fun h=>by rw [h]⟩
end Go.Proofs.YtgiemobdmbijiaaGreatDoor
namespace Go.Proofs.YtgiemobdmbijiaaGreatDoor
set_option linter.unusedSimpArgs false
set_option linter.unusedVariables false
set_option maxHeartbeats 16000000
set_option maxRecDepth 100000
def nxF (c:UInt8) (s:ByteArray):Nat -> Nat -> Nat
 | 0,i=>i
 | n + 1,i=>if i < s.size /\ bt s i ≠ c then nxF c s n (i + 1) else i
def nx (c:UInt8) (s:ByteArray) (i:Nat):Nat:=nxF c s (s.size - i) i
theorem zIF (c:UInt8) (s:ByteArray):∀ (n i:Nat),s.size - i <= n -> i <= s.size -> i <= nxF c s n i /\ nxF c s n i <= s.size /\ (∀ k,i <= k -> k < nxF c s n i -> bt s k ≠ c) /\ (nxF c s n i < s.size -> bt s (nxF c s n i) = c)
 | 0,i,hn,hi=>by
  simp only [nxF]
  exact ⟨Nat.le_refl _,hi,fun k h1 h2=>by omega,fun h=>by omega⟩
 | n + 1,i,hn,hi=>by
  simp only [nxF]
  by_cases h:i < s.size /\ bt s i ≠ c
  ·rw [if_pos h]
   obtain ⟨h1,h2,h3,h4⟩:=zIF c s n (i + 1) (by omega) (by omega)
   refine ⟨by omega,h2,fun k k1 k2=>?_,h4⟩
   by_cases e:k = i
   ·subst e; exact h.2
   ·exact h3 k (by omega) k2
  ·rw [if_neg h]
   refine ⟨Nat.le_refl _,hi,fun k h1 h2=>by omega,fun hl=>?_⟩
   by_cases e:bt s i = c
   ·exact e
   ·exact absurd ⟨hl,e⟩ h
theorem Z3 (c:UInt8) (s:ByteArray) (i:Nat) (hi:i <= s.size):i <= nx c s i /\ nx c s i <= s.size /\ (∀ k,i <= k -> k < nx c s i -> bt s k ≠ c) /\ (nx c s i < s.size -> bt s (nx c s i) = c):=
 zIF c s _ i (Nat.le_refl _) hi
theorem zFX {c:UInt8} {s:ByteArray} {i j:Nat} (hi:i <= s.size) (h1:i <= j) (h2:j <= s.size) (h3:∀ k,i <= k -> k < j -> bt s k ≠ c) (h4:j < s.size -> bt s j = c):nx c s i = j:=by
 obtain ⟨g1,g2,g3,g4⟩:=Z3 c s i hi
 rcases Nat.lt_trichotomy (nx c s i) j with h | h | h
 ·exact absurd (g4 (by omega)) (h3 _ g1 h)
 ·exact h
 ·exact absurd (h4 (by omega)) (g3 _ h1 h)
def pcF (c:UInt8) (s:ByteArray):Nat -> Nat -> List (Nat × Nat)
 | 0,_=>[]
 | n + 1,i=>(i,nx c s i) :: (if nx c s i < s.size then pcF c s n (nx c s i + 1) else [])
def pcs (c:UInt8) (s:ByteArray) (i:Nat):List (Nat × Nat):=pcF c s (s.size - i + 1) i
theorem zIG (c:UInt8) (s:ByteArray):∀ (n m i:Nat),i <= s.size -> s.size - i + 1 <= n -> s.size - i + 1 <= m -> pcF c s n i = pcF c s m i
 | 0,_,i,hi,hn,_=>by omega
 | _ + 1,0,i,hi,_,hm=>by omega
 | n + 1,m + 1,i,hi,hn,hm=>by
  simp only [pcF]
  congr 1
  have h:=Z3 c s i hi
  by_cases hl:nx c s i < s.size
  ·rw [if_pos hl,if_pos hl]
   exact zIG c s n m _ (by omega) (by omega) (by omega)
  ·rw [if_neg hl,if_neg hl]
theorem zAY (c:UInt8) (s:ByteArray) (i:Nat) (hi:i <= s.size):pcs c s i = (i,nx c s i) :: (if nx c s i < s.size then pcs c s (nx c s i + 1) else []):=by
 have h:=Z3 c s i hi
 conv=>lhs; unfold pcs
 simp only [pcF]
 congr 1
 by_cases hl:nx c s i < s.size
 ·rw [if_pos hl,if_pos hl]
  exact zIG c s _ _ _ (by omega) (by omega) (by omega)
 ·rw [if_neg hl,if_neg hl]
def wds (l:ByteArray):List ByteArray:=((pcs 32 l 0).filter (fun p=>decide (p.1 < p.2))).map (fun p=>l.extract p.1 p.2)
def zAg (l:ByteArray) (i:Nat):List ByteArray:=((pcs 32 l i).filter (fun p=>decide (p.1 < p.2))).map (fun p=>l.extract p.1 p.2)
theorem zLi (l:ByteArray):wds l = zAg l 0:=rfl
theorem zAv (l:ByteArray) (i:Nat) (hi:i <= l.size):zAg l i = (if i < nx 32 l i then [l.extract i (nx 32 l i)] else []) ++ (if nx 32 l i < l.size then zAg l (nx 32 l i + 1) else []):=by
 unfold zAg
 rw [zAY 32 l i hi]
 by_cases h1:i < nx 32 l i
 ·rw [if_pos h1,List.filter_cons_of_pos (by simpa using h1)]
  by_cases h2:nx 32 l i < l.size
  ·rw [if_pos h2,if_pos h2]; rfl
  ·rw [if_neg h2,if_neg h2]; rfl
 ·rw [if_neg h1,List.filter_cons_of_neg (by simpa using h1)]
  by_cases h2:nx 32 l i < l.size
  ·rw [if_pos h2,if_pos h2]; rfl
  ·rw [if_neg h2,if_neg h2]; rfl
def bB (l:List UInt8):ByteArray:=⟨l.toArray⟩
def zh:ByteArray:=⟨#[98,101,103,105,110]⟩
def zEM:ByteArray:=⟨#[117,115,101]⟩
def Zi:ByteArray:=⟨#[112,114,101,102,105,120]⟩
def Z7:ByteArray:=⟨#[105,110,102,105,120]⟩
def ZN:ByteArray:=⟨#[112,111,115,116,102,105,120]⟩
def zCd:ByteArray:=⟨#[108,101,102,116]⟩
def zBZ:ByteArray:=⟨#[114,105,103,104,116]⟩
def zCe:ByteArray:=⟨#[110,111,110,101]⟩
def zJW (w:ByteArray):Prop:=1 <= w.size /\ w.size <= 6 /\ ∀ i,i < w.size -> 48 <= (bt w i).toNat /\ (bt w i).toNat <= 57
def zx (w:ByteArray):Nat -> Nat
 | 0=>0
 | k + 1=>zx w k * 10 + ((bt w k).toNat - 48)
def ZM (w:ByteArray):Int:=if w = zCd then 1 else if w = zBZ then 2 else if w = zCe then 3 else 0
theorem zDj (w:ByteArray) (h:∀ i,i < w.size -> 48 <= (bt w i).toNat /\ (bt w i).toNat <= 57):∀ k,k <= w.size -> zx w k < 10 ^ k
 | 0,_=>by simp [zx]
 | k + 1,hk=>by
  have:=zDj w h k (by omega)
  have:=h k (by omega)
  simp only [zx,Nat.pow_succ]
  omega
def OpW (ws:List ByteArray) (o:OpR):Prop:=
 ∃ k t l,zJW l /\ ((ws = [k,t,l] /\ ((k = Zi /\ o = ⟨t,1,(zx l l.size:Int),0⟩) \/ (k = ZN /\ o = ⟨t,3,(zx l l.size:Int),0⟩))) \/
  ∃ sd,ws = [k,t,l,sd] /\ k = Z7 /\ ZM sd ≠ 0 /\ o = ⟨t,2,(zx l l.size:Int),ZM sd⟩)
theorem OpW.one {ws:List ByteArray} {o o':OpR} (h:OpW ws o) (h':OpW ws o'):o = o':=by
 obtain ⟨k,t,l,hl,h⟩:=h
 obtain ⟨k',t',l',hl',h'⟩:=h'
 rcases h with ⟨e,h⟩ | ⟨sd,e,hk,hs,rfl⟩
 ·rcases h' with ⟨e',h'⟩ | ⟨sd',e',hk',hs',rfl⟩
  ·rw [e] at e'
   simp only [List.cons.injEq,and_true] at e'
   obtain ⟨rfl,rfl,rfl⟩:=e'
   rcases h with ⟨h1,rfl⟩ | ⟨h1,rfl⟩ <;> rcases h' with ⟨h2,rfl⟩ | ⟨h2,rfl⟩
   ·rfl
   ·rw [h1] at h2; exact absurd h2 (by decide)
   ·rw [h1] at h2; exact absurd h2 (by decide)
   ·rfl
  ·rw [e] at e'; simp at e'
 ·rcases h' with ⟨e',h'⟩ | ⟨sd',e',hk',hs',rfl⟩
  ·rw [e] at e'; simp at e'
  ·rw [e] at e'
   simp only [List.cons.injEq,and_true] at e'
   obtain ⟨rfl,rfl,rfl,rfl⟩:=e'
   rfl
def Zv (ws:List ByteArray) (us:List ByteArray) (os:List OpR) (us':List ByteArray) (os':List OpR):Prop:=
 (ws = [] /\ us' = us /\ os' = os) \/ (∃ x,ws = [zEM,x] /\ us' = us ++ [x] /\ os' = os) \/ (∃ o,OpW ws o /\ us' = us /\ os' = os ++ [o])
theorem OpW.len {ws:List ByteArray} {o:OpR} (h:OpW ws o):ws.length = 3 \/ ws.length = 4:=by
 obtain ⟨k,t,l,hl,⟨rfl,_⟩ | ⟨sd,rfl,_⟩⟩:=h
 ·exact Or.inl rfl
 ·exact Or.inr rfl
theorem Zv.one {ws us us1 us2:List ByteArray} {os os1 os2:List OpR} (h:Zv ws us os us1 os1) (h':Zv ws us os us2 os2):us1 = us2 /\ os1 = os2:=by
 rcases h with ⟨e,rfl,rfl⟩ | ⟨x,e,rfl,rfl⟩ | ⟨o,ho,rfl,rfl⟩
 ·rcases h' with ⟨_,rfl,rfl⟩ | ⟨x',e',_⟩ | ⟨o',ho',_⟩
  ·exact ⟨rfl,rfl⟩
  ·rw [e] at e'; simp at e'
  ·have:=ho'.len; rw [e] at this; simp at this
 ·rcases h' with ⟨e',_⟩ | ⟨x',e',rfl,rfl⟩ | ⟨o',ho',_⟩
  ·rw [e] at e'; simp at e'
  ·rw [e] at e'
   simp only [List.cons.injEq,and_true,true_and] at e'
   subst e'
   exact ⟨rfl,rfl⟩
  ·have:=ho'.len; rw [e] at this; simp at this
 ·rcases h' with ⟨e',_⟩ | ⟨x',e',_⟩ | ⟨o',ho',rfl,rfl⟩
  ·have:=ho.len; rw [e'] at this; simp at this
  ·have:=ho.len; rw [e'] at this; simp at this
  ·rw [ho.one ho']; exact ⟨rfl,rfl⟩
def zAZ (s:ByteArray) (z:Nat):ByteArray:=if z < s.size then s.extract (z + 1) s.size else ByteArray.empty
def UnF (s:ByteArray):List (Nat × Nat) -> Nat -> List ByteArray -> List OpR -> List ByteArray -> List OpR -> ByteArray -> Int -> Int -> Prop
 | [],_,_,_,u,o,b,c,l=>u = [] /\ o = [] /\ b = ByteArray.empty /\ c = 3 /\ l = 0
 | p :: r,n,us,os,u,o,b,c,l=>
  (wds (s.extract p.1 p.2) = [zh] /\ u = us /\ o = os /\ b = zAZ s p.2 /\ c = 0 /\ l = 0) \/
  (wds (s.extract p.1 p.2) ≠ [zh] /\ ((∃ us' os',Zv (wds (s.extract p.1 p.2)) us os us' os' /\ UnF s r (n + 1) us' os' u o b c l) \/
   ((∀ us' os',¬ Zv (wds (s.extract p.1 p.2)) us os us' os') /\ u = [] /\ o = [] /\ b = ByteArray.empty /\ c = 2 /\ l = (n:Int))))
theorem UnF.one {s:ByteArray}:∀ (ls:List (Nat × Nat)) (n:Nat) (us:List ByteArray) (os:List OpR) {u u':List ByteArray} {o o':List OpR} {b b':ByteArray} {c c' l l':Int},UnF s ls n us os u o b c l -> UnF s ls n us os u' o' b' c' l' -> u = u' /\ o = o' /\ b = b' /\ c = c' /\ l = l'
 | [],n,us,os,_,_,_,_,_,_,_,_,_,_,h,h'=>by
  obtain ⟨rfl,rfl,rfl,rfl,rfl⟩:=h
  obtain ⟨rfl,rfl,rfl,rfl,rfl⟩:=h'
  exact ⟨rfl,rfl,rfl,rfl,rfl⟩
 | p :: r,n,us,os,_,_,_,_,_,_,_,_,_,_,h,h'=>by
  rcases h with ⟨e,rfl,rfl,rfl,rfl,rfl⟩ | ⟨e,h⟩
  ·rcases h' with ⟨_,rfl,rfl,rfl,rfl,rfl⟩ | ⟨e',_⟩
   ·exact ⟨rfl,rfl,rfl,rfl,rfl⟩
   ·exact absurd e e'
  ·rcases h' with ⟨e',_⟩ | ⟨_,h'⟩
   ·exact absurd e' e
   ·rcases h with ⟨us1,os1,h1,h⟩ | ⟨h1,rfl,rfl,rfl,rfl,rfl⟩
    ·rcases h' with ⟨us2,os2,h2,h'⟩ | ⟨h2,_⟩
     ·obtain ⟨rfl,rfl⟩:=h1.one h2
      exact UnF.one r (n + 1) us1 os1 h h'
     ·exact absurd h1 (h2 _ _)
    ·rcases h' with ⟨us2,os2,h2,h'⟩ | ⟨h2,rfl,rfl,rfl,rfl,rfl⟩
     ·exact absurd h2 (h1 _ _)
     ·exact ⟨rfl,rfl,rfl,rfl,rfl⟩
def zn (s:ByteArray) (u:List ByteArray) (o:List OpR) (b:ByteArray) (c l:Int):Prop:=
 (20000 < s.size /\ u = [] /\ o = [] /\ b = ByteArray.empty /\ c = 1 /\ l = 0) \/ (s.size <= 20000 /\ UnF s (pcs 10 s 0) 1 [] [] u o b c l)
theorem zn.one {s:ByteArray} {u u':List ByteArray} {o o':List OpR} {b b':ByteArray} {c c' l l':Int} (h:zn s u o b c l) (h':zn s u' o' b' c' l'):u = u' /\ o = o' /\ b = b' /\ c = c' /\ l = l':=by
 rcases h with ⟨a,rfl,rfl,rfl,rfl,rfl⟩ | ⟨a,h⟩
 ·rcases h' with ⟨_,rfl,rfl,rfl,rfl,rfl⟩ | ⟨a',_⟩
  ·exact ⟨rfl,rfl,rfl,rfl,rfl⟩
  ·omega
 ·rcases h' with ⟨a',_⟩ | ⟨_,h'⟩
  ·omega
  ·exact UnF.one _ _ _ _ h h'
theorem zHU {s:ByteArray} {j:Nat} (h:j < s.size):s.data.toList[j]? = some (bt s j):=by
 have h':j < s.data.size:=h
 unfold bt
 rw [Array.getElem?_toList,Array.getElem?_eq_getElem h']
 rfl
theorem zHV (s:ByteArray) (c:UInt8) (j:Nat):Lib.occAt s.data.toList [c] j = decide (j < s.size /\ bt s j = c):=by
 unfold Lib.occAt
 by_cases h:j < s.size
 ·have hl:j < s.data.toList.length:=h
  have hb:=zHU h
  rw [List.getElem?_eq_getElem hl] at hb
  injection hb with hb
  rw [List.drop_eq_getElem_cons hl,hb]
  rw [Bool.eq_iff_iff]
  simp [List.isPrefixOf,h]
  exact ⟨fun e=>e.symm,fun e=>e.symm⟩
 ·have hl:s.data.toList.length <= j:=Nat.le_of_not_lt h
  rw [List.drop_eq_nil_of_le hl]
  simp [List.isPrefixOf,h]
theorem zIH (s:ByteArray) (c:UInt8):(nx c s 0 < s.size -> Lib.indexB s ⟨#[c]⟩ = (nx c s 0:Int)) /\ (¬ nx c s 0 < s.size -> Lib.indexB s ⟨#[c]⟩ = -1):=by
 obtain ⟨h1,h2,h3,h4⟩:=Z3 c s 0 (Nat.zero_le _)
 constructor
 ·intro h
  refine Lib.index_first (s:=s.data.toList) (sub:=[c]) h2 ?_ (fun j hj=>?_)
  ·rw [zHV]; simpa using ⟨h,h4 h⟩
  ·rw [zHV]; simp only [decide_eq_false_iff_not]
   exact fun e=>h3 j (Nat.zero_le _) hj e.2
 ·intro h
  refine Lib.index_none (s:=s.data.toList) (sub:=[c]) (fun j hj=>?_)
  rw [zHV]; simp only [decide_eq_false_iff_not]
  exact fun e=>h3 j (Nat.zero_le _) (by omega) e.2
theorem ZO (s:ByteArray) (a b:Nat):(s.extract a b).size = min b s.size - a:=by
 simp [ByteArray.size_extract]
theorem zHW (s:ByteArray) (a b j:Nat) (h:j < min b s.size - a):bt (s.extract a b) j = bt s (a + j):=by
 have h1:j < (s.extract a b).size:=by rw [ZO]; exact h
 rw [<- ZH h1,<- ZH (s:=s) (i:=a + j) (by omega)]
 simp [ByteArray.getElem_extract]
theorem zII (c:UInt8) (s:ByteArray) (a:Nat) (ha:a <= s.size):nx c s a = a + nx c (s.extract a s.size) 0:=by
 obtain ⟨h1,h2,h3,h4⟩:=Z3 c (s.extract a s.size) 0 (Nat.zero_le _)
 rw [ZO,Nat.min_self] at h2 h4
 refine zFX ha (by omega) (by omega) (fun k k1 k2=>?_) (fun h=>?_)
 ·have:=h3 (k - a) (Nat.zero_le _) (by omega)
  rw [zHW s a s.size (k - a) (by rw [Nat.min_self]; omega)] at this
  rwa [show a + (k - a) = k by omega] at this
 ·have:=h4 (by omega)
  rwa [zHW s a s.size _ (by rw [Nat.min_self]; omega)] at this
theorem zFI (s:ByteArray) (a k l:Nat) (h:a + l <= s.size):(s.extract a s.size).extract k l = s.extract (a + k) (a + l):=by
 rw [ByteArray.extract_extract]
 congr 1
 omega
theorem zIJ (s:ByteArray):s.extract 0 s.size = s:=by simp
theorem zGm (c:UInt8) (s:ByteArray):∀ (n a:Nat),s.size - a < n -> a <= s.size -> Lib.splitB ⟨#[c]⟩ 0 (Lib.countB (s.extract a s.size) ⟨#[c]⟩) (s.extract a s.size) = (pcs c s a).map (fun p=>s.extract p.1 p.2)
 | 0,a,hn,ha=>by omega
 | n + 1,a,hn,ha=>by
  have hsz:(s.extract a s.size).size = s.size - a:=by rw [ZO,Nat.min_self]
  obtain ⟨i1,i2⟩:=zIH (s.extract a s.size) c
  have hx:=zII c s a ha
  obtain ⟨g1,g2,g3,g4⟩:=Z3 c s a ha
  rw [zAY c s a ha]
  by_cases h:nx c s a < s.size
  ·have e:=i1 (by omega)
   have hone:(⟨#[c]⟩:ByteArray).size = 1:=rfl
   have e1:(s.extract a s.size).extract 0 (nx c (s.extract a s.size) 0) = s.extract a (nx c s a):=by
    rw [zFI s a 0 _ (by omega),hx,Nat.add_zero]
   have e2:(s.extract a s.size).extract (nx c (s.extract a s.size) 0 + 1) (s.size - a) = s.extract (nx c s a + 1) s.size:=by
    rw [zFI s a _ _ (by omega),show a + (nx c (s.extract a s.size) 0 + 1) = nx c s a + 1 by omega,show a + (s.size - a) = s.size by omega]
   have e3:=zGm c s n (nx c s a + 1) (by omega) (by omega)
   rw [if_pos h,Lib.countB_hit _ _ _ (by rw [hone]; exact Nat.le_refl _) e,Nat.add_comm,Lib.splitB_hit _ _ _ _ _ e,List.map_cons,hone,hsz,e2,e3,Nat.add_zero,e1]
  ·have e:=i2 (by omega)
   rw [if_neg h,Lib.countB_miss _ _ e,Lib.splitB_zero]
   simp only [List.map_cons,List.map_nil]
   rw [show nx c s a = s.size by omega]
theorem zJX (c:UInt8) (s:ByteArray):Lib.splitB ⟨#[c]⟩ 0 (Lib.countB s ⟨#[c]⟩) s = (pcs c s 0).map (fun p=>s.extract p.1 p.2):=by
 have:=zGm c s (s.size + 1) 0 (by omega) (Nat.zero_le _)
 rwa [zIJ] at this
def zFY (ps:List ByteArray):List ByteArray:=ps.filter (fun b=>decide (0 < b.size))
theorem zIK (s:ByteArray):∀ (n a:Nat),s.size - a < n -> a <= s.size -> zFY ((pcs 32 s a).map (fun p=>s.extract p.1 p.2)) = zAg s a
 | 0,a,hn,ha=>by omega
 | n + 1,a,hn,ha=>by
  obtain ⟨g1,g2,g3,g4⟩:=Z3 32 s a ha
  rw [zAv s a ha,zAY 32 s a ha,List.map_cons]
  have hsz:(s.extract a (nx 32 s a)).size = nx 32 s a - a:=by rw [ZO]; omega
  have hrest:zFY ((if nx 32 s a < s.size then pcs 32 s (nx 32 s a + 1) else []).map (fun p=>s.extract p.1 p.2)) = (if nx 32 s a < s.size then zAg s (nx 32 s a + 1) else []):=by
   by_cases h:nx 32 s a < s.size
   ·rw [if_pos h,if_pos h]
    exact zIK s n _ (by omega) (by omega)
   ·rw [if_neg h,if_neg h]; rfl
  rw [<- hrest]
  unfold zFY
  by_cases h:a < nx 32 s a
  ·rw [if_pos h,List.filter_cons_of_pos (by simp [hsz]; omega)]; rfl
  ·rw [if_neg h,List.filter_cons_of_neg (by simp [hsz]; omega)]; rfl
theorem zJY (s:ByteArray):zFY (Lib.splitB ⟨#[32]⟩ 0 (Lib.countB s ⟨#[32]⟩) s) = wds s:=by
 rw [zJX,zIK s (s.size + 1) 0 (by omega) (Nat.zero_le _)]
 rfl
theorem zK8 (ps:List ByteArray) (k:Nat) (p:ByteArray) (h:ps[k]? = some p):zFY (ps.take (k + 1)) = zFY (ps.take k) ++ (if 0 < p.size then [p] else []):=by
 rw [List.take_add_one,h]
 unfold zFY
 rw [List.filter_append]
 congr 1
 by_cases hp:0 < p.size
 ·simp [hp]
 ·simp [hp]
theorem zOi (s:ByteArray) (a:Nat) (ha:a <= s.size):(⟨(Lib.cut (s.extract a s.size).data.toList [10]).1.toArray⟩:ByteArray) = s.extract a (nx 10 s a) /\ (⟨(Lib.cut (s.extract a s.size).data.toList [10]).2.1.toArray⟩:ByteArray) = zAZ s (nx 10 s a) /\ (Lib.cut (s.extract a s.size).data.toList [10]).2.2 = decide (nx 10 s a < s.size):=by
 have hsz:(s.extract a s.size).size = s.size - a:=by rw [ZO,Nat.min_self]
 obtain ⟨i1,i2⟩:=zIH (s.extract a s.size) 10
 have hx:=zII 10 s a ha
 obtain ⟨g1,g2,g3,g4⟩:=Z3 10 s a ha
 by_cases h:nx 10 s a < s.size
 ·obtain ⟨e1,e2,e3⟩:=Lib.cutB_hit (s.extract a s.size) ⟨#[10]⟩ _ (i1 (by omega))
  refine ⟨e1.trans ?_,e2.trans ?_,e3.trans (by simp [h])⟩
  ·rw [zFI s a 0 _ (by omega),hx,Nat.add_zero]
  ·unfold zAZ
   have hone:(⟨#[10]⟩:ByteArray).size = 1:=rfl
   rw [if_pos h,hsz,hone,zFI s a _ _ (by omega),show a + (nx 10 (s.extract a s.size) 0 + 1) = nx 10 s a + 1 by omega,show a + (s.size - a) = s.size by omega]
 ·obtain ⟨e1,e2,e3⟩:=Lib.cutB_miss (s.extract a s.size) ⟨#[10]⟩ (i2 (by omega))
  refine ⟨e1.trans ?_,e2.trans ?_,e3.trans (by simp [h])⟩
  ·rw [show nx 10 s a = s.size by omega]
  ·unfold zAZ; rw [if_neg h]
theorem zBz {a b:ByteArray} {i:Nat} (h:i < a.size):bt (a ++ b) i = bt a i:=by
 unfold bt
 rw [ByteArray.data_append,Array.getElem?_append_left (by simpa using h)]
theorem zBF {a b:ByteArray} (i:Nat):bt (a ++ b) (a.size + i) = bt b i:=by
 unfold bt
 rw [ByteArray.data_append,Array.getElem?_append_right (show a.data.size <= a.size + i from Nat.le_add_right _ _)]
 have e:a.size + i - a.data.size = i:=by show a.data.size + i - a.data.size = i; omega
 rw [e]
theorem ZV (a b c:ByteArray):a ++ b ++ c = a ++ (b ++ c):=by
 apply ByteArray.ext
 simp [ByteArray.data_append,Array.append_assoc]
theorem zK (a b:ByteArray):(a ++ b).size = a.size + b.size:=by simp
theorem zHX (a:ByteArray):a.size = a.data.toList.length:=rfl
theorem zLj {a b:ByteArray} (h:a.data.toList = b.data.toList):a = b:=by
 apply ByteArray.ext
 exact Array.ext' h
theorem zLk (s:ByteArray) (i j:Nat):(s.extract i j).data.toList = (s.data.toList.drop i).take (j - i):=by
 rw [ByteArray.data_extract,Array.toList_extract,List.extract_eq_take_drop]
theorem zJZ (a b:ByteArray):(a ++ b).data.toList = a.data.toList ++ b.data.toList:=by rw [ByteArray.data_append,Array.toList_append]
theorem zHY (a l r:ByteArray):(a ++ (l ++ r)).extract a.size (a.size + l.size) = l:=by
 apply zLj
 rw [zLk,zJZ,zJZ,zHX a,zHX l,List.drop_left,Nat.add_sub_cancel_left,List.take_left]
theorem zKR (a r:ByteArray):(a ++ r).extract a.size (a ++ r).size = r:=by
 apply zLj
 rw [zLk,zJZ,zK,zHX a,zHX r,List.drop_left,Nat.add_sub_cancel_left,List.take_length]
def one (c:UInt8):ByteArray:=⟨#[c]⟩
theorem zk (c:UInt8):(one c).size = 1:=rfl
theorem zHZ (c:UInt8):bt (one c) 0 = c:=rfl
def NoB (c:UInt8) (l:ByteArray):Prop:=∀ i,i < l.size -> bt l i ≠ c
theorem zJa {c:UInt8} (a l r:ByteArray) (h:NoB c l):nx c (a ++ (l ++ (one c ++ r))) a.size = a.size + l.size:=by
 have hs:(a ++ (l ++ (one c ++ r))).size = a.size + (l.size + (1 + r.size)):=by rw [zK,zK,zK,zk]
 refine zFX (by omega) (by omega) (by omega) (fun k h1 h2=>?_) (fun _=>?_)
 ·obtain ⟨j,rfl⟩:=Nat.exists_eq_add_of_le h1
  rw [zBF,zBz (by omega)]
  exact h j (by omega)
 ·rw [zBF]
  have:=zBF (a:=l) (b:=one c ++ r) 0
  rw [Nat.add_zero] at this
  rw [this,zBz (by rw [zk]; omega),zHZ]
theorem zNP {c:UInt8} (a l:ByteArray) (h:NoB c l):nx c (a ++ l) a.size = a.size + l.size:=by
 have hs:=zK a l
 refine zFX (by omega) (by omega) (by omega) (fun k h1 h2=>?_) (fun h=>by omega)
 obtain ⟨j,rfl⟩:=Nat.exists_eq_add_of_le h1
 rw [zBF]
 exact h j (by omega)
def Wrd (x:ByteArray):Prop:=1 <= x.size /\ NoB 32 x /\ NoB 10 x
def ze:List ByteArray -> ByteArray
 | []=>ByteArray.empty
 | [x]=>x
 | x :: y :: r=>x ++ (one 32 ++ ze (y :: r))
theorem zIL:∀ (ws:List ByteArray) (a:ByteArray),ws ≠ [] -> (∀ x ∈ ws,Wrd x) -> zAg (a ++ ze ws) a.size = ws
 | [],_,h,_=>absurd rfl h
 | [x],a,_,h=>by
  have hx:=h x (by simp)
  have hs:=zK a x
  show zAg (a ++ x) a.size = [x]
  rw [zAv _ _ (by omega)]
  rw [zNP a x hx.2.1,if_pos (by have:=hx.1; omega),if_neg (by omega)]
  have:=zKR a x
  rw [hs] at this
  rw [this]
  rfl
 | x :: y :: r,a,_,h=>by
  have hx:=h x (by simp)
  have hs:(a ++ (x ++ (one 32 ++ ze (y :: r)))).size = a.size + (x.size + (1 + (ze (y :: r)).size)):=by rw [zK,zK,zK,zk]
  have ih:=zIL (y :: r) (a ++ x ++ one 32) (by simp) (fun z hz=>h z (by simp at hz ⊢; right; exact hz))
  have e1:a ++ x ++ one 32 ++ ze (y :: r) = a ++ (x ++ (one 32 ++ ze (y :: r))):=by rw [ZV,ZV]
  have e2:(a ++ x ++ one 32).size = a.size + x.size + 1:=by rw [zK,zK,zk]
  rw [e1,e2] at ih
  show zAg (a ++ (x ++ (one 32 ++ ze (y :: r)))) a.size = _
  rw [zAv _ _ (by omega)]
  rw [zJa a x _ hx.2.1,if_pos (by have:=hx.1; omega),if_pos (by omega),zHY,ih]
  rfl
theorem zGn {ws:List ByteArray} (h0:ws ≠ []) (h:∀ x ∈ ws,Wrd x):wds (ze ws) = ws:=by
 have:=zIL ws ByteArray.empty h0 h
 have e:ByteArray.empty ++ ze ws = ze ws:=by apply ByteArray.ext; simp [ByteArray.data_append]
 rw [e] at this
 exact this
theorem zIM:∀ (ws:List ByteArray),(∀ x ∈ ws,Wrd x) -> NoB 10 (ze ws)
 | [],_=>fun i hi=>by simp [ze] at hi
 | [x],h=>(h x (by simp)).2.2
 | x :: y :: r,h=>fun i hi=>by
  have ih:=zIM (y :: r) (fun z hz=>h z (by simp at hz ⊢; right; exact hz))
  simp only [ze] at hi ⊢
  rw [zK,zK,zk] at hi
  by_cases h1:i < x.size
  ·rw [zBz h1]; exact (h x (by simp)).2.2 i h1
  ·obtain ⟨j,rfl⟩:=Nat.exists_eq_add_of_le (Nat.le_of_not_lt h1)
   rw [zBF]
   by_cases h2:j < 1
   ·obtain rfl:j = 0:=by omega
    rw [zBz (by rw [zk]; omega)]; decide
   ·obtain ⟨k,rfl⟩:=Nat.exists_eq_add_of_le (Nat.le_of_not_lt h2)
    have:=zBF (a:=one 32) (b:=ze (y :: r)) k
    rw [zk] at this
    rw [this]
    exact ih k (by omega)
def lnT:List ByteArray -> ByteArray -> ByteArray
 | [],b=>b
 | l :: r,b=>l ++ (one 10 ++ lnT r b)
def zKS:List (List ByteArray) -> List ByteArray -> List OpR -> List ByteArray -> List OpR -> Prop
 | [],us,os,us',os'=>us' = us /\ os' = os
 | w :: r,us,os,us',os'=>w ≠ [zh] /\ w ≠ [] /\ (∀ x ∈ w,Wrd x) /\ ∃ us1 os1,Zv w us os us1 os1 /\ zKS r us1 os1 us' os'
theorem zFZ:Wrd zh:=⟨by decide,fun i hi=>by
  have:i < 5:=hi
  rcases (by omega:i = 0 \/ i = 1 \/ i = 2 \/ i = 3 \/ i = 4) with rfl | rfl | rfl | rfl | rfl <;> decide,fun i hi=>by
  have:i < 5:=hi
  rcases (by omega:i = 0 \/ i = 1 \/ i = 2 \/ i = 3 \/ i = 4) with rfl | rfl | rfl | rfl | rfl <;> decide⟩
theorem zGo (b:ByteArray):∀ (ws:List (List ByteArray)) (a:ByteArray) (n:Nat) (us us':List ByteArray) (os os':List OpR),zKS ws us os us' os' -> UnF (a ++ lnT (ws.map ze ++ [zh]) b) (pcs 10 (a ++ lnT (ws.map ze ++ [zh]) b) a.size) n us os us' os' b 0 0
 | [],a,n,us,us',os,os',h=>by
  obtain ⟨rfl,rfl⟩:=h
  simp only [List.map_nil,List.nil_append,lnT]
  have hs:(a ++ (zh ++ (one 10 ++ b))).size = a.size + (zh.size + (1 + b.size)):=by rw [zK,zK,zK,zk]
  rw [zAY _ _ _ (by omega)]
  simp only [UnF]
  rw [zJa a zh b zFZ.2.2]
  left
  refine ⟨?_,(by trivial),(by trivial),?_,(by trivial),(by trivial)⟩
  ·rw [zHY]
   have:=zGn (ws:=[zh]) (by simp) (fun x hx=>by simp at hx; rw [hx]; exact zFZ)
   exact this
  ·unfold zAZ
   rw [if_pos (by omega)]
   have:=zKR (a ++ zh ++ one 10) b
   rw [zK _ (one 10),zK a,zk] at this
   have e:a ++ zh ++ one 10 ++ b = a ++ (zh ++ (one 10 ++ b)):=by rw [ZV,ZV]
   rw [e] at this
   exact this.symm
 | w :: r,a,n,us,us',os,os',h=>by
  obtain ⟨h1,h2,h3,us1,os1,h4,h5⟩:=h
  have ih:=zGo b r (a ++ ze w ++ one 10) (n + 1) us1 us' os1 os' h5
  simp only [List.map_cons,List.cons_append,lnT]
  generalize lnT (r.map ze ++ [zh]) b = R at *
  have hs:(a ++ (ze w ++ (one 10 ++ R))).size = a.size + ((ze w).size + (1 + R.size)):=by rw [zK,zK,zK,zk]
  have e1:a ++ ze w ++ one 10 ++ R = a ++ (ze w ++ (one 10 ++ R)):=by rw [ZV,ZV]
  have e2:(a ++ ze w ++ one 10).size = a.size + (ze w).size + 1:=by rw [zK,zK,zk]
  rw [e1,e2] at ih
  rw [zAY _ _ _ (by omega),zJa a (ze w) R (zIM w h3),if_pos (by omega)]
  simp only [UnF]
  rw [zHY,zGn h2 h3]
  exact Or.inr ⟨h1,Or.inl ⟨us1,os1,h4,ih⟩⟩
end Go.Proofs.YtgiemobdmbijiaaGreatDoor
