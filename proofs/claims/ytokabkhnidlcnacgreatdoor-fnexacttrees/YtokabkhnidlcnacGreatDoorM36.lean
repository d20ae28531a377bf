import Derived.Deep.RegionHeld
import Derived.Deep.RegionHeld3
import Derived.Test.YtokabkhnidlcnacGreatDoorM00
import Derived.Test.YtokabkhnidlcnacGreatDoorM02
import Derived.Test.YtokabkhnidlcnacGreatDoorM10
import Derived.Test.YtokabkhnidlcnacGreatDoorM11
import Derived.Test.YtokabkhnidlcnacGreatDoorM15
import Derived.Test.YtokabkhnidlcnacGreatDoorM24
import Derived.Test.YtokabkhnidlcnacGreatDoorM34
import Derived.Test.YtokabkhnidlcnacGreatDoorM35
namespace Go.Proofs.YtokabkhnidlcnacGreatDoor
set_option linter.unusedSimpArgs false
set_option linter.unusedVariables false
set_option maxHeartbeats 16000000
set_option maxRecDepth 100000
open Go.RowKit
def zAM (out:List (List zD)) (i:Nat):List zD:=out.getD i []
theorem zHo {out:List (List zD)} {us:List zD} {i:Nat} (h:i < out.length):zAM (out ++ [us]) i = zAM out i:=by
 simp [zAM,List.getD_eq_getElem?_getD,List.getElem?_append_left h]
theorem zHp {out:List (List zD)} {us:List zD}:zAM (out ++ [us]) out.length = us:=by
 simp [zAM,List.getD_eq_getElem?_getD]
theorem zEX {out:List (List zD)} {i:Nat} (h:i < out.length):zAM out i ∈ out:=by
 simp [zAM,h]
def PsI (T:Nat -> List OpR) (b:Nat -> ByteArray) (i:Nat) (us:List zD) (c:Int):Prop:=∃ p,Zx (T i) (b i) us c p
theorem PsI.one {T:Nat -> List OpR} {b:Nat -> ByteArray} {i:Nat} {us us':List zD} {c c':Int} (h:PsI T b i us c) (h':PsI T b i us' c'):us = us' /\ c = c':=by
 obtain ⟨p,h⟩:=h
 obtain ⟨p',h'⟩:=h'
 obtain ⟨h1,h2,_⟩:=h.one h'
 exact ⟨h1,h2⟩
def zEx (T:Nat -> List OpR) (b:Nat -> ByteArray) (k:Nat) (out:List (List zD)):Prop:=out.length = k /\ ∀ i,i < k -> PsI T b i (zAM out i) 0
theorem zEx.nil (T:Nat -> List OpR) (b:Nat -> ByteArray):zEx T b 0 []:=⟨rfl,fun i hi=>absurd hi (Nat.not_lt_zero i)⟩
theorem zEx.step {T:Nat -> List OpR} {b:Nat -> ByteArray} {k:Nat} {out:List (List zD)} {us:List zD} (h:zEx T b k out) (h':PsI T b k us 0):zEx T b (k + 1) (out ++ [us]):=by
 refine ⟨by simp [h.1],fun i hi=>?_⟩
 by_cases e:i < k
 ·rw [zHo (by rw [h.1]; exact e)]; exact h.2 i e
 ·obtain rfl:i = k:=by omega
  have e:zAM (out ++ [us]) i = us:=by rw [<- h.1]; exact zHp
  rw [e]; exact h'
def zId (T:Nat -> List OpR) (b:Nat -> ByteArray) (n:Nat) (out:List (List zD)) (c who:Int):Prop:=
 (∃ k us cd t,k < n /\ zEx T b k t /\ PsI T b k us cd /\ cd ≠ 0 /\ out = [] /\ c = 10 + cd /\ who = (k:Int)) \/ (zEx T b n out /\ c = 0 /\ who = 0)
theorem zId.hit {T:Nat -> List OpR} {b:Nat -> ByteArray} {n k:Nat} {out t:List (List zD)} {us:List zD} {c who cd:Int} (h:zId T b n out c who) (hk:k < n) (ht:zEx T b k t) (hp:PsI T b k us cd) (hc:cd ≠ 0):out = [] /\ c = 10 + cd /\ who = (k:Int):=by
 rcases h with ⟨k',us',cd',t',h1,h2,h3,h4,rfl,rfl,rfl⟩ | ⟨h1,_⟩
 ·have e:k' = k:=by
   rcases Nat.lt_trichotomy k' k with e | e | e
   ·exact absurd (((ht.2 k' e).one h3).2).symm h4
   ·exact e
   ·exact absurd (((h2.2 k e).one hp).2).symm hc
  subst e
  exact ⟨rfl,by rw [(h3.one hp).2],rfl⟩
 ·exact absurd (((h1.2 k hk).one hp).2).symm hc
theorem zId.miss {T:Nat -> List OpR} {b:Nat -> ByteArray} {n:Nat} {out t:List (List zD)} {c who:Int} (h:zId T b n out c who) (ht:zEx T b n t):out = t /\ c = 0 /\ who = 0:=by
 rcases h with ⟨k',us',cd',t',h1,h2,h3,h4,_⟩ | ⟨h1,rfl,rfl⟩
 ·exact absurd (((ht.2 k' h1).one h3).2).symm h4
 ·refine ⟨List.ext_getElem (by rw [h1.1,ht.1]) fun i hi hi'=>?_,rfl,rfl⟩
  have:=(h1.2 i (by rw [<- h1.1]; exact hi)).one (ht.2 i (by rw [<- h1.1]; exact hi))
  simpa [zAM,List.getD_eq_getElem?_getD,hi,hi'] using this.1
def zCD (ms:List zJ) (out:List (List zD)) (c who:Int):Prop:=∃ tabs c0 w0,zAj ms tabs c0 w0 /\ ((c0 ≠ 0 /\ out = [] /\ c = c0 /\ who = w0) \/ (c0 = 0 /\ ∃ U,zAL ms U /\ zId (zGz tabs) (fun i=>(atU U i).b) ms.length out c who))
theorem zJp:(Tryz.prog.info? 56).map (fun i=>(i.zero,i.size,i.bytes)) = some (some (.agg #[.slice none 0 0]),1,24):=by kernel_rfl
def zCY (w:World) (B:Nat) (v:Value) (tv:List Value):Prop:=w.ownsRow B 56 1 v tv.length tv
theorem zBb {w w':World} {B e s:Nat} {v:Value} {n:Nat} {xs:List Value} (h:w.ownsRow B e s v n xs) (hs:∀ g,v.ownBlock = some g -> w'.heap[g]? = w.heap[g]?):w'.ownsRow B e s v n xs:=by
 obtain ⟨a,h1 | ⟨g,cap,cur,h1,h2,h3,h4⟩⟩:=h
 ·exact ⟨a,Or.inl h1⟩
 ·exact ⟨a,Or.inr ⟨g,cap,cur,h1,h2,(hs g (by rw [h1]; rfl)).trans h3,h4⟩⟩
theorem zv.same {w w':World} {n:Nat} {a:Option Addr} {us:List zD} (h:zv w n a us) (hz:w.heap.size <= w'.heap.size) (hs:∀ q,a.map (·.block) = some q -> w'.heap[q]? = w.heap[q]?):zv w' n a us:=by
 rcases h with h | ⟨g,rfl,hn,h1,h2,h3⟩
 ·exact Or.inl h
 ·have hb:=hs g rfl
  have e:∀ o,w'.cell? ⟨g,o,none⟩ = w.cell? ⟨g,o,none⟩:=fun o=>World.cell?_of_block (w:=w) hb
  have f:∀ o,w'.frozen? ⟨g,o,none⟩ = w.frozen? ⟨g,o,none⟩:=fun o=>World.frozen?_of_block (w:=w) hb
  refine Or.inr ⟨g,rfl,hn,Nat.lt_of_lt_of_le h1 hz,fun j hj=>⟨by rw [e]; exact (h2 j hj).1,by rw [f]; exact (h2 j hj).2⟩,fun i hi=>?_⟩
  obtain ⟨a0,a1,a2,a3⟩:=h3 i hi
  exact ⟨(e _).trans a0,(e _).trans a1,(e _).trans a2,(e _).trans a3⟩
theorem zv.base {w:World} {n n':Nat} {a:Option Addr} {us:List zD} (h:zv w n a us) (hn:n' <= n):zv w n' a us:=by
 rcases h with h | ⟨g,h1,h2,h3⟩
 ·exact Or.inl h
 ·exact Or.inr ⟨g,h1,by omega,h3⟩
structure TrI (w:World) (B:Nat) (v:Value) (tv:List Value) (ta:List (Option Addr)) (out:List (List zD)):Prop where
 row:zCY w B v tv
 len:tv.length = out.length /\ ta.length = out.length
 el:∀ j,j < out.length -> ∃ a c,tv[j]? = some (.slice a (zAM out j).length c) /\ ta[j]? = some a /\ zv w B a (zAM out j) /\ ∀ q,a.map (·.block) = some q -> v.ownBlock ≠ some q
 ap:∀ i j:Nat,i < j -> ∀ a a':Option Addr,ta[i]? = some a -> ta[j]? = some a' -> ∀ q,a.map (·.block) = some q -> a'.map (·.block) ≠ some q
theorem TrI.nil (w:World) (B:Nat):TrI w B (.slice none 0 0) [] [] []:=⟨World.ownsRow_nil _ _ _ _,⟨rfl,rfl⟩,fun j hj=>absurd hj (Nat.not_lt_zero j),fun i j _ a a' h=>by simp at h⟩
theorem TrI.keep {w w':World} {B:Nat} {v:Value} {tv:List Value} {ta:List (Option Addr)} {out:List (List zD)} (h:TrI w B v tv ta out) (hz:w.heap.size <= w'.heap.size) (hs:∀ q,B <= q -> q < w.heap.size -> w'.heap[q]? = w.heap[q]?):TrI w' B v tv ta out:=by
 refine ⟨zBb h.row (fun g e=>hs g (World.ownsRow.lt h.row g e).1 (World.ownsRow.lt h.row g e).2),h.len,fun j hj=>?_,h.ap⟩
 obtain ⟨a,c,h1,h2,h3,h4⟩:=h.el j hj
 exact ⟨a,c,h1,h2,h3.same hz (fun q e=>hs q (h3.lt q e).1 (h3.lt q e).2),h4⟩
theorem TrI.step {w w2 w4:World} {B cc:Nat} {v v4:Value} {tv:List Value} {ta:List (Option Addr)} {out:List (List zD)} {a:Option Addr} {us:List zD} (h:TrI w B v tv ta out) (hB:B <= w.heap.size) (hz:w.heap.size <= w2.heap.size) (hs:∀ q,B <= q -> q < w.heap.size -> w2.heap[q]? = w.heap[q]?) (ho:zv w2 w.heap.size a us)
  (hg:w2.grownBy w4 v.ownBlock) (hr:zCY w4 B v4 (tv ++ [.slice a us.length cc])) (hat:v4.ownBlock = v.ownBlock \/ ∃ q,v4.ownBlock = some q /\ w2.heap.size <= q):TrI w4 B v4 (tv ++ [.slice a us.length cc]) (ta ++ [a]) (out ++ [us]):=by
 have z4:=hg.size
 have hl:=h.len
 have vl:∀ g,v.ownBlock = some g -> B <= g /\ g < w.heap.size:=fun g e=>World.ownsRow.lt h.row g e
 have n4:∀ g,g < w2.heap.size -> v.ownBlock ≠ some g -> v4.ownBlock ≠ some g:=fun g h1 h2 e=>by
  rcases hat with h3 | ⟨q,h3,h4⟩
  ·exact h2 (h3.symm.trans e)
  ·rw [h3] at e; injection e with e; omega
 have na:∀ q,a.map (·.block) = some q -> v.ownBlock ≠ some q:=fun q e e2=>by have:=(ho.lt q e).1; have:=(vl q e2).2; omega
 refine ⟨hr,by simp; omega,fun j hj=>?_,fun i j hij x y hx hy q e=>?_⟩
 ·by_cases e:j < out.length
  ·obtain ⟨x,c,h1,h2,h3,h4⟩:=h.el j e
   rw [zHo e]
   refine ⟨x,c,by rw [List.getElem?_append_left (by omega)]; exact h1,by rw [List.getElem?_append_left (by omega)]; exact h2,h3.same (by omega) (fun q eq=>(hg.block q (by have:=(h3.lt q eq).2; omega) (fun e=>h4 q eq e.symm)).trans (hs q (h3.lt q eq).1 (h3.lt q eq).2)),fun q eq=>n4 q (by have:=(h3.lt q eq).2; omega) (h4 q eq)⟩
  ·obtain rfl:j = out.length:=by simp at hj; omega
   rw [zHp]
   refine ⟨a,cc,by rw [<- hl.1,List.getElem?_concat_length],by rw [<- hl.2,List.getElem?_concat_length],(ho.same (by omega) (fun q eq=>hg.block q (ho.lt q eq).2 (fun e=>na q eq e.symm))).base hB,fun q eq=>n4 q (ho.lt q eq).2 (na q eq)⟩
 ·have hj:j < out.length + 1:=by
   have:=(List.getElem?_eq_some_iff.1 hy).1
   simp at this; omega
  have hx':ta[i]? = some x:=by rw [List.getElem?_append_left (by omega)] at hx; exact hx
  by_cases e3:j < out.length
  ·exact h.ap i j hij x y hx' (by rw [List.getElem?_append_left (by omega)] at hy; exact hy) q e
  ·obtain rfl:j = ta.length:=by omega
   rw [List.getElem?_concat_length] at hy
   injection hy with hy
   subst hy
   intro e2
   obtain ⟨x',c,_,h2,h3,_⟩:=h.el i (by omega)
   have:x = x':=by rw [hx'] at h2; injection h2
   subst this
   have:=(h3.lt q e).2
   have:=(ho.lt q e2).1
   omega
structure zQg (w:World) (B g:Nat) (ta:Nat -> Option Addr) (tc:Nat -> Nat) (out:List (List zD)):Prop where
 hg:g < w.heap.size
 ce:∀ i,i < out.length -> w.cell? ⟨g,i,none⟩ = some (.slice (ta i) (zAM out i).length (tc i))
 ro:∀ i,i < out.length -> zv w B (ta i) (zAM out i)
 ng:∀ i,i < out.length -> (ta i).map (·.block) ≠ some g
 ap:∀ i j,i < out.length -> j < out.length -> i ≠ j -> ∀ q,(ta i).map (·.block) = some q -> (ta j).map (·.block) ≠ some q
def zEY (w:World) (B:Nat) (v:Value) (out:List (List zD)):Prop:=(∃ a c,v = .slice a out.length c) /\ (out.length = 0 \/ ∃ g c ta tc,B <= g /\ v = .slice (some ⟨g,0,none⟩) out.length c /\ zQg w B g ta tc out)
theorem zEY.grown {w w':World} {B:Nat} {v:Value} {out:List (List zD)} {row:Option Nat} (h:zEY w B v out) (hg:w.grownBy w' row) (hr:∀ q,row = some q -> q < B):zEY w' B v out:=by
 obtain ⟨h1,h2⟩:=h
 refine ⟨h1,h2.imp id ?_⟩
 rintro ⟨g,c,ta,tc,hB,e,h⟩
 have hz:=hg.size
 have hgl:=h.hg
 exact ⟨g,c,ta,tc,hB,e,⟨by omega,fun i hi=>(zE hg (b:=g) hgl (fun x=>by have:=hr g x; omega) i).trans (h.ce i hi),fun i hi=>(h.ro i hi).grown hg hr,h.ng,h.ap⟩⟩
theorem zEY.low {w:World} {B B':Nat} {v:Value} {out:List (List zD)} (h:zEY w B v out) (hB:B' <= B):zEY w B' v out:=by
 obtain ⟨h1,h2⟩:=h
 refine ⟨h1,h2.imp id ?_⟩
 rintro ⟨g,c,ta,tc,h3,e,h⟩
 exact ⟨g,c,ta,tc,by omega,e,⟨h.hg,h.ce,fun i hi=>(h.ro i hi).base hB,h.ng,h.ap⟩⟩
theorem TrI.res {w:World} {B:Nat} {v:Value} {tv:List Value} {ta:List (Option Addr)} {out:List (List zD)} (h:TrI w B v tv ta out):zEY w B v out:=by
 have hl:=h.len
 have hrow:=h.row
 obtain ⟨a,c,rfl⟩:∃ a c,v = .slice a tv.length c:=zM h.row
 refine ⟨⟨a,c,by rw [hl.1]⟩,?_⟩
 by_cases h0:out.length = 0
 ·exact Or.inl h0
 obtain ⟨_,⟨h1,h2⟩ | ⟨g,cap,cur,h1,h2,h3,h4⟩⟩:=id h.row
 ·exfalso
  have h0':tv.length = 0:=by first | exact h2 | (simp at h2; omega) | (simp at h2; simp [h2]) | exact h1
  omega
 ·have ha:a = some ⟨g,0,none⟩:=by injection h1
  subst ha
  have get:∀ i,i < out.length -> ∃ x c,tv[i]? = some (.slice x (zAM out i).length c) /\ ta[i]? = some x /\ zv w B x (zAM out i) /\ (∀ q,x.map (·.block) = some q -> g ≠ q) /\ ta.getD i none = x:=fun i hi=>by
   obtain ⟨x,c,e1,e2,e3,e4⟩:=h.el i hi
   exact ⟨x,c,e1,e2,e3,fun q e x=>e4 q e (by rw [<- x]; rfl),by simp [List.getD_eq_getElem?_getD,e2]⟩
  refine Or.inr ⟨g,c,fun i=>ta.getD i none,fun i=>match tv[i]? with | some (.slice _ _ c)=>c | _=>0,(World.ownsRow.lt hrow g rfl).1,by rw [hl.1],⟨(World.ownsRow.lt hrow g rfl).2,fun i hi=>?_,fun i hi=>?_,fun i hi=>?_,fun i j hi hj hij q e=>?_⟩⟩
  ·obtain ⟨x,c',e1,e2,e3,_,e4⟩:=get i hi
   have:=World.ownsRow.cellAt hrow i (by omega)
   simp only [e4]
   rw [e1] at this ⊢
   simpa using this
  ·obtain ⟨x,c',e1,e2,e3,_,e4⟩:=get i hi
   simp only [e4]
   exact e3
  ·obtain ⟨x,c',e1,e2,e3,e5,e4⟩:=get i hi
   simp only [e4]
   exact fun e=>e5 g e rfl
  ·obtain ⟨x,c',e1,e2,e3,_,e4⟩:=get i hi
   obtain ⟨y,d',f1,f2,f3,_,f4⟩:=get j hj
   simp only [e4] at e
   simp only [f4]
   rcases Nat.lt_trichotomy i j with h' | h' | h'
   ·exact h.ap i j h' x y e2 f2 q e
   ·exact absurd h' hij
   ·exact fun e'=>h.ap j i h' y x f2 e2 q e' e
theorem UnF.body {s:ByteArray}:∀ (ls:List (Nat × Nat)) (n:Nat) (us:List ByteArray) (os:List OpR) {u:List ByteArray} {o:List OpR} {b:ByteArray} {c l:Int},UnF s ls n us os u o b c l -> b.size <= s.size
 | [],n,us,os,_,_,_,_,_,h=>by
  obtain ⟨rfl,rfl,rfl,rfl,rfl⟩:=h
  exact Nat.zero_le _
 | p :: r,n,us,os,u,o,b,c,l,h=>by
  rcases h with ⟨_,rfl,rfl,rfl,rfl,rfl⟩ | ⟨_,⟨us',os',hl,h⟩ | ⟨_,rfl,rfl,rfl,rfl,rfl⟩⟩
  ·unfold zAb
   split
   ·rw [ByteArray.size_extract]; omega
   ·exact Nat.zero_le _
  ·exact UnF.body r _ _ _ h
  ·exact Nat.zero_le _
theorem zHq {s:ByteArray} {u:List ByteArray} {o:List OpR} {b:ByteArray} {c l:Int} (h:zq s u o b c l):b.size <= 20000:=by
 rcases h with ⟨_,rfl,rfl,rfl,rfl,rfl⟩ | ⟨h0,h⟩
 ·exact Nat.zero_le _
 ·exact Nat.le_trans (UnF.body _ _ _ _ h) h0
theorem zAj.good {ms:List zJ} {out:List (List OpR)} {who:Int} (h:zAj ms out 0 who):ms.length <= 100 /\ (∀ i,i < ms.length -> ¬ B2 ms i) /\ out.length = ms.length:=by
 rcases h with ⟨_,_,h,_⟩ | ⟨hn,⟨_,_,_,_,_,h,_⟩ | ⟨h2,h⟩⟩
 ·cases h
 ·cases h
 refine ⟨hn,h2,?_⟩
 rcases h with ⟨_,_,_,_,_,h,_⟩ | ⟨_,h⟩
 ·cases h
 obtain ⟨U,_,h⟩:=h
 rcases h with ⟨_,_,_,_,_,h,_⟩ | ⟨_,h⟩
 ·cases h
 rcases h with ⟨_,_,_,_,_,h,_⟩ | ⟨_,h⟩
 ·cases h
 obtain ⟨S,_,h⟩:=h
 rcases h with ⟨_,_,_,_,_,h,_⟩ | ⟨hs,h⟩
 ·cases h
 obtain ⟨rfl,_⟩:=h
 simp
theorem zEw.len {ns:List OpR} {ts:List zK} {us:List zD} {c p:Int} (hv:zL ns 0) (hf:zAs ns ts ts.length) (hl:0 < ts.length /\ (atT ts (ts.length - 1)).k = 7) (h:zEw ns ts us c p):us.length <= ts.length:=by
 rcases h with ⟨_,rfl,_⟩ | ⟨T,r,hr,⟨_,rfl,_⟩ | ⟨_,rfl,_⟩⟩
 ·simp
 ·simp
 ·have hfe:=zLf hf hl 0 hl.1
  rw [Nat.sub_zero] at hfe
  have h1:=Ze hv _ _ none _ 0 _ (by omega) hfe (fun L e=>by cases e) hr
  have e:=congrArg List.length h1.2.2.2.2
  simp only [yM,List.nil_append,List.length_append] at e
  rw [Zt] at e
  have:=zIA T h1.2.1
  rw [zAq]
  omega
theorem Zx.len {ns:List OpR} {s:ByteArray} {us:List zD} {c p:Int} (h:Zx ns s us c p):us.length <= 20001:=by
 rcases h with ⟨_,rfl,_⟩ | ⟨hv,⟨_,rfl,_⟩ | ⟨h20,ts,hx,⟨i,_,_,_,rfl,_⟩ | ⟨hno,⟨i,_,_,_,rfl,_⟩ | ⟨hf,h⟩⟩⟩⟩
 ·simp
 ·simp
 ·simp
 ·simp
 ·have:=h.len hv hf (zA3 ts 0 hx)
  have:=(zDY hx).2.1
  omega
theorem Zx.code {ns:List OpR} {s:ByteArray} {us:List zD} {c p:Int} (h:Zx ns s us c p):0 <= c /\ c <= 6:=by
 rcases h with ⟨_,_,rfl,_⟩ | ⟨hv,⟨_,_,rfl,_⟩ | ⟨h20,ts,hx,⟨i,_,_,_,_,rfl,_⟩ | ⟨hno,⟨i,_,_,_,_,rfl,_⟩ | ⟨hf,⟨_,_,rfl,_⟩ | ⟨T,r,hr,⟨_,_,rfl,_⟩ | ⟨_,_,rfl,_⟩⟩⟩⟩⟩⟩ <;> decide
def zPE (w:World) (ms:List zJ) (e:Ending) (w':World):Prop:=∃ (v:Value) (out:List (List zD)) (c who:Int),e = .returned (.tuple #[v,.int .i64 c,.int .i64 who]) /\ Hid (zCD ms out c who) /\ Hid (zEY w' w.heap.size v out) /\ Below w.heap.size w w'
theorem zGq (w':World) (B b:Nat):zEY w' B (.slice (some ⟨b,0,none⟩) 0 0) []:=⟨⟨_,_,rfl⟩,Or.inl rfl⟩
theorem TrI.empty (w:World) (B:Nat) (hB:B <= w.heap.size):TrI (w.alloc (.cells #[] 56)) B (.slice (some ⟨w.heap.size,0,none⟩) 0 0) [] [] []:=by
 refine ⟨?_,⟨rfl,rfl⟩,fun j hj=>absurd hj (Nat.not_lt_zero j),fun i j _ a a' h=>by simp at h⟩
 have:=World.ownsRow_lit (base:=B) (e:=56) (size:=1) w #[] 0 hB (Nat.zero_le _) rfl
 simpa [zCY] using this
theorem zHB (a:Option Addr) (c0:Nat) (ms:List zJ) (w:World) (hn:ms.length <= 1048576) (hM:zBz w a ms) (hz:zEg ms) :
  Calls Tryz.prog 6 #[.slice a ms.length c0] w (zPE w ms):=by
 obtain ⟨W0,hW0⟩:∃ W0,W0 = w.alloc (.cells #[] 56):=⟨_,rfl⟩
 have hb0:Below w.heap.size w W0:=by rw [hW0]; exact zC _ _
 have HE:=zB (show TrI W0 w.heap.size (.slice (some ⟨w.heap.size,0,none⟩) 0 0) [] [] [] by rw [hW0]; exact TrI.empty w _ (Nat.le_refl _))
 have HLD:=zB (zH6 a c0 ms W0 hn (hM.below hb0) hz)
 have HM:=zB hM
 have HSZ:=zB hz
 have HB0:=zB hb0
 have HW0:=zB hW0
 obtain ⟨i0,hi0,hz0,hz1,hz2⟩:=zQ zJp
 have HI:=zB hi0
 have HZ:=zB (And.intro hz0 (And.intro hz1 hz2))
 clear hM hz hb0 hW0 hi0 hz0 hz1 hz2
 go_enter Tryz.func6,Tryz.ntmps6
 go_wp2_with fail
 rw [<- zA HW0]
 (with_reducible refine (zA HLD).mono ?_)
 rintro e w1 ⟨v1,tabs,cd0,wh0,rfl,HL,HT1,hm1,hb1⟩
 have HB1:=zB ((zA HB0).trans (hb1.mono (zA HB0).size))
 by_cases hc:cd0 = 0
 ·subst hc
  obtain ⟨h100,hg2,htl⟩:=(zA HL).good
  have HUN:=zB (zFF a c0 ms w1 h100 ((zA HM).below (zA HB1)) (zA HSZ) hg2)
  have HM1:=zB hm1
  have HE1:=zB ((zA HE).keep hb1.size (fun q _ h=>hb1.block q h))
  have HTL:=zB htl
  have zw1:=(zA HB1).size
  have zw0:w.heap.size + 1 <= W0.heap.size:=by rw [zA HW0]; simp
  have zw01:=hb1.size
  obtain ⟨gS,cS,rfl,hT1⟩:=zA HT1
  rw [htl]
  rw [htl] at hT1
  have HT2:=zB hT1
  clear hb1 hm1 HLD HE htl hg2 hT1
  go_wp2_with fail
  (with_reducible refine (zA HUN).mono ?_)
  rintro e w2 ⟨gU,cU,vs,U,rfl,hgU,hgUl,hvl,HOV,HUA,HUO,hb2⟩
  have HB2:=zB ((zA HB1).trans (hb2.mono (zA HB1).size))
  have HC2:=zB (show Below w1.heap.size w1 w2 from hb2)
  have HE2:=zB ((zA HE1).keep hb2.size (fun q _ h=>hb2.block q h))
  have zw2:=hb2.size
  rw [hvl]
  have HVL:=zB hvl
  clear hb2 HUN HE1 hvl
  go_wp2_with fail
  go_loopw [5,10] (fun vv i wr=>∃ (k:Nat) (tv:List Value) (ta:List (Option Addr)) (out:List (List zD)),k <= ms.length /\ i = .int .i64 (k:Int) /\ Hid (TrI wr w.heap.size vv tv ta out) /\ Hid (zEx (zGz tabs) (fun i=>(atU U i).b) k out) /\ Hid (w2.grownBy wr (some w.heap.size)) /\ Hid (∀ q,vv.ownBlock = some q -> q = w.heap.size \/ w2.heap.size <= q) /\ Below w.heap.size w wr) (fun _ i _=>ms.length - (intOf i).toNat)
  case atStart=>exact ⟨0,[],[],[],Nat.zero_le _,rfl,HE2,zB (zEx.nil _ _),zB (zF (Below.refl _ _) _),zB (fun q e=>Or.inl (by simpa [Value.ownBlock] using e.symm)),zA HB2⟩
  case round=>
   clear HE2
   obtain ⟨k,tv,ta,out,hk,rfl,HTI,HTT,HG,HVB,hbw⟩:=hrel
   have zr2:=(zA HG).size
   obtain ⟨av,cv,rfl⟩:∃ a c,u5 = .slice a tv.length c:=zM (zA HTI).row
   have htl:tv.length <= 1048576:=by have:=(zA HTI).len.1; have:=(zA HTT).1; omega
   by_cases hlt:k < ms.length
   ·have hltI:(k:Int) < (ms.length:Int):=by omega
    rcases zA HT2 with h | ⟨hgS0,hgS,hcS⟩
    ·omega
    obtain ⟨t,t0,hot,hlo⟩:=hcS k hlt
    obtain ⟨gq,cq,rfl,hgq,hops⟩:=zCH.of ((hot.at'.below (zA HC2)).grown (zA HG) (fun g e x=>by injection x with x; have:=hlo g e; omega)) hot.blk
    have t0':=(zE (zA HG) (b:=gS) (by omega) (fun x=>by injection x with x; omega) k).trans (((zA HC2).cell (p:=⟨gS,k,none⟩) hgS).trans t0)
    have hvk:k < vs.length:=by rw [zA HVL]; exact hlt
    have v2:=(zE (zA HG) (b:=gU) hgUl (fun x=>by injection x with x; omega) (k * 3 + 2)).trans ((zA HOV) k hvk).2.2
    have q3:=((zA HUA).2 k hvk).1.2.2
    have hbd:(atV vs k).b.size <= 1048576:=by rw [q3]; have:=zHq ((zA HUO).2 k hlt); omega
    obtain ⟨bd,hbdE⟩:∃ bd,bd = (atV vs k).b:=⟨_,rfl⟩
    rw [<- hbdE] at v2 hbd q3
    obtain ⟨hl1,hl2⟩:=(zA HM1) (zGz tabs k) (by unfold zGz; have:=zA HTL; simp [show k < tabs.length by omega])
    obtain ⟨xs,hxs⟩:∃ xs,xs = zGz tabs k:=⟨_,rfl⟩
    rw [<- hxs] at t0' hops hl1 hl2
    have HPX:=zB (fun W (hb:Below wr.heap.size wr W)=>zHA gq 0 cq xs bd W hl1 (hops.below hb hgq) hl2 (by have:=hb.size; omega) hbd)
    have HPS:=zB (fun us c (h:∃ p,Zx xs bd us c p)=>show PsI (zGz tabs) (fun i=>(atU U i).b) k us c by
     obtain ⟨p,h⟩:=h
     refine ⟨p,?_⟩
     show Zx (zGz tabs k) (atU U k).b us c p
     rw [<- hxs,<- q3]
     exact h)
    clear hops t0 hcS q3 hbdE hxs hot hlo
    have HPD:=zB ((zA HPX) (wr.alloc (.cells #[.slice none 0 0] 56)).drew (zC _ _).drew)
    have HPE:=zB ((zA HPX) wr.drew (Below.refl _ _).drew)
    have gl1:gS < wr.drew.heap.size:=by show gS < wr.heap.size; omega
    have gl2:gU < wr.drew.heap.size:=by show gU < wr.heap.size; omega
    obtain ⟨N0,hN0⟩:∃ N0,N0 = (wr.alloc (.cells #[.slice none 0 0] 56)).drew:=⟨_,rfl⟩
    have gl3:gS < (wr.alloc (.cells #[.slice none 0 0] 56)).drew.heap.size:=by simp; omega
    have gl4:gU < (wr.alloc (.cells #[.slice none 0 0] 56)).drew.heap.size:=by simp; omega
    have gl5:wr.heap.size < (wr.alloc (.cells #[.slice none 0 0] 56)).drew.heap.size:=by simp
    have t0n:(wr.alloc (.cells #[.slice none 0 0] 56)).drew.cell? ⟨gS,k,none⟩ = _:=((zC wr _).cell (p:=⟨gS,k,none⟩) gl1).trans t0'
    have v2n:(wr.alloc (.cells #[.slice none 0 0] 56)).drew.cell? ⟨gU,k * 3 + 2,none⟩ = _:=((zC wr _).cell (p:=⟨gU,k * 3 + 2,none⟩) gl2).trans v2
    have HX0:=zB (show (wr.alloc (.cells #[.slice none 0 0] 56)).drew.cell? ⟨wr.heap.size,0,none⟩ = some (.slice none 0 0) by simp [go_sem])
    have HX1:=zB (show (wr.alloc (.cells #[.slice none 0 0] 56)).drew.frozen? ⟨wr.heap.size,0,none⟩ = false by simp [go_sem])
    clear hN0 N0
    have nn1:=World.new_ne wr _ t0'
    have nn2:=World.new_ne wr _ v2
    go_wp2_with fail
    go_region_held3 (fun W=>W.cell? ⟨gS,k,none⟩ = some (.slice (some ⟨gq,0,none⟩) xs.length cq) /\ W.cell? ⟨gU,k * 3 + 2,none⟩ = some (.string bd)) (go_keep) (first | (go_at_call 22; (first | ((with_reducible refine (zA HPE).mono ?_); rintro e w3 ⟨⟨a3,c3,us,cd,pl,rfl,HON,HPI⟩,hb3⟩; have HB3:=zB hb3; have z3:=hb3.size; have j1:=(hb3.cell (p:=⟨gS,k,none⟩) gl1).trans t0'; have j2:=(hb3.cell (p:=⟨gU,k * 3 + 2,none⟩) gl2).trans v2; clear hb3) | ((with_reducible refine (zA HPD).mono ?_); rintro e w3 ⟨⟨a3,c3,us,cd,pl,rfl,HON,HPI⟩,hb3⟩; have HB3:=zB hb3; have z3:=hb3.size; have j1:=(hb3.cell (p:=⟨gS,k,none⟩) gl3).trans t0n; have j2:=(hb3.cell (p:=⟨gU,k * 3 + 2,none⟩) gl4).trans v2n; have x0:w3.cell? ⟨wr.heap.size,0,none⟩ = some (.slice none 0 0):=(hb3.cell (p:=⟨wr.heap.size,0,none⟩) gl5).trans (zA HX0); have x1:w3.frozen? ⟨wr.heap.size,0,none⟩ = false:=(hb3.frozen (p:=⟨wr.heap.size,0,none⟩) gl5).trans (zA HX1); clear hb3))))
    all_goals
     first
     | (
      obtain ⟨W3,hW3⟩:∃ W3,W3 = w3.alloc (.cells #[.slice a3 us.length c3] 56):=⟨_,rfl⟩
      rw [<- hW3]
      have hbr:Below wr.heap.size wr W3:=by rw [hW3]; exact ((Below.refl _ _).drew.trans ((zA HB3).mono (Nat.le_refl _))).alloc (by simpa using z3) _
      have HO3:=zB (show zv W3 wr.heap.size a3 us by rw [hW3]; exact (zA HON).step (zC _ _))
      obtain ⟨X,hX⟩:∃ X,X = w3.heap.size:=⟨_,rfl⟩
      have y0:W3.cell? ⟨X,0,none⟩ = some (.slice a3 us.length c3):=by rw [hW3,hX]; simp [go_sem]
      rw [<- hX]
      clear hW3 hX)
     | (
      obtain ⟨W3,hW3⟩:∃ W3,W3 = w3.setCell ⟨wr.heap.size,0,none⟩ (.slice a3 us.length c3):=⟨_,rfl⟩
      rw [<- hW3]
      have hbr:Below wr.heap.size wr W3:=by rw [hW3]; exact ((zC _ _).drew.trans ((zA HB3).mono (by simp))).setCell (p:=⟨wr.heap.size,0,none⟩) (Nat.le_refl _) _
      have HO3:=zB (show zv W3 wr.heap.size a3 us by rw [hW3]; exact ((zA HON).grown (ze w3 wr.heap.size 0 _) (fun q e=>by injection e with e; simp; omega)).base (by simp))
      have y0:W3.cell? ⟨wr.heap.size,0,none⟩ = some (.slice a3 us.length c3):=by rw [hW3]; exact World.cell?_setCell_same _ _ _ x0
      clear x0 x1 hW3)
     have HBR:=zB hbr
     have HRW:=zB (show zCY W3 w.heap.size (.slice av tv.length cv) tv from zBb (zA HTI).row (fun g e=>hbr.block g (World.ownsRow.lt (zA HTI).row g e).2))
     have zW3:=hbr.size
     clear hbr HPD HPE HPX HON HB3 z3 j1 j2 gl1 gl2 gl3 gl4 gl5 t0n v2n HX0 HX1 nn1 nn2
     by_cases hc:cd = 0
     ·subst hc
      go_wp2_with (first | (at_builtin; refine wpList_append_own_at _ rfl (.tmp 54) (.tmp 56) 24 rfl w.heap.size 56 i0 _ 1 24 Tryz.underlying24 (zA HI) (zA HZ).1 (zA HZ).2.1 (zA HZ).2.2 rfl (by decide) _ tv.length tv rfl (zBb (zA HRW) (fun g e=>(zC W3 _).block g (World.ownsRow.lt (zA HRW) g e).2)) ⟨W3.heap.size,0,none⟩ 1 1 [.slice a3 us.length c3] rfl rfl (fun j u hj=>(by cases j with | zero=>(simp at hj; subst hj; simp [go_sem]) | succ j=>simp at hj)) (fun u hu=>(by simp at hu; subst hu; rfl)) ?b1 ?b2 ?b3 ?next))
      case b1=>unfold maxLen; omega
      case b2=>omega
      case b3=>simp; omega
      case next=>
       intro v4 w4 hown4 hgrow4 hnil4 hat4
       have hr4:zCY w4 w.heap.size v4 (tv ++ [.slice a3 us.length c3]):=by
        unfold zCY
        rw [List.length_append]
        exact hown4
       have hvv:∀ q,(Value.slice av tv.length cv).ownBlock = some q -> w.heap.size <= q /\ q < wr.heap.size:=fun q e=>World.ownsRow.lt (zA HTI).row q e
       have hbx:Below wr.heap.size wr (W3.alloc (.cells #[.slice a3 us.length c3] 56)):=(zA HBR).alloc (zA HBR).size _
       have hzx:=hbx.size
       have hz4:=hgrow4.size
       have HN:=zB ((zA HTI).step (by have:=hbw.size; omega) hbx.size (fun q _ h=>hbx.block q h) ((zA HO3).step (zC _ _)) hgrow4 hr4 (hat4.imp id (fun e=>⟨_,e,by simp⟩)))
       have HTN:=zB ((zA HTT).step ((zA HPS) _ _ ⟨_,zA HPI⟩))
       have HGN:=zB (show w2.grownBy w4 (some w.heap.size) from ⟨hgrow4.os.trans (hbx.os.trans (zA HG).os),hgrow4.tape.trans (hbx.tape.trans (zA HG).tape),hgrow4.output.trans (hbx.output.trans (zA HG).output),by omega,fun q hq hne=>(hgrow4.block q (by omega) (fun e=>by rcases (zA HVB) q e.symm with x | x; exact hne (by rw [x]); omega)).trans ((hbx.block q (by omega)).trans ((zA HG).block q hq hne))⟩)
       have HVN:=zB (show ∀ q,v4.ownBlock = some q -> q = w.heap.size \/ w2.heap.size <= q from fun q e=>by
        rcases hat4 with h | h
        ·exact (zA HVB) q (h.symm.trans e)
        ·rw [h] at e; injection e with e; exact Or.inr (by omega))
       have HBN:=zB (show Below w.heap.size w w4 from (hbw.trans (hbx.mono hbw.size)).grown hgrow4 (by have:=hbw.size; omega) (fun q e=>(hvv q e).1))
       obtain ⟨a4,c4,rfl⟩:∃ a c,v4 = .slice a (tv ++ [Value.slice a3 us.length c3]).length c:=zM hr4
       clear hown4 hgrow4 hnil4 hat4 hr4 hvv hbx
       go_wp2_with fail
       exact ⟨⟨k + 1,_,_,_,by omega,by go_num,HN,HTN,HGN,HVN,zA HBN⟩,by simp [intOf]; omega⟩
     ·have hcI:(cd != 0) = true:=by simpa using hc
      have hcd:=(zA HPI).code
      have HR:=zB (show zCD ms [] (10 + cd) k from ⟨tabs,0,wh0,zA HL,Or.inr ⟨rfl,U,zA HUO,Or.inl ⟨k,us,cd,out,hlt,zA HTT,(zA HPS) _ _ ⟨_,zA HPI⟩,hc,rfl,rfl,rfl⟩⟩⟩)
      have HBW:=zB (hbw.trans ((zA HBR).mono hbw.size))
      clear hc
      go_wp2_with fail
      go_ret3
      exact ⟨_,[],_,_,rfl,HR,zB (zGq _ _ _),(zA HBW).alloc (zA HBW).size _⟩
   ·obtain rfl:k = ms.length:=by omega
    have HR:=zB (show zCD ms out 0 0 from ⟨tabs,0,wh0,zA HL,Or.inr ⟨rfl,U,zA HUO,Or.inr ⟨zA HTT,rfl,rfl⟩⟩⟩)
    have HTR:=zB (zA HTI).res
    clear hlt
    go_wp2_with fail
    go_ret3
    exact ⟨_,out,0,0,rfl,HR,HTR,hbw⟩
 ·have hcI:(cd0 != 0) = true:=by simpa using hc
  have HR:=zB (show zCD ms [] cd0 wh0 from ⟨tabs,cd0,wh0,zA HL,Or.inl ⟨hc,rfl,rfl,rfl⟩⟩)
  clear hm1 hc hb1 HLD HE
  go_wp2_with fail
  go_ret3
  exact ⟨_,[],_,_,rfl,HR,zB (zGq _ _ _),zA HB1⟩
end Go.Proofs.YtokabkhnidlcnacGreatDoor
namespace Go.Proofs.YtokabkhnidlcnacGreatDoor
set_option linter.unusedSimpArgs false
set_option linter.unusedVariables false
set_option maxHeartbeats 16000000
set_option maxRecDepth 100000
open Go.RowKit Go.Maps
theorem zQn:(41:TypeId) < Tryz.prog.types.size:=of_decide_eq_true (by kernel_rfl)
theorem zQh:(match Tryz.prog.underlying 41 with | some (.array _ _) | some (.struct _)=>true | _=>false) = true:=by kernel_rfl
theorem zNn:Keyed Tryz.prog 41:=Keyed.of_law (deep_law_laid zJc (m:=3) (by omega) zQn (by kernel_rfl) zQh)
theorem zQK:Tryz.prog.keyType 41 = true:=by kernel_rfl
theorem zNo:Tryz.prog.cellsOf 41 = 4:=by kernel_rfl
def zCy (o:OpR):Prop:=o.s.size <= maxLen /\ (Lit.int .i64 o.k).wf = true /\ (Lit.int .i64 o.l).wf = true /\ (Lit.int .i64 o.sd).wf = true
def klQ (o:OpR):Lit:=.string (keyBytes [.string o.s.data.toList,.int .i64 o.k,.int .i64 o.l,.int .i64 o.sd])
theorem zQi {o:OpR} (h:zCy o) (d:Nat) :
  Tryz.prog.keyLits (d + 1 + 1) 41 [.string o.s,.int .i64 o.k,.int .i64 o.l,.int .i64 o.sd] = some [.string o.s.data.toList,.int .i64 o.k,.int .i64 o.l,.int .i64 o.sd]:=by
 obtain ⟨h1,h2,h3,h4⟩:=h
 conv=>lhs; unfold Program.keyLits
 rw [Tryz.underlying41]
 simp [zNo,cells9,zGb,zPm h1 d,zLW h2 d,zLW h3 d,zLW h4 d]
theorem zMF {o:OpR} (h:zCy o):keyOf Tryz.prog 41 (.agg #[.string o.s,.int .i64 o.k,.int .i64 o.l,.int .i64 o.sd]) = some (klQ o):=by
 unfold keyOf
 rw [Tryz.underlying41]
 have hf:(Value.agg #[.string o.s,.int .i64 o.k,.int .i64 o.l,.int .i64 o.sd]).formed Tryz.prog 41 = true:=by simp [Value.formed,Tryz.underlying41,zNo]
 have hl:=zQi h (Tryz.prog.types.size - 1)
 rw [<- zEq] at hl
 simp only [zQK,hf,Bool.and_self,if_true]
 show (Tryz.prog.keyLits (Tryz.prog.types.size + 1) 41 [.string o.s,.int .i64 o.k,.int .i64 o.l,.int .i64 o.sd]).map _ = _
 rw [hl]
 rfl
theorem zPF {a b:OpR} (ha:zCy a) (hb:zCy b) (h:klQ a = klQ b):a = b:=by
 have p:=zMF ha
 have q:=zMF hb
 rw [<- h] at q
 have:=zNn.inj p q
 obtain ⟨s,k,l,sd⟩:=a
 obtain ⟨s',k',l',sd'⟩:=b
 simp at this
 obtain ⟨rfl,rfl,rfl,rfl⟩:=this
 rfl
def zA4 (w:World) (b n:Nat) (G:OpR -> Option Value):Prop:=
 ∃ D:DataW Value,w.ownsMap Tryz.prog 41 zA6 b n D /\ ∀ t,zCy t -> Maps.has D (klQ t) = (G t).isSome /\ (∀ v,G t = some v -> ∀ z,D.atKey (klQ t) z = .held v) /\ (G t = none -> ∀ z,D.atKey (klQ t) z = z)
theorem zA4.lt {w:World} {b n:Nat} {G:OpR -> Option Value} (h:zA4 w b n G):b < w.heap.size:=by
 obtain ⟨D,hD,_⟩:=h
 exact hD.lt
theorem zA4.kept {w w':World} {b n:Nat} {G:OpR -> Option Value} {row:Option Nat} (h:zA4 w b n G) (hg:w.grownBy w' row) (hne:some b ≠ row):zA4 w' b n G:=by
 obtain ⟨D,hD,h⟩:=h
 exact ⟨D,hD.kept hg hne,h⟩
theorem zA4.made (w:World):zA4 (w.alloc (.map #[] 0)) w.heap.size 0 (fun _=>none):=
 ⟨.map [],World.ownsMap_made w Tryz.prog 41 zA6,fun t _=>⟨rfl,fun v h=>(by cases h),fun _ z=>rfl⟩⟩
theorem zA4.look {w:World} {b n:Nat} {G:OpR -> Option Value} {ty e:TypeId} (h:zA4 w b n G) (ht:Tryz.prog.underlying ty = some (.map 41 e)) {z:Value} (hz:(zeroValue e).run Tryz.prog w = .ok z w) {t:OpR} (hs:zCy t) :
  (Instr.lookup ty (.map (some b)) (.agg #[.string t.s,.int .i64 t.k,.int .i64 t.l,.int .i64 t.sd]) true).run Tryz.prog w = .ok (.tuple #[(G t).getD z,.bool (G t).isSome]) w:=by
 obtain ⟨D,hD,h⟩:=h
 obtain ⟨v,ps,hrun,hv⟩:=hD.look_ok zNn ht hz (zd:=.held z) (zp:=[]) rfl (zMF hs)
 rw [(h t hs).1] at hrun
 have e:v = (G t).getD z:=by
  cases hg:G t with
  | none=>
   rw [(h t hs).2.2 hg] at hv
   simp only [zA6,Option.some.injEq,Prod.mk.injEq,DataW.held.injEq] at hv
   exact hv.1
  | some u=>
   rw [(h t hs).2.1 u hg] at hv
   simp only [zA6,Option.some.injEq,Prod.mk.injEq,DataW.held.injEq] at hv
   exact hv.1
 rw [<- e]
 exact hrun
theorem zA4.put {G:OpR -> Option Value} {D:DataW Value} (hm:IsMap D) (h:∀ t,zCy t -> Maps.has D (klQ t) = (G t).isSome /\ (∀ v,G t = some v -> ∀ z,D.atKey (klQ t) z = .held v) /\ (G t = none -> ∀ z,D.atKey (klQ t) z = z)) {t:OpR} (hs:zCy t) (v:Value) :
  ∀ t',zCy t' -> Maps.has (D.put (klQ t) (.held v)) (klQ t') = (if zAB t' t = true then some v else G t').isSome /\ (∀ u,(if zAB t' t = true then some v else G t') = some u -> ∀ z,(D.put (klQ t) (.held v)).atKey (klQ t') z = .held u) /\ ((if zAB t' t = true then some v else G t') = none -> ∀ z,(D.put (klQ t) (.held v)).atKey (klQ t') z = z):=by
 intro t' hs'
 by_cases e:zAB t' t = true
 ·have e':t' = t:=ZB.1 e
  subst e'
  have hk:=zNn.key (zMF hs')
  rw [if_pos e,has_put_same hm hk]
  refine ⟨rfl,fun u hu z=>?_,fun hu=>by cases hu⟩
  injection hu with hu
  rw [atKey_put_same hm hk,hu]
 ·have hne:klQ t' ≠ klQ t:=fun x=>e (ZB.2 (zPF hs' hs x))
  rw [if_neg e,has_put_other hne]
  refine ⟨(h t' hs').1,fun u hu z=>?_,fun hu z=>?_⟩
  ·rw [atKey_put_other hne]
   exact (h t' hs').2.1 u hu z
  ·rw [atKey_put_other hne]
   exact (h t' hs').2.2 hu z
theorem zA4.update {w:World} {b n:Nat} {G:OpR -> Option Value} {ty e:TypeId} (h:zA4 w b n G) (ht:Tryz.prog.underlying ty = some (.map 41 e)) (hn:n < maxLen) {t:OpR} (hs:zCy t) (v:Value) :
  ∃ w',(Instr.mapUpdate ty (.map (some b)) (.agg #[.string t.s,.int .i64 t.k,.int .i64 t.l,.int .i64 t.sd]) v).run Tryz.prog w = .ok () w' /\ zA4 w' b (n + 1) (fun t'=>if zAB t' t = true then some v else G t') /\ zI w w' b:=by
 obtain ⟨D,hD,h⟩:=h
 obtain ⟨w',hrun,h1,h2⟩:=hD.update zNn ht hn (zMF hs) (val:=v) (d:=.held v) (ps:=[]) rfl
 exact ⟨w',hrun,⟨_,h1,zA4.put hD.isMap h hs v⟩,⟨h2.os,h2.tape,h2.output,h2.size,fun i hi hne=>h2.block i hi (fun x=>hne (by injection x))⟩⟩
end Go.Proofs.YtokabkhnidlcnacGreatDoor
