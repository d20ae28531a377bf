import Derived.Deep.RegionHeld
import Derived.OwnWalk
import Derived.Laws.OwnMore
import Derived.Test.YtgiemobdmbijiaaGreatDoorN01
import Derived.Test.YtgiemobdmbijiaaGreatDoorN03
import Derived.Test.YtgiemobdmbijiaaGreatDoorN07
import Derived.Test.YtgiemobdmbijiaaGreatDoorN12
import Derived.Test.YtgiemobdmbijiaaGreatDoorN13
import Derived.Test.YtgiemobdmbijiaaGreatDoorN14
import Derived.Test.YtgiemobdmbijiaaGreatDoorN19
namespace Go.Proofs.YtgiemobdmbijiaaGreatDoor
set_option linter.unusedSimpArgs false
set_option linter.unusedVariables false
set_option maxHeartbeats 16000000
set_option maxRecDepth 100000
open Go.RowKit
def zEd (out:List (List zD)) (i:Nat):List zD:=out.getD i []
theorem zHH {out:List (List zD)} {us:List zD} {i:Nat} (h:i < out.length):zEd (out ++ [us]) i = zEd out i:=by
 simp [zEd,List.getD_eq_getElem?_getD,List.getElem?_append_left h]
theorem zHI {out:List (List zD)} {us:List zD}:zEd (out ++ [us]) out.length = us:=by
 simp [zEd,List.getD_eq_getElem?_getD]
def PsI (T:Nat -> List OpR) (b:Nat -> ByteArray) (i:Nat) (us:List zD) (c:Int):Prop:=∃ p,zCP (T i) (b i) us c p
def zHw (T:Nat -> List OpR) (b:Nat -> ByteArray) (k:Nat) (out:List (List zD)):Prop:=out.length = k /\ ∀ i,i < k -> PsI T b i (zEd out i) 0
theorem zHw.nil (T:Nat -> List OpR) (b:Nat -> ByteArray):zHw T b 0 []:=⟨rfl,fun i hi=>absurd hi (Nat.not_lt_zero i)⟩
theorem zHw.step {T:Nat -> List OpR} {b:Nat -> ByteArray} {k:Nat} {out:List (List zD)} {us:List zD} (h:zHw T b k out) (h':PsI T b k us 0):zHw T b (k + 1) (out ++ [us]):=by
 refine ⟨by simp [h.1],fun i hi=>?_⟩
 by_cases e:i < k
 ·rw [zHH (by rw [h.1]; exact e)]; exact h.2 i e
 ·obtain rfl:i = k:=by omega
  have e:zEd (out ++ [us]) i = us:=by rw [<- h.1]; exact zHI
  rw [e]; exact h'
def zPo (T:Nat -> List OpR) (b:Nat -> ByteArray) (n:Nat) (out:List (List zD)) (c who:Int):Prop:=
 (∃ k us cd t,k < n /\ zHw T b k t /\ PsI T b k us cd /\ cd ≠ 0 /\ out = [] /\ c = 10 + cd /\ who = (k:Int)) \/ (zHw T b n out /\ c = 0 /\ who = 0)
def zDE (ms:List zI) (out:List (List zD)) (c who:Int):Prop:=∃ tabs c0 w0,zAW ms tabs c0 w0 /\ ((c0 ≠ 0 /\ out = [] /\ c = c0 /\ who = w0) \/ (c0 = 0 /\ ∃ U,zBD ms U /\ zPo (zDJ tabs) (fun i=>(atU U i).b) ms.length out c who))
theorem zMZ:(Tryz.prog.info? 97).map (fun i=>(i.zero,i.size,i.bytes)) = some (some (.agg #[.slice none 0 0]),1,24):=by kernel_rfl
def zHJ (w:World) (B:Nat) (v:Value) (tv:List Value):Prop:=w.ownsRow B 97 1 v tv.length tv
theorem zEe {w w':World} {B e s:Nat} {v:Value} {n:Nat} {xs:List Value} (h:w.ownsRow B e s v n xs) (hs:∀ g,v.ownBlock = some g -> w'.heap[g]? = w.heap[g]?):w'.ownsRow B e s v n xs:=by
 obtain ⟨a,h1 | ⟨g,cap,cur,h1,h2,h3,h4⟩⟩:=h
 ·exact ⟨a,Or.inl h1⟩
 ·exact ⟨a,Or.inr ⟨g,cap,cur,h1,h2,(hs g (by rw [h1]; rfl)).trans h3,h4⟩⟩
theorem ZP.same {w w':World} {n:Nat} {a:Option Addr} {us:List zD} (h:ZP w n a us) (hz:w.heap.size <= w'.heap.size) (hs:∀ q,a.map (·.block) = some q -> w'.heap[q]? = w.heap[q]?):ZP w' n a us:=by
 rcases h with h | ⟨g,rfl,hn,h1,h2,h3⟩
 ·exact Or.inl h
 ·have hb:=hs g rfl
  have e:∀ o,w'.cell? ⟨g,o,none⟩ = w.cell? ⟨g,o,none⟩:=fun o=>World.cell?_of_block (w:=w) hb
  have f:∀ o,w'.frozen? ⟨g,o,none⟩ = w.frozen? ⟨g,o,none⟩:=fun o=>World.frozen?_of_block (w:=w) hb
  refine Or.inr ⟨g,rfl,hn,Nat.lt_of_lt_of_le h1 hz,fun j hj=>⟨by rw [e]; exact (h2 j hj).1,by rw [f]; exact (h2 j hj).2⟩,fun i hi=>?_⟩
  obtain ⟨a0,a1,a2,a3⟩:=h3 i hi
  exact ⟨(e _).trans a0,(e _).trans a1,(e _).trans a2,(e _).trans a3⟩
theorem ZP.base {w:World} {n n':Nat} {a:Option Addr} {us:List zD} (h:ZP w n a us) (hn:n' <= n):ZP w n' a us:=by
 rcases h with h | ⟨g,h1,h2,h3⟩
 ·exact Or.inl h
 ·exact Or.inr ⟨g,h1,by omega,h3⟩
structure TrI (w:World) (B:Nat) (v:Value) (tv:List Value) (ta:List (Option Addr)) (out:List (List zD)):Prop where
 row:zHJ w B v tv
 len:tv.length = out.length /\ ta.length = out.length
 el:∀ j,j < out.length -> ∃ a c,tv[j]? = some (.slice a (zEd out j).length c) /\ ta[j]? = some a /\ ZP w B a (zEd out j) /\ ∀ q,a.map (·.block) = some q -> v.ownBlock ≠ some q
 ap:∀ i j:Nat,i < j -> ∀ a a':Option Addr,ta[i]? = some a -> ta[j]? = some a' -> ∀ q,a.map (·.block) = some q -> a'.map (·.block) ≠ some q
theorem TrI.keep {w w':World} {B:Nat} {v:Value} {tv:List Value} {ta:List (Option Addr)} {out:List (List zD)} (h:TrI w B v tv ta out) (hz:w.heap.size <= w'.heap.size) (hs:∀ q,B <= q -> q < w.heap.size -> w'.heap[q]? = w.heap[q]?):TrI w' B v tv ta out:=by
 refine ⟨zEe h.row (fun g e=>hs g (World.ownsRow.lt h.row g e).1 (World.ownsRow.lt h.row g e).2),h.len,fun j hj=>?_,h.ap⟩
 obtain ⟨a,c,h1,h2,h3,h4⟩:=h.el j hj
 exact ⟨a,c,h1,h2,h3.same hz (fun q e=>hs q (h3.lt q e).1 (h3.lt q e).2),h4⟩
theorem TrI.step {w w2 w4:World} {B cc:Nat} {v v4:Value} {tv:List Value} {ta:List (Option Addr)} {out:List (List zD)} {a:Option Addr} {us:List zD} (h:TrI w B v tv ta out) (hB:B <= w.heap.size) (hz:w.heap.size <= w2.heap.size) (hs:∀ q,B <= q -> q < w.heap.size -> w2.heap[q]? = w.heap[q]?) (ho:ZP w2 w.heap.size a us)
  (hg:w2.grownBy w4 v.ownBlock) (hr:zHJ w4 B v4 (tv ++ [.slice a us.length cc])) (hat:v4.ownBlock = v.ownBlock \/ ∃ q,v4.ownBlock = some q /\ w2.heap.size <= q):TrI w4 B v4 (tv ++ [.slice a us.length cc]) (ta ++ [a]) (out ++ [us]):=by
 have z4:=hg.size
 have hl:=h.len
 have vl:∀ g,v.ownBlock = some g -> B <= g /\ g < w.heap.size:=fun g e=>World.ownsRow.lt h.row g e
 have n4:∀ g,g < w2.heap.size -> v.ownBlock ≠ some g -> v4.ownBlock ≠ some g:=fun g h1 h2 e=>by
  rcases hat with h3 | ⟨q,h3,h4⟩
  ·exact h2 (h3.symm.trans e)
  ·rw [h3] at e; injection e with e; omega
 have na:∀ q,a.map (·.block) = some q -> v.ownBlock ≠ some q:=fun q e e2=>by have:=(ho.lt q e).1; have:=(vl q e2).2; omega
 refine ⟨hr,by simp; omega,fun j hj=>?_,fun i j hij x y hx hy q e=>?_⟩
 ·by_cases e:j < out.length
  ·obtain ⟨x,c,h1,h2,h3,h4⟩:=h.el j e
   rw [zHH e]
   refine ⟨x,c,by rw [List.getElem?_append_left (by omega)]; exact h1,by rw [List.getElem?_append_left (by omega)]; exact h2,h3.same (by omega) (fun q eq=>(hg.block q (by have:=(h3.lt q eq).2; omega) (fun e=>h4 q eq e.symm)).trans (hs q (h3.lt q eq).1 (h3.lt q eq).2)),fun q eq=>n4 q (by have:=(h3.lt q eq).2; omega) (h4 q eq)⟩
  ·obtain rfl:j = out.length:=by simp at hj; omega
   rw [zHI]
   refine ⟨a,cc,by rw [<- hl.1,List.getElem?_concat_length],by rw [<- hl.2,List.getElem?_concat_length],(ho.same (by omega) (fun q eq=>hg.block q (ho.lt q eq).2 (fun e=>na q eq e.symm))).base hB,fun q eq=>n4 q (ho.lt q eq).2 (na q eq)⟩
 ·have hj:j < out.length + 1:=by
   have:=(List.getElem?_eq_some_iff.1 hy).1
   simp at this; omega
  have hx':ta[i]? = some x:=by rw [List.getElem?_append_left (by omega)] at hx; exact hx
  by_cases e3:j < out.length
  ·exact h.ap i j hij x y hx' (by rw [List.getElem?_append_left (by omega)] at hy; exact hy) q e
  ·obtain rfl:j = ta.length:=by omega
   rw [List.getElem?_concat_length] at hy
   injection hy with hy
   subst hy
   intro e2
   obtain ⟨x',c,_,h2,h3,_⟩:=h.el i (by omega)
   have:x = x':=by rw [hx'] at h2; injection h2
   subst this
   have:=(h3.lt q e).2
   have:=(ho.lt q e2).1
   omega
structure zPp (w:World) (B g:Nat) (ta:Nat -> Option Addr) (tc:Nat -> Nat) (out:List (List zD)):Prop where
 hg:g < w.heap.size
 ce:∀ i,i < out.length -> w.cell? ⟨g,i,none⟩ = some (.slice (ta i) (zEd out i).length (tc i))
 ro:∀ i,i < out.length -> ZP w B (ta i) (zEd out i)
 ng:∀ i,i < out.length -> (ta i).map (·.block) ≠ some g
 ap:∀ i j,i < out.length -> j < out.length -> i ≠ j -> ∀ q,(ta i).map (·.block) = some q -> (ta j).map (·.block) ≠ some q
def zO5 (w:World) (B:Nat) (v:Value) (out:List (List zD)):Prop:=(∃ a c,v = .slice a out.length c) /\ (out.length = 0 \/ ∃ g c ta tc,B <= g /\ v = .slice (some ⟨g,0,none⟩) out.length c /\ zPp w B g ta tc out)
theorem TrI.res {w:World} {B:Nat} {v:Value} {tv:List Value} {ta:List (Option Addr)} {out:List (List zD)} (h:TrI w B v tv ta out):zO5 w B v out:=by
 have hl:=h.len
 have hrow:=h.row
 obtain ⟨a,c,rfl⟩:∃ a c,v = .slice a tv.length c:=zV h.row
 refine ⟨⟨a,c,by rw [hl.1]⟩,?_⟩
 by_cases h0:out.length = 0
 ·exact Or.inl h0
 obtain ⟨_,⟨h1,h2⟩ | ⟨g,cap,cur,h1,h2,h3,h4⟩⟩:=id h.row
 ·exfalso
  have h0':tv.length = 0:=by first | exact h2 | (simp at h2; omega) | (simp at h2; simp [h2]) | exact h1
  omega
 ·have ha:a = some ⟨g,0,none⟩:=by injection h1
  subst ha
  have get:∀ i,i < out.length -> ∃ x c,tv[i]? = some (.slice x (zEd out i).length c) /\ ta[i]? = some x /\ ZP w B x (zEd out i) /\ (∀ q,x.map (·.block) = some q -> g ≠ q) /\ ta.getD i none = x:=fun i hi=>by
   obtain ⟨x,c,e1,e2,e3,e4⟩:=h.el i hi
   exact ⟨x,c,e1,e2,e3,fun q e x=>e4 q e (by rw [<- x]; rfl),by simp [List.getD_eq_getElem?_getD,e2]⟩
  refine Or.inr ⟨g,c,fun i=>ta.getD i none,fun i=>match tv[i]? with | some (.slice _ _ c)=>c | _=>0,(World.ownsRow.lt hrow g rfl).1,by rw [hl.1],⟨(World.ownsRow.lt hrow g rfl).2,fun i hi=>?_,fun i hi=>?_,fun i hi=>?_,fun i j hi hj hij q e=>?_⟩⟩
  ·obtain ⟨x,c',e1,e2,e3,_,e4⟩:=get i hi
   have:=World.ownsRow.cellAt hrow i (by omega)
   simp only [e4]
   rw [e1] at this ⊢
   simpa using this
  ·obtain ⟨x,c',e1,e2,e3,_,e4⟩:=get i hi
   simp only [e4]
   exact e3
  ·obtain ⟨x,c',e1,e2,e3,e5,e4⟩:=get i hi
   simp only [e4]
   exact fun e=>e5 g e rfl
  ·obtain ⟨x,c',e1,e2,e3,_,e4⟩:=get i hi
   obtain ⟨y,d',f1,f2,f3,_,f4⟩:=get j hj
   simp only [e4] at e
   simp only [f4]
   rcases Nat.lt_trichotomy i j with h' | h' | h'
   ·exact h.ap i j h' x y e2 f2 q e
   ·exact absurd h' hij
   ·exact fun e'=>h.ap j i h' y x f2 e2 q e' e
def zC0 (k:Nat) (ms:List zI):Nat -> List ByteArray
 | 0=>[]
 | j + 1=>if k / 2 ^ j % 2 = 1 then zC0 k ms j ++ [(atM ms j).n] else zC0 k ms j
def zDd (k n i:Nat) (xa:List OpR):Nat -> List OpR
 | 0=>[]
 | j + 1=>if j % n = i \/ (240 <= k /\ j % n = 0) then zDd k n i xa j ++ [atO xa j] else zDd k n i xa j
def zFE (bs:List UInt8) (n i:Nat) (xa:List OpR) (p:Nat):List OpR × Nat:=
 if 0 < i /\ nxt bs p % 32 = 31 then (zDd (nxt bs p) n i xa xa.length ++ [zAa (nxt bs (adv bs p)) (nxt bs (adv bs (adv bs p))) true],adv bs (adv bs (adv bs p)))
 else (zDd (nxt bs p) n i xa xa.length,adv bs p)
def zI7 (bs:List UInt8) (ws:List ByteArray) (q:Nat):ByteArray:=(Z6 bs ws q ws.length).1 ++ zDX (nxt bs (Z6 bs ws q ws.length).2)
def zN0 (bs:List UInt8) (ws:List ByteArray) (q:Nat):Nat:=adv bs (Z6 bs ws q ws.length).2
def zPd (bs:List UInt8) (n:Nat) (xa:List OpR) (i:Nat) (ms:List zI) (p:Nat) (m:zI) (q:Nat):Prop:=
 ∃ (hd:ByteArray) (tabs:List (List OpR)) (c who:Int) (ws:List ByteArray) (q1:Nat) (tx:ByteArray) (out:List (List zD)) (bad who2:Int),
  hd = zGs (nxt bs (zFE bs n i xa p).2) (zC0 (nxt bs p) ms i) (zFE bs n i xa p).1 /\ zAW (ms ++ [⟨zCf i,hd⟩]) tabs c who /\
  zOv bs (if c = 0 then zDJ tabs i else []) (adv bs (zFE bs n i xa p).2) ws q1 /\
  ((c = 0 /\ tx = hd ++ zI7 bs ws q1 /\ q = zN0 bs ws q1) \/ (c ≠ 0 /\ tx = ⟨#[98,101,103,105,110,10,97]⟩ /\ q = adv bs (zFE bs n i xa p).2)) /\
  zDE (ms ++ [⟨zCf i,tx⟩]) out bad who2 /\
  ((bad = 0 /\ m = ⟨zCf i,tx⟩) \/ (bad ≠ 0 /\ ∃ h,zLm tx OpR.zero OpR.zero h /\ m = ⟨zCf i,h ++ ⟨#[49]⟩⟩))
def zKu (bs:List UInt8) (n:Nat) (xa:List OpR) (p0:Nat):Nat -> List zI -> Nat -> Prop
 | 0,ms,p=>ms = [] /\ p = p0
 | i + 1,ms,p=>∃ ms0 p1 m,zKu bs n xa p0 i ms0 p1 /\ zPd bs n xa i ms0 p1 m p /\ ms = ms0 ++ [m]
def zO6 (bs:List UInt8) (p:Nat) (ms:List zI) (q:Nat):Prop:=
 ∃ xa q1,zDv bs (adv bs (adv bs p)) (3 + nxt bs (adv bs p) % 8) xa q1 /\ zKu bs (1 + nxt bs p % 4) xa q1 (1 + nxt bs p % 4) ms q
def zU (zs:List zI):List Value:=zs.flatMap fun o=>[.string o.n,.string o.t]
theorem zBE (xs ys:List zI):zU (xs ++ ys) = zU xs ++ zU ys:=by simp [zU]
theorem zCT:∀ zs:List zI,(zU zs).length = zs.length * 2
 | []=>rfl
 | o :: r=>by
  have:=zCT r
  simp only [zU,List.flatMap_cons,List.length_append,List.length_cons,List.length_nil] at *
  omega
theorem zEf:∀ (zs:List zI) (i:Nat),i < zs.length -> (zU zs)[i * 2]? = some (.string (atM zs i).n) /\ (zU zs)[i * 2 + 1]? = some (.string (atM zs i).t)
 | [],i,h=>absurd h (Nat.not_lt_zero i)
 | o :: r,0,_=>⟨rfl,rfl⟩
 | o :: r,i + 1,h=>by
  have ih:=zEf r i (by simpa using h)
  have e:∀ j,(zU (o :: r))[(i + 1) * 2 + j]? = (zU r)[i * 2 + j]?:=fun j=>by
   have:(i + 1) * 2 + j = (i * 2 + j) + 2:=by omega
   rw [this]
   rfl
  exact ⟨(e 0).trans ih.1,(e 1).trans ih.2⟩
theorem zAM (zs:List zI):∀ u ∈ zU zs,u.oneCell' = true:=by
 intro u hu
 simp only [zU,List.mem_flatMap] at hu
 obtain ⟨o,_,ho⟩:=hu
 simp at ho
 rcases ho with rfl | rfl <;> rfl
theorem zDe:∀ (zs:List zI) (i:Nat) (s:ByteArray),i < zs.length -> (zU zs).set (i * 2) (.string s) = zU (zs.set i ⟨s,(atM zs i).t⟩) /\ (zU zs).set (i * 2 + 1) (.string s) = zU (zs.set i ⟨(atM zs i).n,s⟩)
 | [],i,_,h=>absurd h (Nat.not_lt_zero i)
 | o :: r,0,s,_=>⟨rfl,rfl⟩
 | o :: r,i + 1,s,h=>by
  obtain ⟨h1,h2⟩:=zDe r i s (by simpa using h)
  have e:∀ (j:Nat) (v:Value),(zU (o :: r)).set ((i + 1) * 2 + j) v = .string o.n :: .string o.t :: (zU r).set (i * 2 + j) v:=fun j v=>by
   have:(i + 1) * 2 + j = (i * 2 + j) + 2:=by omega
   rw [this]
   rfl
  have a:atM (o :: r) (i + 1) = atM r i:=rfl
  exact ⟨(e 0 _).trans (by rw [Nat.add_zero,h1,a]; rfl),(e 1 _).trans (by rw [h2,a]; rfl)⟩
theorem zBA {w:World} {b off:Nat} {xs:List zI} (h:zLL w b off xs):∀ j u,(zU xs)[j]? = some u -> w.cell? ((⟨b,off,none⟩:Addr).add j) = some u:=by
 intro j u hj
 have hlt:j < xs.length * 2:=by
  rw [<- zCT]
  exact (List.getElem?_eq_some_iff.1 hj).1
 rw [Addr.add_mid]
 have hi:j / 2 < xs.length:=by omega
 obtain ⟨a0,a1⟩:=h (j / 2) hi
 obtain ⟨c0,c1⟩:=zEf xs (j / 2) hi
 rcases (by omega:j % 2 = 0 \/ j % 2 = 1) with e | e
 ·have ej:j = j / 2 * 2:=by omega
  rw [ej] at hj ⊢
  rw [c0] at hj
  rw [<- hj]
  exact a0
 ·have ej:j = j / 2 * 2 + 1:=by omega
  rw [ej] at hj ⊢
  rw [c1] at hj
  rw [<- hj]
  exact a1
def ZG (w:World) (B:Nat) (v:Value) (ms:List zI):Prop:=w.ownsRow B 39 2 v ms.length (zU ms)
theorem ZG.grown {w w':World} {B:Nat} {u:Value} {us:List zI} {row:Option Nat} (h:ZG w B u us) (hg:w.grownBy w' row) (hne:∀ k,u.ownBlock = some k -> row ≠ some k):ZG w' B u us:=
 World.ownsRow.kept h hg (by
  cases e:u.ownBlock with
  | none=>exact Or.inl rfl
  | some k=>exact Or.inr (fun x=>hne k e x.symm))
theorem ZG.below {w w':World} {B:Nat} {u:Value} {us:List zI} (h:ZG w B u us) (hb:Below w.heap.size w w'):ZG w' B u us:=
 h.grown (row:=none) (zO hb none) (fun k _ e=>by cases e)
theorem ZG.lt {w:World} {B:Nat} {u:Value} {us:List zI} (h:ZG w B u us):∀ g,u.ownBlock = some g -> B <= g /\ g < w.heap.size:=fun g hg=>World.ownsRow.lt h g hg
theorem ZG.ops {w:World} {B g c:Nat} {us:List zI} (h:ZG w B (.slice (some ⟨g,0,none⟩) us.length c) us):zLL w g 0 us:=fun i hi=>by
 obtain ⟨c0,c1⟩:=zEf us i hi
 have e:=fun j (hj:j < 2)=>World.ownsRow.cellAt h (i * 2 + j) (by omega)
 exact ⟨by simpa using (e 0 (by omega)).trans c0,by simpa using (e 1 (by omega)).trans c1⟩
theorem ZG.has {w:World} {B:Nat} {v:Value} {us:List zI} (h:ZG w B v us) (h1:1 <= us.length):∃ g c,v = .slice (some ⟨g,0,none⟩) us.length c:=by
 obtain ⟨_,⟨_,h0⟩ | ⟨g,cap,cur,hv,_⟩⟩:=h
 ·omega
 ·exact ⟨g,cap,hv⟩
theorem ZG.arg {w:World} {B g c:Nat} {us:List zI} (h:ZG w B (.slice (some ⟨g,0,none⟩) us.length c) us):zGe w (some ⟨g,0,none⟩) us:=
 Or.inr ⟨g,0,rfl,h.ops,(h.lt g rfl).2⟩
theorem ZG.nil {w:World} {B:Nat} (hB:B <= w.heap.size):ZG (w.alloc (.cells #[] 39)) B (.slice (some ⟨w.heap.size,0,none⟩) 0 0) []:=by
 have:=World.ownsRow_lit (base:=B) (e:=39) (size:=2) w #[] 0 hB (Nat.zero_le _) rfl
 simpa [ZG,zU] using this
theorem ZG.setT {w:World} {B g c:Nat} {us:List zI} (h:ZG w B (.slice (some ⟨g,0,none⟩) us.length c) us) {i:Nat} (hi:i < us.length) (s:ByteArray):ZG (w.setCell ⟨g,i * 2 + 1,none⟩ (.string s)) B (.slice (some ⟨g,0,none⟩) us.length c) (us.set i ⟨(atM us i).n,s⟩):=by
 have:=(World.ownsRow.stored h (i * 2 + 1) (.string s)).1
 rw [(zDe us i s hi).2] at this
 unfold ZG
 rw [List.length_set]
 exact this
theorem ZG.setN {w:World} {B g c:Nat} {us:List zI} (h:ZG w B (.slice (some ⟨g,0,none⟩) us.length c) us) {i:Nat} (hi:i < us.length) (s:ByteArray):ZG (w.setCell ⟨g,i * 2,none⟩ (.string s)) B (.slice (some ⟨g,0,none⟩) us.length c) (us.set i ⟨s,(atM us i).t⟩):=by
 have:=(World.ownsRow.stored h (i * 2) (.string s)).1
 rw [(zDe us i s hi).1] at this
 unfold ZG
 rw [List.length_set]
 exact this
theorem Z0 (w:World) (o:zI):∀ j u,(zU [o])[j]? = some u -> (w.alloc (.cells #[.string o.n,.string o.t] 39)).cell? ((⟨w.heap.size,0,none⟩:Addr).add j) = some u:=by
 intro j u hj
 rw [Addr.add_mid]
 have:=World.rangeAt_of_block (w:=w.alloc (.cells #[.string o.n,.string o.t] 39)) (b:=w.heap.size) (heap_alloc_new w _) 0 2
 exact this j u (by simpa [zU] using hj)
theorem zEg:(Tryz.prog.info? 39).map (fun i=>(i.zero,i.size,i.bytes)) = some (some (.agg #[.string ⟨#[]⟩,.string ⟨#[]⟩]),2,32):=by kernel_rfl
theorem zN1 {ms:List zI} {m:zI} {i:Nat}:atM (ms ++ [m]) i = if i < ms.length then atM ms i else if i = ms.length then m else zI.zero:=by
 unfold atM
 simp only [List.getD_eq_getElem?_getD,List.getElem?_append]
 split
 ·rfl
 ·rename_i h
  split
  ·rename_i e; subst e; simp
  ·rename_i e
   rw [List.getElem?_eq_none (by simp; omega)]
   rfl
theorem zKv {ms:List zI} {m:zI} {i j:Nat} (hi:i < ms.length):atM (ms.set i m) j = if j = i then m else atM ms j:=by
 unfold atM
 simp only [List.getD_eq_getElem?_getD,List.getElem?_set]
 by_cases e:i = j
 ·subst e; simp [hi]
 ·rw [if_neg e,if_neg (fun x=>e x.symm)]
structure LnP (bs:List UInt8) (ns:List OpR) (p0:Nat) (ws:List ByteArray) (bh:Bool) (op p f:Nat):Prop where
 me:lnM bs bh op p <= f
 eq:lnF bs ns 3601 [] false 0 p0 = lnF bs ns f ws bh op p
 one:bh = true -> 1 <= ws.length
 nf:ws.length + f <= 3601
 opn:op <= ws.length
theorem LnP.start (bs:List UInt8) (ns:List OpR) (p0:Nat) (hl:bs.length <= 1200):LnP bs ns p0 [] false 0 p0 3601:=
 ⟨by unfold lnM; simp; omega,rfl,(fun h=>by cases h),by simp,Nat.zero_le _⟩
theorem LnP.len {bs:List UInt8} {ns:List OpR} {p0:Nat} {ws:List ByteArray} {bh:Bool} {op p f:Nat} (h:LnP bs ns p0 ws bh op p f):ws.length <= 3601 /\ op <= 3601:=by have:=h.nf; have:=h.opn; omega
theorem LnP.fin {bs:List UInt8} {ns:List OpR} {p0:Nat} {ws:List ByteArray} {bh:Bool} {op p f:Nat} (h:LnP bs ns p0 ws bh op p f) (hc:¬ ((ws.length < 30 /\ p < bs.length) \/ bh = false \/ 0 < op)):lnF bs ns 3601 [] false 0 p0 = (ws,p):=by
 rw [h.eq]
 cases f with
 | zero=>rfl
 | succ f=>simp only [lnF]; rw [if_pos hc]
theorem zHx {bs:List UInt8} {p:Nat} (h:nxt bs p ≠ 0):p < bs.length:=by
 by_cases hp:p < bs.length
 ·exact hp
 ·exact absurd (by simp [nxt,hp]) h
theorem LnP.go {bs:List UInt8} {ns:List OpR} {p0:Nat} {ws:List ByteArray} {bh:Bool} {op p f:Nat} (h:LnP bs ns p0 ws bh op p f) {ws':List ByteArray} {bh':Bool} {op' p':Nat}
  (hs:∀ f,lnF bs ns (f + 1) ws bh op p = lnF bs ns f ws' bh' op' p') (hm:lnM bs bh' op' p' < lnM bs bh op p) (hn:ws'.length <= ws.length + 1) (hop:op' <= ws'.length) (ho:bh' = true -> 1 <= ws'.length) :
  ∃ f',f' < f /\ LnP bs ns p0 ws' bh' op' p' f':=by
 have h1:=h.me
 have h2:=h.nf
 cases f with
 | zero=>omega
 | succ f=>exact ⟨f,by omega,by omega,h.eq.trans (hs f),ho,by omega,hop⟩
theorem LnP.stepA {bs:List UInt8} {ns:List OpR} {p0:Nat} {ws:List ByteArray} {op p f k:Nat} (h:LnP bs ns p0 ws false op p f) (hk:k = nxt bs p) (h1:k % 8 = 1) (hn:ws.length < 30) :
  ∃ f',f' < f /\ LnP bs ns p0 (ws ++ [⟨#[40]⟩]) false (op + 1) (adv bs p) f':=by
 subst hk
 have hp:p < bs.length:=zHx (by omega)
 have ha:adv bs p = p + 1:=by simp [adv,hp]
 have ho:=h.opn
 refine h.go (fun f=>?_) ?_ (by simp) (by simp; omega) (fun h=>by cases h)
 ·simp only [lnF]
  rw [if_neg (by simp),if_pos trivial,if_pos ⟨h1,hn⟩]
 ·unfold lnM; rw [ha]; simp; omega
theorem LnP.stepB {bs:List UInt8} {ns:List OpR} {p0:Nat} {ws:List ByteArray} {op p f k:Nat} (h:LnP bs ns p0 ws false op p f) (hk:k = nxt bs p) (h1:¬ (k % 8 = 1 /\ ws.length < 30)) (h2:4 < k % 8) (h3:(atO ns (k / 8 % ns.length)).k = 1) :
  ∃ f',f' < f /\ LnP bs ns p0 (ws ++ [(atO ns (k / 8 % ns.length)).s]) false op (adv bs p) f':=by
 subst hk
 have hp:p < bs.length:=zHx (by omega)
 have ha:adv bs p = p + 1:=by simp [adv,hp]
 have ho:=h.opn
 refine h.go (fun f=>?_) ?_ (by simp) (by simp; omega) (fun h=>by cases h)
 ·simp only [lnF]
  rw [if_neg (by simp),if_pos trivial,if_neg h1,if_pos ⟨h2,h3⟩]
 ·unfold lnM; rw [ha]; simp; omega
theorem LnP.stepC {bs:List UInt8} {ns:List OpR} {p0:Nat} {ws:List ByteArray} {op p f k:Nat} (h:LnP bs ns p0 ws false op p f) (hk:k = nxt bs p) (h1:¬ (k % 8 = 1 /\ ws.length < 30)) (h2:¬ (4 < k % 8 /\ (atO ns (k / 8 % ns.length)).k = 1)) :
  ∃ f',f' < f /\ LnP bs ns p0 (ws ++ [nmK k]) true op (adv bs p) f':=by
 subst hk
 have ha:p <= adv bs p:=by unfold adv; split <;> omega
 have ho:=h.opn
 refine h.go (fun f=>?_) ?_ (by simp) (by simp; omega) (fun _=>by simp)
 ·simp only [lnF]
  rw [if_neg (by simp),if_pos trivial,if_neg h1,if_neg h2]
 ·unfold lnM; simp; omega
theorem LnP.stepD {bs:List UInt8} {ns:List OpR} {p0:Nat} {ws:List ByteArray} {op p f k:Nat} (h:LnP bs ns p0 ws true op p f) (hk:k = nxt bs p) (h1:0 < op) (h2:k % 8 = 0 \/ 30 <= ws.length \/ bs.length <= adv bs p) :
  ∃ f',f' < f /\ LnP bs ns p0 (ws ++ [⟨#[41]⟩]) true (op - 1) (adv bs p) f':=by
 subst hk
 have ha:p <= adv bs p:=by unfold adv; split <;> omega
 have ho:=h.opn
 refine h.go (fun f=>?_) ?_ (by simp) (by simp; omega) (fun _=>by simp)
 ·simp only [lnF]
  rw [if_neg (fun h=>h (Or.inr (Or.inr h1))),if_neg (by simp),if_pos ⟨h1,h2⟩]
 ·unfold lnM; simp; omega
theorem LnP.stepE {bs:List UInt8} {ns:List OpR} {p0:Nat} {ws:List ByteArray} {op p f k:Nat} (h:LnP bs ns p0 ws true op p f) (hk:k = nxt bs p) (hp:p < bs.length) (hn:ws.length < 30) (h2:¬ (0 < op /\ (k % 8 = 0 \/ 30 <= ws.length \/ bs.length <= adv bs p))) :
  ((atO ns (k / 8 % ns.length)).k = 3 -> ∃ f',f' < f /\ LnP bs ns p0 (ws ++ [(atO ns (k / 8 % ns.length)).s]) true op (adv bs p) f') /\
  ((atO ns (k / 8 % ns.length)).k = 2 -> ∃ f',f' < f /\ LnP bs ns p0 (ws ++ [(atO ns (k / 8 % ns.length)).s]) false op (adv bs p) f') /\
  ((atO ns (k / 8 % ns.length)).k ≠ 3 -> (atO ns (k / 8 % ns.length)).k ≠ 2 -> ¬ bs.length <= adv bs p -> ∃ f',f' < f /\ LnP bs ns p0 ws true op (adv bs p) f') /\
  ((atO ns (k / 8 % ns.length)).k ≠ 3 -> (atO ns (k / 8 % ns.length)).k ≠ 2 -> bs.length <= adv bs p -> lnF bs ns 3601 [] false 0 p0 = (ws,adv bs p)):=by
 subst hk
 have ha:adv bs p = p + 1:=by simp [adv,hp]
 have ho:=h.opn
 have h1:=h.one rfl
 have hcn:¬ ¬ ((ws.length < 30 /\ p < bs.length) \/ (true:Bool) = false \/ 0 < op):=fun h=>h (Or.inl ⟨hn,hp⟩)
 have hme:=h.me
 refine ⟨fun h3=>h.go (fun f=>?_) ?_ (by simp) (by simp; omega) (fun _=>by simp),fun h3=>h.go (fun f=>?_) ?_ (by simp) (by simp; omega) (fun h=>by cases h),fun h3 h4 h5=>h.go (fun f=>?_) ?_ (by omega) (by omega) (fun _=>h1),fun h3 h4 h5=>?_⟩
 ·simp only [lnF]
  rw [if_neg hcn,if_neg (by simp),if_neg h2,if_pos h3]
 ·unfold lnM; rw [ha]; simp; omega
 ·simp only [lnF]
  rw [if_neg hcn,if_neg (by simp),if_neg h2,if_neg (by rw [h3]; decide),if_pos h3]
 ·unfold lnM; rw [ha]; simp; omega
 ·simp only [lnF]
  rw [if_neg hcn,if_neg (by simp),if_neg h2,if_neg h3,if_neg h4,if_neg h5]
 ·unfold lnM; rw [ha]; simp; omega
 ·rw [h.eq]
  cases f with
  | zero=>unfold lnM at hme; simp at hme; omega
  | succ f=>
   simp only [lnF]
   rw [if_neg hcn,if_neg (by simp),if_neg h2,if_neg h3,if_neg h4,if_pos h5]
theorem zEh (b off cap:Nat) (xs:List OpR) (w:World) (hm:xs.length <= 1048576) (hw:Ops w b off xs) (hs:Zs xs) (hB:b < w.heap.size) (hc:zZ xs 0) :
  Calls Tryz.prog 46 #[.agg #[.slice (some ⟨b,off,none⟩) xs.length cap]] w fun e w'=>e = .returned (.int .i64 0) /\ Below w.heap.size w w':=by
 refine (ZU b off cap xs w hm hw hs hB).mono ?_
 rintro e w' ⟨⟨c,rfl,h⟩,hb⟩
 exact ⟨by rw [zA6 h hc],hb⟩
theorem zEi (b off cap bn offn cn:Nat) (xs:List OpR) (ns:List zD) (w:World) (hm:xs.length <= 1048576) (hmn:ns.length <= 1048576) (hw:Ops w b off xs) (hsz:Zs xs) (hB:b < w.heap.size) (hwn:zAs w bn offn ns) (hsn:zEQ ns) (hBn:bn < w.heap.size) (hc:zZ xs 0) :
  Calls Tryz.prog 79 #[.agg #[.slice (some ⟨b,off,none⟩) xs.length cap],.agg #[.slice (some ⟨bn,offn,none⟩) ns.length cn]] w fun e w'=>zHb e (zAn ns /\ zIc xs ns) /\ Below w.heap.size w w':=by
 have HW:=zB hw
 have HWN:=zB hwn
 have HZ:=zB hsz
 have HZN:=zB hsn
 have HC:=zB hc
 clear hw hwn hsz hsn hc
 go_enter Tryz.func79,Tryz.ntmps79
 go_wp2_with fail
 refine (zEh b off cap xs _ hm ((zA HW).below ((zC _ _).alloc (by simp) _) hB) (zA HZ) (by simp; omega) (zA HC)).mono ?_
 rintro e w1 ⟨rfl,hb1⟩
 have bel1:Below w.heap.size w w1:=((zC _ _).alloc (by simp) _).trans (hb1.mono (by simp; omega))
 have c0:w1.cell? ⟨w.heap.size,0,none⟩ = some (.slice (some ⟨b,off,none⟩) xs.length cap):=(hb1.cell (p:=⟨w.heap.size,0,none⟩) (by simp; omega)).trans (by simp [go_sem])
 have c1:w1.cell? ⟨w.heap.size + 1,0,none⟩ = some (.slice (some ⟨bn,offn,none⟩) ns.length cn):=(hb1.cell (p:=⟨w.heap.size + 1,0,none⟩) (by simp)).trans (by simp [go_sem])
 have z1:w.heap.size + 2 <= w1.heap.size:=by have:=hb1.size; simp at this; omega
 clear hb1
 go_wp2_with fail
 refine (zDL bn offn cn ns _ hmn ((zA HWN).below bel1 hBn) (zA HZN) (by omega)).mono ?_
 rintro e w2 ⟨⟨v,rfl,hv⟩,hb2⟩
 have HV:=zB hv
 have bel2:=bel1.trans (hb2.mono bel1.size)
 have e0:=(hb2.cell (p:=⟨w.heap.size,0,none⟩) (show w.heap.size < w1.heap.size by omega)).trans c0
 have e1:=(hb2.cell (p:=⟨w.heap.size + 1,0,none⟩) (show w.heap.size + 1 < w1.heap.size by omega)).trans c1
 have z2:w.heap.size + 2 <= w2.heap.size:=Nat.le_trans z1 hb2.size
 clear hb2 hv c0 c1 bel1 z1
 cases v
 ·go_wp2_with fail
  go_ret
  exact ⟨⟨_,rfl,zu (fun h=>Bool.false_ne_true ((zA HV).2 h.1))⟩,bel2⟩
 have HO:=zB ((zA HV).1 rfl)
 clear HV
 have HCS:=zB (show Cs [(w.heap.size,0,.slice (some ⟨b,off,none⟩) xs.length cap),(w.heap.size + 1,0,.slice (some ⟨bn,offn,none⟩) ns.length cn)] w2 from fun p hp=>by
  simp only [List.mem_cons,List.not_mem_nil,or_false] at hp
  rcases hp with rfl | rfl
  ·exact e0
  ·exact e1)
 go_wp2_with fail
 go_loopw [5] (fun iv wr=>∃ k:Nat,k <= ns.length /\ iv = .int .i64 (k:Int) /\ Hid (∀ i,i < k -> zAo (atN ns i) -> fnd xs (atN ns i).t ((atN ns i).k - 2) ≠ none) /\ Hid (Cs [(w.heap.size,0,.slice (some ⟨b,off,none⟩) xs.length cap),(w.heap.size + 1,0,.slice (some ⟨bn,offn,none⟩) ns.length cn)] wr) /\ Below w.heap.size w wr) (fun iv _=>ns.length - (intOf iv).toNat)
 case atStart=>exact ⟨0,Nat.zero_le _,rfl,zB (fun i hi=>absurd hi (Nat.not_lt_zero i)),HCS,bel2⟩
 case round=>
  clear HCS e0 e1 bel2 z2
  obtain ⟨k,hk,rfl,hkn,hcs,hbel⟩:=hrel
  have c0:=(zA hcs) (w.heap.size,0,.slice (some ⟨b,off,none⟩) xs.length cap) (by simp)
  have c1:=(zA hcs) (w.heap.size + 1,0,.slice (some ⟨bn,offn,none⟩) ns.length cn) (by simp)
  simp only at c0 c1
  by_cases hlt:k < ns.length
  ·have hltI:(k:Int) < (ns.length:Int):=by omega
   obtain ⟨a0,a1,a2,a3⟩:=((zA HWN) k hlt).below hbel hBn
   have HC1:=zB ((zA hcs).below (zC wr (.cells #[.int .i64 (atN ns k).k,.string (atN ns k).t,.int .i64 (atN ns k).a,.int .i64 (atN ns k).b] 120)))
   have bel1:Below w.heap.size w (wr.alloc (.cells #[.int .i64 (atN ns k).k,.string (atN ns k).t,.int .i64 (atN ns k).a,.int .i64 (atN ns k).b] 120)):=hbel.alloc hbel.size _
   by_cases ho:zAo (atN ns k)
   ·have HD:=zB (show true = decide (3 <= (atN ns k).k /\ (atN ns k).k <= 5) by rw [eq_comm,decide_eq_true_iff]; exact ho)
    have h3:=ho.1
    have h5:=ho.2
    have HOP:=zB ho
    clear ho
    go_wp2_with fail
    refine (zAK (atN ns k) _ true (zA HD)).mono ?_
    rintro e w3 ⟨rfl,hb3⟩
    have HC3:=zB ((zA HC1).below hb3)
    have bel3:=bel1.trans (hb3.mono bel1.size)
    have n0:w3.cell? ⟨wr.heap.size,0,none⟩ = some (.int .i64 (atN ns k).k):=(hb3.cell (p:=⟨wr.heap.size,0,none⟩) (by simp)).trans (by simp [go_sem])
    have n1:w3.cell? ⟨wr.heap.size,1,none⟩ = some (.string (atN ns k).t):=(hb3.cell (p:=⟨wr.heap.size,1,none⟩) (by simp)).trans (by simp [go_sem])
    have d0:=(zA HC3) (w.heap.size,0,.slice (some ⟨b,off,none⟩) xs.length cap) (by simp)
    simp only at d0
    have hwr:IntKind.i64.wrap ((atN ns k).k - 2) = (atN ns k).k - 2:=by rw [IntKind.wrap_i64]; omega
    clear hb3 c0 c1
    cases hf:fnd xs (atN ns k).t ((atN ns k).k - 2) with
    | none=>
     have HF:=zB hf
     have HFI:=zB (show fI (fnd xs (atN ns k).t ((atN ns k).k - 2)) = -1 by rw [hf]; rfl)
     clear hf
     go_wp2_with fail
     refine (zDB b off cap xs (atN ns k).t ((atN ns k).k - 2) _ hm ((zA HW).below bel3 hB) (Nat.lt_of_lt_of_le hB bel3.size)).mono ?_
     rw [zA HFI]
     rintro e w4 ⟨rfl,hb4⟩
     go_wp2_with fail
     go_ret
     exact ⟨⟨_,rfl,zu (fun h=>h.2 k hlt (zA HOP) (zA HF))⟩,bel3.trans (hb4.mono bel3.size)⟩
    | some j=>
     have HF:=zB hf
     have HFI:=zB (show fI (fnd xs (atN ns k).t ((atN ns k).k - 2)) = (j:Int) by rw [hf]; rfl)
     clear hf
     go_wp2_with fail
     refine (zDB b off cap xs (atN ns k).t ((atN ns k).k - 2) _ hm ((zA HW).below bel3 hB) (Nat.lt_of_lt_of_le hB bel3.size)).mono ?_
     rw [zA HFI]
     rintro e w4 ⟨rfl,hb4⟩
     have hj0:¬ (j:Int) < 0:=by omega
     go_wp2_with fail
     refine ⟨⟨k + 1,by omega,by go_num,zB (fun i hi hop=>?_),zB ((zA HC3).below hb4),bel3.trans (hb4.mono bel3.size)⟩,by simp [intOf]; omega⟩
     by_cases e:i = k
     ·subst e; rw [zA HF]; simp
     ·exact (zA hkn) i (by omega) hop
   ·have HD:=zB (show false = decide (3 <= (atN ns k).k /\ (atN ns k).k <= 5) by rw [eq_comm,decide_eq_false_iff_not]; exact ho)
    have HOP:=zB ho
    clear ho
    go_wp2_with fail
    refine (zAK (atN ns k) _ false (zA HD)).mono ?_
    rintro e w3 ⟨rfl,hb3⟩
    go_wp2_with fail
    refine ⟨⟨k + 1,by omega,by go_num,zB (fun i hi hop=>?_),zB ((zA HC1).below hb3),bel1.trans (hb3.mono bel1.size)⟩,by simp [intOf]; omega⟩
    by_cases e:i = k
    ·subst e; exact absurd hop (zA HOP)
    ·exact (zA hkn) i (by omega) hop
  ·have hkx:k = ns.length:=by omega
   go_wp2_with fail
   go_ret
   exact ⟨⟨_,rfl,zB3 ⟨zA HO,fun i hi hop=>(zA hkn) i (by omega) hop⟩⟩,hbel⟩
end Go.Proofs.YtgiemobdmbijiaaGreatDoor
