import Derived.Laws.IdiomStrings
import Derived.Laws.BytesString
import Derived.OwnWalk
import Derived.Laws.OwnMore
import Derived.Test.YtokabkhnidlcnacGreatDoorM00
import Derived.Test.YtokabkhnidlcnacGreatDoorM02
import Derived.Test.YtokabkhnidlcnacGreatDoorM11
import Derived.Test.YtokabkhnidlcnacGreatDoorM12
import Derived.Test.YtokabkhnidlcnacGreatDoorM13
namespace Go.Proofs.YtokabkhnidlcnacGreatDoor
set_option linter.unusedSimpArgs false
set_option linter.unusedVariables false
set_option maxHeartbeats 16000000
set_option maxRecDepth 100000
open Go.RowKit
open Go.Deep (BT)
def opS (op:Int) (s:SyR):Int:=op + (if s.1 = 6 then 1 else 0) - (if s.1 = 7 then 1 else 0)
def opL (op:Int) (ss:List SyR):Int:=ss.foldl opS op
def zAr (ns:List OpR) (best:Option (Nat × SyR)) (x:Nat × SyR):Option (Nat × SyR):=match best with
 | none=>some x
 | some b=>if sLv ns x.2 < sLv ns b.2 \/ (sLv ns x.2 = sLv ns b.2 /\ sSo ns x.2 ≠ 2) then some x else some b
def rtF (ns:List OpR):List SyR -> Nat -> Int -> Option (Nat × SyR) -> Option (Nat × SyR)
 | [],_,_,best=>best
 | s :: r,i,op,best=>rtF ns r (i + 1) (opS op s) (if opS op s ≠ 0 \/ ¬ (3 <= s.1 /\ s.1 <= 5) then best else zAr ns best (i,s))
theorem zBk (op:Int) (a b:List SyR):opL op (a ++ b) = opL (opL op a) b:=by simp [opL]
theorem Zf (op:Int) (s:SyR) (r:List SyR):opL op (s :: r) = opL (opS op s) r:=rfl
theorem zu (ns:List OpR):∀ (a b:List SyR) (i:Nat) (op:Int) (best:Option (Nat × SyR)),rtF ns (a ++ b) i op best = rtF ns b (i + a.length) (opL op a) (rtF ns a i op best)
 | [],b,i,op,best=>rfl
 | s :: r,b,i,op,best=>by
  simp only [List.cons_append,rtF,List.length_cons,Zf]
  rw [zu ns r b]
  congr 1
  omega
theorem zY {op:Int} {s:SyR} (h:s.1 ≠ 6 /\ s.1 ≠ 7):opS op s = op:=by
 unfold opS
 rw [if_neg h.1,if_neg h.2]
 omega
theorem zBG {op:Int}:opS op (6,opn) = op + 1:=by simp [opS]
theorem zDT {op:Int}:opS op (7,zBh) = op - 1:=by simp [opS]
theorem zBH {b:Nat} {t:ByteArray} (h:b = 1 \/ b = 2):ySy (.node b 0 t .nil .nil) = [(b,t)]:=by
 simp only [ySy]
 rw [if_neg (by omega),if_neg (by omega),if_neg (by omega),if_neg (by omega)]
theorem zB6 {t:ByteArray} {l r:ET}:ySy (.node 6 0 t l r) = (6,opn) :: (ySy l ++ [(7,zBh)]):=by simp [ySy]
theorem zB7 {t:ByteArray} {l r:ET}:ySy (.node 3 0 t l r) = (3,t) :: ySy l:=by simp [ySy]
theorem zBl {t:ByteArray} {l r:ET}:ySy (.node 5 0 t l r) = ySy l ++ [(5,t)]:=by simp [ySy]
theorem zCq {t:ByteArray} {l r:ET}:ySy (.node 4 0 t l r) = ySy l ++ ((4,t) :: ySy r):=by simp [ySy]
theorem zBI {ns:List OpR}:∀ (T:ET),zX ns T -> ∀ op,opL op (ySy T) = op:=by
 intro T
 induction T with
 | nil=>intro h; exact h.elim
 | node b o t l r ihl ihr=>
  rintro ⟨rfl,h⟩ op
  rcases h with ⟨h12,rfl,rfl⟩ | ⟨rfl,rfl,hl,rfl⟩ | ⟨h35,hk,hl,rfl,hh⟩ | ⟨rfl,hk,hl,hr,h1,h2⟩
  ·rw [zBH h12,Zf,zY ⟨by simp; omega,by simp; omega⟩]
   rfl
  ·rw [zB6,Zf,zBG,zBk,ihl hl,Zf,zDT]
   show op + 1 - 1 = op
   omega
  ·rcases h35 with rfl | rfl
   ·rw [zB7,Zf,zY ⟨by simp,by simp⟩,ihl hl]
   ·rw [zBl,zBk,ihl hl,Zf,zY ⟨by simp,by simp⟩]
    rfl
  ·rw [zCq,zBk,ihl hl,Zf,zY ⟨by simp,by simp⟩,ihr hr]
theorem zDq {ns:List OpR}:∀ (T:ET),zX ns T -> ∀ (i:Nat) (op:Int) best,0 < op -> rtF ns (ySy T) i op best = best:=by
 intro T
 induction T with
 | nil=>intro h; exact h.elim
 | node b o t l r ihl ihr=>
  rintro ⟨rfl,h⟩ i op best hop
  rcases h with ⟨h12,rfl,rfl⟩ | ⟨rfl,rfl,hl,rfl⟩ | ⟨h35,hk,hl,rfl,hh⟩ | ⟨rfl,hk,hl,hr,h1,h2⟩
  ·rw [zBH h12]
   simp only [rtF]
   rw [if_pos]
   exact Or.inr (by simp; omega)
  ·rw [zB6]
   simp only [rtF]
   rw [zBG,if_pos (Or.inl (by omega)),zu,ihl hl _ _ _ (by omega)]
   simp [rtF]
  ·rcases h35 with rfl | rfl
   ·rw [zB7]
    simp only [rtF]
    rw [zY ⟨by simp,by simp⟩,if_pos (Or.inl (by omega)),ihl hl _ _ _ hop]
   ·rw [zBl,zu,ihl hl _ _ _ hop,zBI l hl]
    simp only [rtF]
    rw [zY ⟨by simp,by simp⟩,if_pos (Or.inl (by omega))]
  ·rw [zCq,zu,ihl hl _ _ _ hop,zBI l hl]
   simp only [rtF]
   rw [zY ⟨by simp,by simp⟩,if_pos (Or.inl (by omega)),ihr hr _ _ _ hop]
theorem zJN {ns:List OpR} (hv:zL ns 0) (b0:Nat × SyR) (hb:b0.2.1 = 3 \/ b0.2.1 = 4 \/ b0.2.1 = 5) (hkb:knB ns b0.2 = true):∀ (T:ET),zX ns T -> ∀ (i:Nat),(sLv ns b0.2 < lvT ns T \/ (sLv ns b0.2 <= lvT ns T /\ sSo ns b0.2 = 2)) -> rtF ns (ySy T) i 0 (some b0) = some b0:=by
 intro T
 induction T with
 | nil=>intro h; exact h.elim
 | node b o t l r ihl ihr=>
  rintro ⟨rfl,h⟩ i hlv
  simp only [lvT] at hlv
  have pk:∀ (j:Nat) (s:SyR),(s.1 = 3 \/ s.1 = 4 \/ s.1 = 5) -> knB ns s = true -> (sLv ns b0.2 < sLv ns s \/ (sLv ns b0.2 <= sLv ns s /\ sSo ns b0.2 = 2)) -> zAr ns (some b0) (j,s) = some b0:=fun j s hs hk hc=>by
   simp only [zAr]
   rw [if_neg]
   rintro (h | ⟨h1,h2⟩)
   ·omega
   ·have:=zEm hv hs hb hk hkb h1
    omega
  rcases h with ⟨h12,rfl,rfl⟩ | ⟨rfl,rfl,hl,rfl⟩ | ⟨h35,hk,hl,rfl,hh⟩ | ⟨rfl,hk,hl,hr,h1,h2⟩
  ·rw [zBH h12]
   simp only [rtF]
   rw [if_pos (Or.inr (by simp; omega))]
  ·rw [zB6]
   simp only [rtF]
   rw [zBG,if_pos (Or.inl (by omega)),zu,zDq l hl _ _ _ (by omega)]
   simp [rtF]
  ·rcases h35 with rfl | rfl
   ·have f:=(opF hv (Or.inl rfl) hk).pre rfl
    rw [zB7]
    simp only [rtF]
    rw [zY ⟨by simp,by simp⟩,if_neg (by simp),pk _ _ (Or.inl rfl) hk hlv]
    exact ihl hl _ (by omega)
   ·have f:=(opF hv (Or.inr (Or.inr rfl)) hk).post rfl
    rw [zBl,zu,ihl hl _ (by omega),zBI l hl]
    simp only [rtF]
    rw [zY ⟨by simp,by simp⟩,if_neg (by simp),pk _ _ (Or.inr (Or.inr rfl)) hk hlv]
  ·have f:=(opF hv (Or.inr (Or.inl rfl)) hk).mid rfl
   rw [zCq,zu,ihl hl _ (by omega),zBI l hl]
   simp only [rtF]
   rw [zY ⟨by simp,by simp⟩,if_neg (by simp),pk _ _ (Or.inr (Or.inl rfl)) hk hlv]
   exact ihr hr _ (by omega)
def zDU (ns:List OpR) (m:Int) (best:Option (Nat × SyR)):Prop:=∀ b,best = some b -> m <= sLv ns b.2
theorem zLQ {ns:List OpR} (hv:zL ns 0) (m:Int):∀ (T:ET),zX ns T -> ∀ (i:Nat) best,m <= lvT ns T -> zDU ns m best -> zDU ns m (rtF ns (ySy T) i 0 best):=by
 intro T
 induction T with
 | nil=>intro h; exact h.elim
 | node b o t l r ihl ihr=>
  rintro ⟨rfl,h⟩ i best hlv hb
  simp only [lvT] at hlv
  have pk:∀ (j:Nat) (s:SyR) best,m <= sLv ns s -> zDU ns m best -> zDU ns m (zAr ns best (j,s)):=fun j s best hs hb x hx=>by
   cases best with
   | none=>simp only [zAr,Option.some.injEq] at hx; subst hx; exact hs
   | some y=>
    simp only [zAr] at hx
    split at hx
    ·simp only [Option.some.injEq] at hx; subst hx; exact hs
    ·exact hb x hx
  rcases h with ⟨h12,rfl,rfl⟩ | ⟨rfl,rfl,hl,rfl⟩ | ⟨h35,hk,hl,rfl,hh⟩ | ⟨rfl,hk,hl,hr,h1,h2⟩
  ·rw [zBH h12]
   simp only [rtF]
   rw [if_pos (Or.inr (by simp; omega))]
   exact hb
  ·rw [zB6]
   simp only [rtF]
   rw [zBG,if_pos (Or.inl (by omega)),zu,zDq l hl _ _ _ (by omega)]
   simpa [rtF] using hb
  ·rcases h35 with rfl | rfl
   ·have f:=(opF hv (Or.inl rfl) hk).pre rfl
    rw [zB7]
    simp only [rtF]
    rw [zY ⟨by simp,by simp⟩,if_neg (by simp)]
    exact ihl hl _ _ (by omega) (pk _ _ _ hlv hb)
   ·have f:=(opF hv (Or.inr (Or.inr rfl)) hk).post rfl
    rw [zBl,zu,zBI l hl]
    simp only [rtF]
    rw [zY ⟨by simp,by simp⟩,if_neg (by simp)]
    exact pk _ _ _ hlv (ihl hl _ _ (by omega) hb)
  ·have f:=(opF hv (Or.inr (Or.inl rfl)) hk).mid rfl
   rw [zCq,zu,zBI l hl]
   simp only [rtF]
   rw [zY ⟨by simp,by simp⟩,if_neg (by simp)]
   exact ihr hr _ _ (by omega) (pk _ _ _ hlv (ihl hl _ _ (by omega) hb))
def zAw (ns:List OpR) (b:Nat) (t:ByteArray) (l r:ET):Bool:=decide (sH ns (b,t) false <= lvT ns l) && (decide (b ≠ 4) || decide (sH ns (b,t) true <= lvT ns r))
def bld (ns:List OpR):Nat -> List SyR -> Option ET
 | 0,_=>none
 | n + 1,ss=>match rtF ns ss 0 0 none with
  | none=>(match ss with
   | []=>none
   | s :: r=>if s.1 = 6 then (bld ns n r.dropLast).map (fun T=>.node 6 0 ByteArray.empty T .nil) else some (.node s.1 0 s.2 .nil .nil))
  | some x=>
   if (x.2.1 = 3 /\ x.1 ≠ 0) \/ (x.2.1 = 5 /\ x.1 + 1 ≠ ss.length) then none
   else if x.2.1 = 3 then (match bld ns n (ss.drop 1) with
    | none=>none
    | some T=>if zAw ns 3 x.2.2 T .nil then some (.node 3 0 x.2.2 T .nil) else none)
   else if x.2.1 = 5 then (match bld ns n (ss.take x.1) with
    | none=>none
    | some T=>if zAw ns 5 x.2.2 T .nil then some (.node 5 0 x.2.2 T .nil) else none)
   else (match bld ns n (ss.take x.1) with
    | none=>none
    | some T=>(match bld ns n (ss.drop (x.1 + 1)) with
     | none=>none
     | some T2=>if zAw ns 4 x.2.2 T T2 then some (.node 4 0 x.2.2 T T2) else none))
theorem zJO {ns:List OpR} {m:Int}:zDU ns m none:=fun b e=>by cases e
theorem zHZ {ns:List OpR} {m:Int} {best:Option (Nat × SyR)} {x:Nat × SyR} (h:zDU ns m best) (hc:sLv ns x.2 < m \/ (sLv ns x.2 <= m /\ sSo ns x.2 ≠ 2)):zAr ns best x = some x:=by
 cases best with
 | none=>rfl
 | some b=>
  have:=h b rfl
  simp only [zAr]
  rw [if_pos]
  by_cases e:sLv ns x.2 < sLv ns b.2
  ·exact Or.inl e
  ·refine Or.inr ⟨by omega,?_⟩
   rcases hc with hc | hc
   ·omega
   ·exact hc.2
theorem zLx {ns:List OpR} (hv:zL ns 0):∀ (T:ET),zX ns T -> ∀ n,tsz T <= n -> bld ns n (ySy T) = some T:=by
 intro T
 induction T with
 | nil=>intro h; exact h.elim
 | node b o t l r ihl ihr=>
  rintro ⟨rfl,h⟩ n hn
  simp only [tsz] at hn
  obtain ⟨n,rfl⟩:∃ m,n = m + 1:=⟨n - 1,by omega⟩
  rcases h with ⟨h12,rfl,rfl⟩ | ⟨rfl,rfl,hl,rfl⟩ | ⟨h35,hk,hl,rfl,hh⟩ | ⟨rfl,hk,hl,hr,h1,h2⟩
  ·have e:rtF ns [(b,t)] 0 0 none = none:=by
    simp only [rtF]
    rw [if_pos (Or.inr (by simp; omega))]
   rw [zBH h12]
   simp only [bld,e]
   rw [if_neg (by omega)]
  ·have e:rtF ns ((6,opn) :: (ySy l ++ [(7,zBh)])) 0 0 none = none:=by
    simp only [rtF]
    rw [zBG,if_pos (Or.inl (by omega)),zu,zDq l hl _ _ _ (by omega)]
    simp [rtF]
   rw [zB6]
   simp only [bld,e]
   rw [if_pos trivial,List.dropLast_concat,ihl hl n (by omega)]
   rfl
  ·rcases h35 with rfl | rfl
   ·have f:=(opF hv (Or.inl rfl) hk).pre rfl
    have e:rtF ns ((3,t) :: ySy l) 0 0 none = some (0,(3,t)):=by
     simp only [rtF]
     rw [zY ⟨by simp,by simp⟩,if_neg (by simp)]
     exact zJN hv (0,(3,t)) (Or.inl rfl) hk l hl _ (Or.inr ⟨by show sLv ns (3,t) <= _; omega,f.2⟩)
    rw [zB7]
    simp only [bld,e]
    rw [if_neg (by simp),if_pos trivial,List.drop_succ_cons,List.drop_zero,ihl hl n (by omega)]
    simp [zAw,hh]
   ·have f:=(opF hv (Or.inr (Or.inr rfl)) hk).post rfl
    have e:rtF ns (ySy l ++ [(5,t)]) 0 0 none = some ((ySy l).length,(5,t)):=by
     rw [zu,zBI l hl]
     simp only [rtF]
     rw [zY ⟨by simp,by simp⟩,if_neg (by simp),Nat.zero_add]
     exact zHZ (zLQ hv (sH ns (5,t) false) l hl 0 none hh zJO) (Or.inr ⟨by show sLv ns (5,t) <= _; omega,by show sSo ns (5,t) ≠ 2; omega⟩)
    rw [zBl]
    simp only [bld,e]
    rw [if_neg (by simp),if_neg (by decide),if_pos trivial,List.take_left,ihl hl n (by omega)]
    simp [zAw,hh]
  ·have f:=(opF hv (Or.inr (Or.inl rfl)) hk).mid rfl
   have e:rtF ns (ySy l ++ ((4,t) :: ySy r)) 0 0 none = some ((ySy l).length,(4,t)):=by
    rw [zu,zBI l hl]
    simp only [rtF]
    rw [zY ⟨by simp,by simp⟩,if_neg (by simp),Nat.zero_add,zHZ (zLQ hv (sH ns (4,t) false) l hl 0 none h1 zJO) (by show sLv ns (4,t) < _ \/ (sLv ns (4,t) <= _ /\ sSo ns (4,t) ≠ 2); omega)]
    exact zJN hv ((ySy l).length,(4,t)) (Or.inr (Or.inl rfl)) hk r hr _ (by show sLv ns (4,t) < _ \/ (sLv ns (4,t) <= _ /\ sSo ns (4,t) = 2); omega)
   rw [zCq]
   simp only [bld,e]
   rw [if_neg (by simp),if_neg (by decide),if_neg (by decide),List.take_left,ihl hl n (by omega)]
   have ed:(ySy l ++ (4,t) :: ySy r).drop ((ySy l).length + 1) = ySy r:=by
    have:ySy l ++ (4,t) :: ySy r = (ySy l ++ [(4,t)]) ++ ySy r:=by simp
    rw [this]
    exact List.drop_left' (by simp)
   simp only [ed,ihr hr n (by omega)]
   simp [zAw,h1,h2]
theorem zGG {ns:List OpR}:∀ (ss:List SyR) (i:Nat) (op:Int) best x,rtF ns ss i op best = some x -> best = some x \/ ∃ L R,ss = L ++ x.2 :: R /\ x.1 = i + L.length /\ (3 <= x.2.1 /\ x.2.1 <= 5) /\ opL op L = 0
 | [],i,op,best,x,h=>Or.inl h
 | s :: r,i,op,best,x,h=>by
  simp only [rtF] at h
  have lift:(∃ L R,r = L ++ x.2 :: R /\ x.1 = i + 1 + L.length /\ (3 <= x.2.1 /\ x.2.1 <= 5) /\ opL (opS op s) L = 0) -> ∃ L R,s :: r = L ++ x.2 :: R /\ x.1 = i + L.length /\ (3 <= x.2.1 /\ x.2.1 <= 5) /\ opL op L = 0:=by
   rintro ⟨L,R,rfl,h1,h2,h3⟩
   exact ⟨s :: L,R,rfl,by simp; omega,h2,h3⟩
  rcases zGG r _ _ _ x h with hb | h'
  ·split at hb
   ·exact Or.inl hb
   ·rename_i hc
    have hc1:3 <= s.1 /\ s.1 <= 5:=Decidable.byContradiction fun h=>hc (Or.inr h)
    have hc2:opS op s = 0:=Decidable.byContradiction fun h=>hc (Or.inl h)
    have here:x = (i,s) -> ∃ L R,s :: r = L ++ x.2 :: R /\ x.1 = i + L.length /\ (3 <= x.2.1 /\ x.2.1 <= 5) /\ opL op L = 0:=by
     rintro rfl
     exact ⟨[],r,rfl,by simp,hc1,by rw [zY ⟨by omega,by omega⟩] at hc2; exact hc2⟩
    cases best with
    | none=>simp only [zAr,Option.some.injEq] at hb; exact Or.inr (here hb.symm)
    | some y=>
     simp only [zAr] at hb
     split at hb
     ·simp only [Option.some.injEq] at hb; exact Or.inr (here hb.symm)
     ·exact Or.inl hb
  ·exact Or.inr (lift h')
theorem zEn {ns:List OpR}:∀ (ss:List SyR) (i:Nat) (op:Int) b,rtF ns ss i op (some b) ≠ none
 | [],i,op,b,h=>by cases h
 | s :: r,i,op,b,h=>by
  simp only [rtF] at h
  split at h
  ·exact zEn r _ _ _ h
  ·simp only [zAr] at h
   split at h
   ·exact zEn r _ _ _ h
   ·exact zEn r _ _ _ h
theorem zKO {ns:List OpR} {L R:List SyR} {s:SyR} (hs:3 <= s.1 /\ s.1 <= 5) (ho:opL 0 L = 0):rtF ns (L ++ s :: R) 0 0 none ≠ none:=by
 rw [zu,ho]
 simp only [rtF]
 rw [zY ⟨by omega,by omega⟩,if_neg (fun h=>by rcases h with h | h; exact h rfl; exact h hs)]
 cases rtF ns L 0 0 none with
 | none=>exact zEn _ _ _ _
 | some b=>
  simp only [zAr]
  split
  ·exact zEn _ _ _ _
  ·exact zEn _ _ _ _
theorem zH9 {ns:List OpR}:∀ (ss:List SyR) (st st':Bool × Nat),zAE ns st ss = some st' -> opL (st.2:Int) ss = (st'.2:Int)
 | [],st,st',h=>by simp only [zAE,Option.some.injEq] at h; subst h; rfl
 | s :: r,(false,d),st',h=>by
  simp only [zAE] at h
  cases e:auS ns (false,d) s with
  | none=>rw [e] at h; cases h
  | some s1=>
   rw [e] at h
   have:=zH9 r s1 st' h
   rw [Zf]
   rcases zDB e with ⟨a,rfl⟩ | ⟨a,_,rfl⟩ | ⟨rfl,rfl⟩
   ·rw [zY ⟨by omega,by omega⟩]; exact this
   ·rw [zY ⟨by omega,by omega⟩]; exact this
   ·rw [zBG]; simpa using this
 | s :: r,(true,d),st',h=>by
  simp only [zAE] at h
  cases e:auS ns (true,d) s with
  | none=>rw [e] at h; cases h
  | some s1=>
   rw [e] at h
   have:=zH9 r s1 st' h
   rw [Zf]
   rcases zEH e with ⟨a,_,rfl⟩ | ⟨a,_,rfl⟩ | ⟨rfl,hd,rfl⟩
   ·rw [zY ⟨by omega,by omega⟩]; exact this
   ·rw [zY ⟨by omega,by omega⟩]; exact this
   ·rw [zDT]
    have e2:((d - 1:Nat):Int) = (d:Int) - 1:=by omega
    simpa [e2] using this
theorem zAF {ns:List OpR}:∀ (r:List SyR) (bh:Bool) (d j:Nat) (st:Bool × Nat),zAE ns (bh,d + 1 + j) r = some st -> st.2 <= d -> ∃ r1 r2,r = r1 ++ (7,zBh) :: r2 /\ zAE ns (bh,j) r1 = some (true,0) /\ zAE ns (true,d) r2 = some st
 | [],bh,d,j,st,h,hd=>by
  simp only [zAE,Option.some.injEq] at h
  subst h
  simp only at hd
  omega
 | s :: r,false,d,j,st,h,hd=>by
  simp only [zAE] at h
  cases e:auS ns (false,d + 1 + j) s with
  | none=>rw [e] at h; cases h
  | some s1=>
   rw [e] at h
   simp only at h
   rcases zDB e with ⟨a,rfl⟩ | ⟨a,hk,rfl⟩ | ⟨rfl,rfl⟩
   ·obtain ⟨r1,r2,rfl,h1,h2⟩:=zAF r true d j st h hd
    exact ⟨s :: r1,r2,rfl,by simp only [zAE,zLN a]; exact h1,h2⟩
   ·obtain ⟨r1,r2,rfl,h1,h2⟩:=zAF r false d j st h hd
    exact ⟨s :: r1,r2,rfl,by simp only [zAE,zNA a hk]; exact h1,h2⟩
   ·obtain ⟨r1,r2,rfl,h1,h2⟩:=zAF r false d (j + 1) st h hd
    exact ⟨(6,opn) :: r1,r2,rfl,by simp only [zAE,zLO]; exact h1,h2⟩
 | s :: r,true,d,j,st,h,hd=>by
  simp only [zAE] at h
  cases e:auS ns (true,d + 1 + j) s with
  | none=>rw [e] at h; cases h
  | some s1=>
   rw [e] at h
   simp only at h
   rcases zEH e with ⟨a,hk,rfl⟩ | ⟨a,hk,rfl⟩ | ⟨rfl,_,rfl⟩
   ·obtain ⟨r1,r2,rfl,h1,h2⟩:=zAF r false d j st h hd
    exact ⟨s :: r1,r2,rfl,by simp only [zAE,zNB a hk]; exact h1,h2⟩
   ·obtain ⟨r1,r2,rfl,h1,h2⟩:=zAF r true d j st h hd
    exact ⟨s :: r1,r2,rfl,by simp only [zAE,zLP a hk]; exact h1,h2⟩
   ·cases j with
    | zero=>exact ⟨[],r,rfl,rfl,by simpa using h⟩
    | succ j=>
     have e2:d + 1 + (j + 1) - 1 = d + 1 + j:=by omega
     rw [e2] at h
     obtain ⟨r1,r2,rfl,h1,h2⟩:=zAF r true d j st h hd
     exact ⟨(7,zBh) :: r1,r2,rfl,by simp only [zAE,zJM]; exact h1,h2⟩
def Seg (ns:List OpR) (ss:List SyR):Prop:=zAE ns (false,0) ss = some (true,0)
theorem Seg.ne {ns:List OpR} {ss:List SyR} (h:Seg ns ss):ss ≠ []:=fun e=>by
 subst e
 unfold Seg at h
 simp [zAE] at h
theorem zJP {ns:List OpR} {ss:List SyR} (h:Seg ns ss) (hr:rtF ns ss 0 0 none = none):(∃ s,(s.1 = 1 \/ s.1 = 2) /\ ss = [s]) \/ ∃ q,ss = (6,opn) :: (q ++ [(7,zBh)]) /\ Seg ns q:=by
 have tail:∀ (L R:List SyR),ss = L ++ R -> opL 0 L = 0 -> zAE ns (true,0) R = some (true,0) -> R = []:=fun L R e ho hR=>by
  cases R with
  | nil=>rfl
  | cons z R=>
   exfalso
   simp only [zAE] at hR
   cases ea:auS ns (true,0) z with
   | none=>rw [ea] at hR; cases hR
   | some st=>
    rcases zEH ea with ⟨a,_,_⟩ | ⟨a,_,_⟩ | ⟨_,hd,_⟩
    ·exact zKO (ns:=ns) (L:=L) (R:=R) (s:=z) (by omega) ho (e ▸ hr)
    ·exact zKO (ns:=ns) (L:=L) (R:=R) (s:=z) (by omega) ho (e ▸ hr)
    ·omega
 cases ss with
 | nil=>exact absurd rfl h.ne
 | cons s r=>
  unfold Seg at h
  simp only [zAE] at h
  cases e:auS ns (false,0) s with
  | none=>rw [e] at h; cases h
  | some st=>
   rw [e] at h
   simp only at h
   rcases zDB e with ⟨a,rfl⟩ | ⟨a,hk,rfl⟩ | ⟨rfl,rfl⟩
   ·have:=tail [s] r rfl (by rw [Zf,zY ⟨by omega,by omega⟩]; rfl) h
    subst this
    exact Or.inl ⟨s,a,rfl⟩
   ·exact absurd hr (zKO (ns:=ns) (L:=[]) (R:=r) (s:=s) (by omega) rfl)
   ·obtain ⟨r1,r2,rfl,h1,h2⟩:=zAF r false 0 0 (true,0) h (Nat.le_refl _)
    have ho:=zH9 r1 _ _ h1
    have:=tail ((6,opn) :: (r1 ++ [(7,zBh)])) r2 (by simp) (by
     rw [Zf,zBG,zBk]
     have sh:∀ (l:List SyR) (a b:Int),opL (a + b) l = opL a l + b:=fun l=>by
      induction l with
      | nil=>intro a b; rfl
      | cons z l ih=>
       intro a b
       rw [Zf,Zf]
       have:opS (a + b) z = opS a z + b:=by unfold opS; omega
       rw [this,ih]
     rw [sh r1 0 1]
     simp only at ho
     have ho':opL 0 r1 = 0:=by simpa using ho
     rw [ho',Zf,zDT]
     rfl) h2
    subst this
    exact Or.inr ⟨r1,by simp,h1⟩
theorem zJQ {ns:List OpR} {ss:List SyR} (h:Seg ns ss) {x:Nat × SyR} (hr:rtF ns ss 0 0 none = some x):∃ L R,ss = L ++ x.2 :: R /\ x.1 = L.length /\ knB ns x.2 = true /\
  ((x.2.1 = 3 /\ (L = [] -> Seg ns R)) \/ (x.2.1 = 5 /\ Seg ns L) \/ (x.2.1 = 4 /\ Seg ns L /\ Seg ns R)):=by
 rcases zGG ss 0 0 none x hr with hb | ⟨L,R,rfl,h1,h2,h3⟩
 ·cases hb
 ·refine ⟨L,R,rfl,by omega,?_⟩
  unfold Seg at h
  rw [zB5] at h
  cases e:zAE ns (false,0) L with
  | none=>rw [e] at h; cases h
  | some st=>
   rw [e] at h
   have ho:=zH9 L _ _ e
   obtain ⟨bh,d⟩:=st
   simp only at ho h
   have hd:d = 0:=by
    have h3':opL ((0:Nat):Int) L = 0:=h3
    omega
   subst hd
   simp only [zAE] at h
   cases ea:auS ns (bh,0) x.2 with
   | none=>rw [ea] at h; cases h
   | some st'=>
    rw [ea] at h
    simp only at h
    cases bh with
    | false=>
     rcases zDB ea with ⟨a,rfl⟩ | ⟨a,hk,rfl⟩ | ⟨a,rfl⟩
     ·omega
     ·exact ⟨hk,Or.inl ⟨a,fun _=>h⟩⟩
     ·rw [a] at h2; exact absurd h2.2 (by decide)
    | true=>
     rcases zEH ea with ⟨a,hk,rfl⟩ | ⟨a,hk,rfl⟩ | ⟨a,_,rfl⟩
     ·exact ⟨hk,Or.inr (Or.inr ⟨a,e,h⟩)⟩
     ·exact ⟨hk,Or.inr (Or.inl ⟨a,e⟩)⟩
     ·rw [a] at h2; exact absurd h2.2 (by decide)
theorem Zq {ns:List OpR} (hv:zL ns 0):∀ (n:Nat) (ss:List SyR) (T:ET),Seg ns ss -> bld ns n ss = some T -> zX ns T /\ ySy T = ss
 | 0,_,_,_,h=>by simp [bld] at h
 | n + 1,ss,T,hs,h=>by
  simp only [bld] at h
  split at h
  ·rename_i hr
   rcases zJP hs hr with ⟨s,hs12,rfl⟩ | ⟨q,rfl,hq⟩
   ·simp only at h
    rw [if_neg (by omega)] at h
    injection h with h
    subst h
    refine ⟨⟨rfl,Or.inl ⟨hs12,rfl,rfl⟩⟩,?_⟩
    rw [zBH hs12]
   ·simp only at h
    rw [if_pos trivial,List.dropLast_concat] at h
    obtain ⟨T1,h1,rfl⟩:=Option.map_eq_some_iff.1 h
    obtain ⟨g,e⟩:=Zq hv n q T1 hq h1
    exact ⟨⟨rfl,Or.inr (Or.inl ⟨rfl,rfl,g,rfl⟩)⟩,by rw [zB6,e]⟩
  ·rename_i x hr
   obtain ⟨L,R,rfl,hx,hk,hc⟩:=zJQ hs hr
   split at h
   ·cases h
   ·rename_i hn
    have ed:∀ m,m = L.length + 1 -> (L ++ x.2 :: R).drop m = R:=fun m hm=>by
     subst hm
     have:L ++ x.2 :: R = (L ++ [x.2]) ++ R:=by simp
     rw [this]
     exact List.drop_left' (by simp)
    rcases hc with ⟨a,hR⟩ | ⟨a,hL⟩ | ⟨a,hL,hR⟩
    ·have hL0:L = []:=by
      have:x.1 = 0:=Decidable.byContradiction fun h=>hn (Or.inl ⟨a,h⟩)
      exact List.eq_nil_of_length_eq_zero (by omega)
     subst hL0
     rw [if_pos a] at h
     simp only [List.nil_append,List.drop_succ_cons,List.drop_zero] at h
     split at h
     ·cases h
     ·rename_i T1 h1
      split at h
      ·rename_i hf
       injection h with h
       subst h
       obtain ⟨g,e⟩:=Zq hv n R T1 (hR rfl) h1
       have es:((3,x.2.2):SyR) = x.2:=Prod.ext a.symm rfl
       simp only [zAw,Bool.and_eq_true,decide_eq_true_eq] at hf
       refine ⟨⟨rfl,Or.inr (Or.inr (Or.inl ⟨Or.inl rfl,by rw [es]; exact hk,g,rfl,hf.1⟩))⟩,?_⟩
       rw [zB7,e,es]
       rfl
      ·cases h
    ·have hR0:R = []:=by
      have:x.1 + 1 = (L ++ x.2 :: R).length:=Decidable.byContradiction fun h=>hn (Or.inr ⟨a,h⟩)
      simp only [List.length_append,List.length_cons] at this
      exact List.eq_nil_of_length_eq_zero (by omega)
     subst hR0
     rw [if_neg (by omega),if_pos a,hx,List.take_left] at h
     split at h
     ·cases h
     ·rename_i T1 h1
      split at h
      ·rename_i hf
       injection h with h
       subst h
       obtain ⟨g,e⟩:=Zq hv n L T1 hL h1
       have es:((5,x.2.2):SyR) = x.2:=Prod.ext a.symm rfl
       simp only [zAw,Bool.and_eq_true,decide_eq_true_eq] at hf
       refine ⟨⟨rfl,Or.inr (Or.inr (Or.inl ⟨Or.inr rfl,by rw [es]; exact hk,g,rfl,hf.1⟩))⟩,?_⟩
       rw [zBl,e,es]
      ·cases h
    ·rw [if_neg (by omega),if_neg (by omega),hx,List.take_left,ed _ rfl] at h
     split at h
     ·cases h
     ·rename_i T1 h1
      split at h
      ·cases h
      ·rename_i T2 h2
       split at h
       ·rename_i hf
        injection h with h
        subst h
        obtain ⟨g,e⟩:=Zq hv n L T1 hL h1
        obtain ⟨g2,e2⟩:=Zq hv n R T2 hR h2
        have es:((4,x.2.2):SyR) = x.2:=Prod.ext a.symm rfl
        simp only [zAw,Bool.and_eq_true,Bool.or_eq_true,decide_eq_true_eq,ne_eq,not_true,false_or] at hf
        refine ⟨⟨rfl,Or.inr (Or.inr (Or.inr ⟨rfl,by rw [es]; exact hk,g,g2,hf.1,hf.2⟩))⟩,?_⟩
        rw [zCq,e,e2,es]
       ·cases h
theorem zIA {ns:List OpR}:∀ (T:ET),zX ns T -> tsz T <= (ySy T).length:=by
 intro T
 induction T with
 | nil=>intro h; exact h.elim
 | node b o t l r ihl ihr=>
  rintro ⟨rfl,h⟩
  rcases h with ⟨h12,rfl,rfl⟩ | ⟨rfl,rfl,hl,rfl⟩ | ⟨h35,hk,hl,rfl,hh⟩ | ⟨rfl,hk,hl,hr,h1,h2⟩
  ·rw [zBH h12]; simp [tsz]
  ·have:=ihl hl
   rw [zB6]; simp [tsz]; omega
  ·have:=ihl hl
   rcases h35 with rfl | rfl
   ·rw [zB7]; simp [tsz]; omega
   ·rw [zBl]; simp [tsz]; omega
  ·have:=ihl hl
   have:=ihr hr
   rw [zCq]; simp [tsz]; omega
theorem zP4 {ns:List OpR} (hv:zL ns 0) {ss:List SyR} (hs:Seg ns ss) {n:Nat} (hn:ss.length <= n) (T:ET):bld ns n ss = some T ↔ RD ns 0 none (ss ++ [eoS]) = some (T,[eoS]):=by
 rw [<- zP2 hv hs T]
 constructor
 ·exact Zq hv n ss T hs
 ·rintro ⟨g,rfl⟩
  exact zLx hv T g n (Nat.le_trans (zIA T g) hn)
end Go.Proofs.YtokabkhnidlcnacGreatDoor
namespace Go.Proofs.YtokabkhnidlcnacGreatDoor
set_option linter.unusedSimpArgs false
set_option maxHeartbeats 16000000
set_option maxRecDepth 100000
open Go.RowKit
def zQX (xs:List OpR) (t:ByteArray) (k:Int):Prop:=∃ j,j < xs.length /\ (atO xs j).s = t /\ (atO xs j).k = k
def zZ (xs:List OpR) (t:ByteArray) (k:Int):Bool:=(List.range xs.length).any fun j=>(atO xs j).s.data == t.data && (atO xs j).k == k
theorem ZD (xs:List OpR) (t:ByteArray) (k:Int):zZ xs t k = true ↔ zQX xs t k:=by
 have e:∀ a b:ByteArray,(a.data = b.data) ↔ a = b:=fun a b=>⟨fun h=>by cases a; cases b; simp_all,fun h=>by rw [h]⟩
 simp [zZ,zQX,List.any_eq_true,e]
def zn (xs:List OpR) (last:Bool) (t:zK) (bh:Bool) (op:Nat):Int:=
 if bh = false then
  if t.k = 1 \/ t.k = 2 \/ t.k = 4 then 0 else if t.k = 3 /\ zZ xs t.t 1 = true then 1 else -1
 else
  if t.k = 3 /\ zZ xs t.t 2 = true then 2 else if t.k = 3 /\ zZ xs t.t 3 = true then 3
  else if t.k = 5 /\ 0 < op then 0 else if t.k = 7 /\ op = 0 /\ last = true then 0 else -1
def zBm (xs:List OpR) (t:zK) (bh:Bool):Bool:=
 if bh = false then (if t.k = 1 \/ t.k = 2 then true else false) else (if t.k = 3 /\ zZ xs t.t 2 = true then false else true)
def zBS (t:zK) (op:Nat):Nat:=if t.k = 4 then op + 1 else if t.k = 5 then op - 1 else op
def zBT (xs:List OpR) (ts:List zK):Nat -> Bool
 | 0=>false
 | i + 1=>zBm xs (atT ts i) (zBT xs ts i)
def zBM (ts:List zK):Nat -> Nat
 | 0=>0
 | i + 1=>zBS (atT ts i) (zBM ts i)
def zN (xs:List OpR) (ts:List zK) (i:Nat):Int:=zn xs (decide (i + 1 = ts.length)) (atT ts i) (zBT xs ts i) (zBM ts i)
def ZL (xs:List OpR) (ts:List zK) (k:Nat):List Int:=(List.range k).map (zN xs ts)
theorem zEI (xs:List OpR) (ts:List zK) (k:Nat):ZL xs ts (k + 1) = ZL xs ts k ++ [zN xs ts k]:=by
 simp [ZL,List.range_succ]
theorem Zj (xs:List OpR) (ts:List zK) (k:Nat):(ZL xs ts k).length = k:=by simp [ZL]
def zAs (xs:List OpR) (ts:List zK) (k:Nat):Prop:=∀ i,i < k -> 0 <= zN xs ts i
def zLR (xs:List OpR) (ok:Prop) (ts:List zK) (us:List Int) (c:Int):Prop:=
 (¬ ok /\ us = [] /\ c = 0) \/
 (ok /\ ((∃ i,i < ts.length /\ zAs xs ts i /\ zN xs ts i < 0 /\ us = [] /\ c = (i:Int)) \/
  (zAs xs ts ts.length /\ (((0 < ts.length /\ (atT ts (ts.length - 1)).k = 7) /\ us = ZL xs ts ts.length /\ c = -1) \/ (¬ (0 < ts.length /\ (atT ts (ts.length - 1)).k = 7) /\ us = [] /\ c = (ts.length:Int))))))
def zCr (xs:List OpR) (t:zK) (st:Bool):Bool:=decide (t.k = 1 \/ t.k = 2 \/ t.k = 5) || (decide (t.k = 3) && st && zZ xs t.t 3)
def zAG (xs:List OpR) (ts:List zK):Nat -> Bool
 | 0=>false
 | i + 1=>zCr xs (atT ts i) (zAG xs ts i)
def opI (ts:List zK):Nat -> Int
 | 0=>0
 | i + 1=>opI ts i + (if (atT ts i).k = 4 then 1 else 0) - (if (atT ts i).k = 5 then 1 else 0)
def zAH (xs:List OpR) (ts:List zK) (i:Nat) (bh:Bool):Int:=
 if bh = false then
  if (atT ts i).k = 1 \/ (atT ts i).k = 2 \/ (atT ts i).k = 4 then 0 else if (atT ts i).k = 3 /\ zZ xs (atT ts i).t 1 = true then 1 else -1
 else
  if (atT ts i).k = 3 /\ zZ xs (atT ts i).t 2 = true then 2 else if (atT ts i).k = 3 /\ zZ xs (atT ts i).t 3 = true then 3
  else if (atT ts i).k = 5 /\ 0 < opI ts i then 0 else if (atT ts i).k = 7 /\ opI ts i = 0 /\ i + 1 = ts.length then 0 else -1
def zEJ (xs:List OpR):Prop:=∀ t,¬ (zZ xs t 2 = true /\ zZ xs t 3 = true)
theorem zNC {xs:List OpR} (h:¬ Pr 3 xs):zEJ xs:=by
 rintro t ⟨h2,h3⟩
 obtain ⟨i,hi,e1,e2⟩:=(ZD _ _ _).1 h2
 obtain ⟨j,hj,f1,f2⟩:=(ZD _ _ _).1 h3
 have hne:i ≠ j:=fun e=>by subst e; omega
 apply h
 rcases Nat.lt_trichotomy i j with e | e | e
 ·exact ⟨j,i,e,hj,by simp [cl]; exact ⟨by rw [f1,e1],by omega⟩⟩
 ·exact absurd e hne
 ·exact ⟨i,j,e,hi,by simp [cl]; exact ⟨by rw [f1,e1],by omega⟩⟩
theorem zHa {xs:List OpR} {ts:List zK} (ha:zEJ xs):∀ i,i < ts.length -> zAs xs ts i -> zAG xs ts i = zBT xs ts i /\ opI ts i = (zBM ts i:Int)
 | 0,_,_=>⟨rfl,rfl⟩
 | i + 1,hi,hf=>by
  obtain ⟨h1,h2⟩:=zHa ha i (by omega) (fun j hj=>hf j (by omega))
  have hr:=hf i (by omega)
  unfold zN zn at hr
  have hl:decide (i + 1 = ts.length) = false:=by simp; omega
  rw [hl] at hr
  have h23:=ha (atT ts i).t
  simp only [zAG,zBT,opI,zBM,h1,h2,zCr,zBm,zBS]
  cases hb:zBT xs ts i
  ·rw [hb] at hr
   simp only [if_true] at hr
   by_cases k1:(atT ts i).k = 1 \/ (atT ts i).k = 2
   ·have k5:¬ (atT ts i).k = 5:=by omega
    have k4:¬ (atT ts i).k = 4:=by omega
    have k':(atT ts i).k = 1 \/ (atT ts i).k = 2 \/ (atT ts i).k = 5:=by omega
    simp [k1,k4,k5,k']
   ·have k5:¬ (atT ts i).k = 5:=by
     intro e
     rw [if_neg (by omega),if_neg (by omega)] at hr
     omega
    have k':¬ ((atT ts i).k = 1 \/ (atT ts i).k = 2 \/ (atT ts i).k = 5):=by omega
    by_cases k4:(atT ts i).k = 4
    ·simp [k1,k4,k5,k']
    ·simp [k1,k4,k5,k']
  ·rw [hb] at hr
   simp only [Bool.true_eq_false,if_false] at hr
   by_cases c2:(atT ts i).k = 3 /\ zZ xs (atT ts i).t 2 = true
   ·have c3:zZ xs (atT ts i).t 3 = false:=by
     cases h:zZ xs (atT ts i).t 3
     ·rfl
     ·exact absurd ⟨c2.2,h⟩ h23
    have k3:=c2.1
    simp [c2,c3,k3]
   ·rw [if_neg c2] at hr
    by_cases c3:(atT ts i).k = 3 /\ zZ xs (atT ts i).t 3 = true
    ·have c2':zZ xs (atT ts i).t 2 = false:=by
      cases h:zZ xs (atT ts i).t 2
      ·rfl
      ·exact absurd ⟨c3.1,h⟩ c2
     simp [c3,c2']
    ·rw [if_neg c3] at hr
     by_cases c5:(atT ts i).k = 5 /\ 0 < zBM ts i
     ·have k5:=c5.1
      have k0:=c5.2
      simp [k5]
      omega
     ·rw [if_neg c5] at hr
      simp at hr
theorem zOe {xs:List OpR} {ts:List zK} (ha:zEJ xs) (i:Nat) (hi:i < ts.length) (hf:zAs xs ts i):zAH xs ts i (zAG xs ts i) = zN xs ts i:=by
 obtain ⟨h1,h2⟩:=zHa ha i hi hf
 rw [h1]
 unfold zAH zN zn
 rw [h2]
 simp
end Go.Proofs.YtokabkhnidlcnacGreatDoor
namespace Go.Proofs.YtokabkhnidlcnacGreatDoor
set_option maxHeartbeats 16000000
set_option maxRecDepth 100000
open Go.RowKit
def ZH (l:List UInt8):List Value:=l.map fun b=>.int .u8 (b.toNat:Int)
theorem zBn (l:List UInt8):(ZH l).length = l.length:=by simp [ZH]
theorem zCJ (l l':List UInt8):ZH (l ++ l') = ZH l ++ ZH l':=by simp [ZH]
theorem zGH (l:List UInt8):∀ u ∈ ZH l,u.oneCell' = true:=by
 intro u hu
 simp only [ZH,List.mem_map] at hu
 obtain ⟨b,_,rfl⟩:=hu
 rfl
theorem zGI (W:World) (s:ByteArray):∃ (c:Nat) (W':World),(convert 9 121 (.string s)).run Tryz.prog W = .ok (.slice (some ⟨W.heap.size,0,none⟩) s.size c) W' /\
  (∀ j u,(ZH s.data.toList)[j]? = some u -> W'.cell? ((⟨W.heap.size,0,none⟩:Addr).add j) = some u) /\ Below W.heap.size W W':=by
 refine ⟨_,_,run_bytes_of_string (P:=Tryz.prog) W 9 121 5 s Tryz.underlying9 Tryz.underlying121 Tryz.underlying5,?_,?_⟩
 ·intro j u hj
  rw [Addr.add_mid,Nat.zero_add]
  have hlt:j < s.size:=by
   have:=(List.getElem?_eq_some_iff.1 hj).1
   rw [zBn] at this
   simpa using this
  rw [cell_of_row _ W.heap.size j (bytesRow s (grownCap W s.size 0 5)) 5 _ (heap_alloc_new W.drew _)]
  have:j < s.data.size:=hlt
  simp only [bytesRow]
  rw [Array.getElem?_append_left (by simpa using this)]
  simp only [ZH,List.getElem?_map] at hj
  simpa using hj
 ·exact (Below.refl _ _).drew.alloc (Nat.le_refl _) _
theorem zJR (W:World) (g n c:Nat) (l:List UInt8) (hn:n = l.length) (h:∀ j u,(ZH l)[j]? = some u -> W.cell? ((⟨g,0,none⟩:Addr).add j) = some u) :
  (convert 121 9 (.slice (some ⟨g,0,none⟩) n c)).run Tryz.prog W = .ok (.string ⟨l.toArray⟩) W:=by
 rw [run_convert_bytes_string _ 121 9 5 _ _ _ Tryz.underlying121 Tryz.underlying5 Tryz.underlying9]
 have hl:(loadCells ⟨g,0,none⟩ n).run Tryz.prog W = .ok ((l.map fun b=>(b.toNat:Int)).map (Value.int .u8)).toArray W:=by
  have:=run_loadCells_list (P:=Tryz.prog) W ⟨g,0,none⟩ (ZH l) h
  rw [zBn,<- hn] at this
  rw [this]
  simp [ZH]
 rw [run_bytesToString _ ⟨g,0,none⟩ n c _ hl]
 congr 2
 clear hl h hn
 have key:∀ (l:List UInt8) (acc:ByteArray),List.foldl (fun (r:ByteArray) (n:Int)=>r.push (UInt8.ofNat n.toNat)) acc (l.map fun b=>(b.toNat:Int)) = ⟨(acc.data.toList ++ l).toArray⟩:=by
  intro l
  induction l with
  | nil=>intro acc; simp
  | cons b r ih=>
   intro acc
   rw [List.map_cons,List.foldl_cons,ih]
   congr 1
   simp [ByteArray.push]
 rw [key]
 simp
theorem infoByte:(Tryz.prog.info? 5).map (fun i=>(i.zero,i.size,i.bytes)) = some (some (.int .u8 0),1,1):=by kernel_rfl
def ZP (xs:List zK):Nat -> List UInt8
 | 0=>[]
 | k + 1=>ZP xs k ++ (atT xs k).g.data.toList ++ (atT xs k).t.data.toList
theorem zBo (xs:List zK):∀ k,(ZP xs k).length = zy xs k
 | 0=>rfl
 | k + 1=>by
  have:=zBo xs k
  simp only [ZP,zy,zM5,List.length_append,this]
  simp
  omega
theorem zDC (xs:List zK):∀ k n,k <= n -> zy xs k <= zy xs n
 | k,0,h=>by
  have:k = 0:=by omega
  subst this; exact Nat.le_refl _
 | k,n + 1,h=>by
  by_cases e:k = n + 1
  ·subst e; exact Nat.le_refl _
  ·have:=zDC xs k n (by omega)
   simp only [zy]
   omega
theorem ZF {w:World} {base n size:Nat} {e:TypeId} {v:Value} {xs:List Value} (h:w.ownsRow base e size v n xs) (hv:v ≠ .slice none 0 0):∃ g cap,v = .slice (some ⟨g,0,none⟩) n cap:=by
 obtain ⟨_,h | ⟨g,cap,cur,hv',_⟩⟩:=h
 ·exact absurd h.1 hv
 ·exact ⟨g,cap,hv'⟩
theorem zJS {w:World} {base g cap n:Nat} {e:TypeId} {l:List UInt8} (h:w.ownsRow base e 1 (.slice (some ⟨g,0,none⟩) n cap) n (ZH l)):∀ j u,(ZH l)[j]? = some u -> w.cell? ((⟨g,0,none⟩:Addr).add j) = some u:=
 h.cells rfl
theorem Z5 {w w':World} (h:Below w.heap.size w w') (row:Option Nat):w.grownBy w' row:=⟨h.os,h.tape,h.output,h.size,fun i hi _=>h.block i hi⟩
end Go.Proofs.YtokabkhnidlcnacGreatDoor
