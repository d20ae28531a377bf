import Derived.Laws.IdiomStrings
import Derived.Laws.BytesString
import Derived.OwnWalk
import Derived.Laws.OwnMore
import Derived.Test.YtgiemobdmbijiaaGreatDoorN00
import Derived.Test.YtgiemobdmbijiaaGreatDoorN02
import Derived.Test.YtgiemobdmbijiaaGreatDoorN06
import Derived.Test.YtgiemobdmbijiaaGreatDoorN10
namespace Go.Proofs.YtgiemobdmbijiaaGreatDoor
set_option linter.unusedSimpArgs false
set_option linter.unusedVariables false
set_option maxHeartbeats 16000000
set_option maxRecDepth 100000
open Go.RowKit
open Go.Deep (BT)
def opS (op:Int) (s:SyR):Int:=op + (if s.1 = 6 then 1 else 0) - (if s.1 = 7 then 1 else 0)
def opL (op:Int) (ss:List SyR):Int:=ss.foldl opS op
def zA2 (ns:List OpR) (best:Option (Nat × SyR)) (x:Nat × SyR):Option (Nat × SyR):=match best with
 | none=>some x
 | some b=>if sLv ns x.2 < sLv ns b.2 \/ (sLv ns x.2 = sLv ns b.2 /\ sSo ns x.2 ≠ 2) then some x else some b
def rtF (ns:List OpR):List SyR -> Nat -> Int -> Option (Nat × SyR) -> Option (Nat × SyR)
 | [],_,_,best=>best
 | s :: r,i,op,best=>rtF ns r (i + 1) (opS op s) (if opS op s ≠ 0 \/ ¬ (3 <= s.1 /\ s.1 <= 5) then best else zA2 ns best (i,s))
theorem zBd (op:Int) (a b:List SyR):opL op (a ++ b) = opL (opL op a) b:=by simp [opL]
theorem Zd (op:Int) (s:SyR) (r:List SyR):opL op (s :: r) = opL (opS op s) r:=rfl
theorem zv (ns:List OpR):∀ (a b:List SyR) (i:Nat) (op:Int) (best:Option (Nat × SyR)),rtF ns (a ++ b) i op best = rtF ns b (i + a.length) (opL op a) (rtF ns a i op best)
 | [],b,i,op,best=>rfl
 | s :: r,b,i,op,best=>by
  simp only [List.cons_append,rtF,List.length_cons,Zd]
  rw [zv ns r b]
  congr 1
  omega
theorem zf {op:Int} {s:SyR} (h:s.1 ≠ 6 /\ s.1 ≠ 7):opS op s = op:=by
 unfold opS
 rw [if_neg h.1,if_neg h.2]
 omega
theorem zBL {op:Int}:opS op (6,opn) = op + 1:=by simp [opS]
theorem zC8 {op:Int}:opS op (7,zBw) = op - 1:=by simp [opS]
theorem zBe {b:Nat} {t:ByteArray} (h:b = 1 \/ b = 2):ySy (.node b 0 t .nil .nil) = [(b,t)]:=by
 simp only [ySy]
 rw [if_neg (by omega),if_neg (by omega),if_neg (by omega),if_neg (by omega)]
theorem zCJ {t:ByteArray} {l r:ET}:ySy (.node 6 0 t l r) = (6,opn) :: (ySy l ++ [(7,zBw)]):=by simp [ySy]
theorem zCK {t:ByteArray} {l r:ET}:ySy (.node 3 0 t l r) = (3,t) :: ySy l:=by simp [ySy]
theorem zBf {t:ByteArray} {l r:ET}:ySy (.node 5 0 t l r) = ySy l ++ [(5,t)]:=by simp [ySy]
theorem zCL {t:ByteArray} {l r:ET}:ySy (.node 4 0 t l r) = ySy l ++ ((4,t) :: ySy r):=by simp [ySy]
theorem zBM {ns:List OpR}:∀ (T:ET),Zk ns T -> ∀ op,opL op (ySy T) = op:=by
 intro T
 induction T with
 | nil=>intro h; exact h.elim
 | node b o t l r ihl ihr=>
  rintro ⟨rfl,h⟩ op
  rcases h with ⟨h12,rfl,rfl⟩ | ⟨rfl,rfl,hl,rfl⟩ | ⟨h35,hk,hl,rfl,hh⟩ | ⟨rfl,hk,hl,hr,h1,h2⟩
  ·rw [zBe h12,Zd,zf ⟨by simp; omega,by simp; omega⟩]
   rfl
  ·rw [zCJ,Zd,zBL,zBd,ihl hl,Zd,zC8]
   show op + 1 - 1 = op
   omega
  ·rcases h35 with rfl | rfl
   ·rw [zCK,Zd,zf ⟨by simp,by simp⟩,ihl hl]
   ·rw [zBf,zBd,ihl hl,Zd,zf ⟨by simp,by simp⟩]
    rfl
  ·rw [zCL,zBd,ihl hl,Zd,zf ⟨by simp,by simp⟩,ihr hr]
theorem zDW {ns:List OpR}:∀ (T:ET),Zk ns T -> ∀ (i:Nat) (op:Int) best,0 < op -> rtF ns (ySy T) i op best = best:=by
 intro T
 induction T with
 | nil=>intro h; exact h.elim
 | node b o t l r ihl ihr=>
  rintro ⟨rfl,h⟩ i op best hop
  rcases h with ⟨h12,rfl,rfl⟩ | ⟨rfl,rfl,hl,rfl⟩ | ⟨h35,hk,hl,rfl,hh⟩ | ⟨rfl,hk,hl,hr,h1,h2⟩
  ·rw [zBe h12]
   simp only [rtF]
   rw [if_pos]
   exact Or.inr (by simp; omega)
  ·rw [zCJ]
   simp only [rtF]
   rw [zBL,if_pos (Or.inl (by omega)),zv,ihl hl _ _ _ (by omega)]
   simp [rtF]
  ·rcases h35 with rfl | rfl
   ·rw [zCK]
    simp only [rtF]
    rw [zf ⟨by simp,by simp⟩,if_pos (Or.inl (by omega)),ihl hl _ _ _ hop]
   ·rw [zBf,zv,ihl hl _ _ _ hop,zBM l hl]
    simp only [rtF]
    rw [zf ⟨by simp,by simp⟩,if_pos (Or.inl (by omega))]
  ·rw [zCL,zv,ihl hl _ _ _ hop,zBM l hl]
   simp only [rtF]
   rw [zf ⟨by simp,by simp⟩,if_pos (Or.inl (by omega)),ihr hr _ _ _ hop]
theorem zIg {ns:List OpR} (hv:zZ ns 0) (b0:Nat × SyR) (hb:b0.2.1 = 3 \/ b0.2.1 = 4 \/ b0.2.1 = 5) (hkb:knB ns b0.2 = true):∀ (T:ET),Zk ns T -> ∀ (i:Nat),(sLv ns b0.2 < lvT ns T \/ (sLv ns b0.2 <= lvT ns T /\ sSo ns b0.2 = 2)) -> rtF ns (ySy T) i 0 (some b0) = some b0:=by
 intro T
 induction T with
 | nil=>intro h; exact h.elim
 | node b o t l r ihl ihr=>
  rintro ⟨rfl,h⟩ i hlv
  simp only [lvT] at hlv
  have pk:∀ (j:Nat) (s:SyR),(s.1 = 3 \/ s.1 = 4 \/ s.1 = 5) -> knB ns s = true -> (sLv ns b0.2 < sLv ns s \/ (sLv ns b0.2 <= sLv ns s /\ sSo ns b0.2 = 2)) -> zA2 ns (some b0) (j,s) = some b0:=fun j s hs hk hc=>by
   simp only [zA2]
   rw [if_neg]
   rintro (h | ⟨h1,h2⟩)
   ·omega
   ·have:=zEV hv hs hb hk hkb h1
    omega
  rcases h with ⟨h12,rfl,rfl⟩ | ⟨rfl,rfl,hl,rfl⟩ | ⟨h35,hk,hl,rfl,hh⟩ | ⟨rfl,hk,hl,hr,h1,h2⟩
  ·rw [zBe h12]
   simp only [rtF]
   rw [if_pos (Or.inr (by simp; omega))]
  ·rw [zCJ]
   simp only [rtF]
   rw [zBL,if_pos (Or.inl (by omega)),zv,zDW l hl _ _ _ (by omega)]
   simp [rtF]
  ·rcases h35 with rfl | rfl
   ·have f:=(opF hv (Or.inl rfl) hk).pre rfl
    rw [zCK]
    simp only [rtF]
    rw [zf ⟨by simp,by simp⟩,if_neg (by simp),pk _ _ (Or.inl rfl) hk hlv]
    exact ihl hl _ (by omega)
   ·have f:=(opF hv (Or.inr (Or.inr rfl)) hk).post rfl
    rw [zBf,zv,ihl hl _ (by omega),zBM l hl]
    simp only [rtF]
    rw [zf ⟨by simp,by simp⟩,if_neg (by simp),pk _ _ (Or.inr (Or.inr rfl)) hk hlv]
  ·have f:=(opF hv (Or.inr (Or.inl rfl)) hk).mid rfl
   rw [zCL,zv,ihl hl _ (by omega),zBM l hl]
   simp only [rtF]
   rw [zf ⟨by simp,by simp⟩,if_neg (by simp),pk _ _ (Or.inr (Or.inl rfl)) hk hlv]
   exact ihr hr _ (by omega)
def zC9 (ns:List OpR) (m:Int) (best:Option (Nat × SyR)):Prop:=∀ b,best = some b -> m <= sLv ns b.2
theorem zKe {ns:List OpR} (hv:zZ ns 0) (m:Int):∀ (T:ET),Zk ns T -> ∀ (i:Nat) best,m <= lvT ns T -> zC9 ns m best -> zC9 ns m (rtF ns (ySy T) i 0 best):=by
 intro T
 induction T with
 | nil=>intro h; exact h.elim
 | node b o t l r ihl ihr=>
  rintro ⟨rfl,h⟩ i best hlv hb
  simp only [lvT] at hlv
  have pk:∀ (j:Nat) (s:SyR) best,m <= sLv ns s -> zC9 ns m best -> zC9 ns m (zA2 ns best (j,s)):=fun j s best hs hb x hx=>by
   cases best with
   | none=>simp only [zA2,Option.some.injEq] at hx; subst hx; exact hs
   | some y=>
    simp only [zA2] at hx
    split at hx
    ·simp only [Option.some.injEq] at hx; subst hx; exact hs
    ·exact hb x hx
  rcases h with ⟨h12,rfl,rfl⟩ | ⟨rfl,rfl,hl,rfl⟩ | ⟨h35,hk,hl,rfl,hh⟩ | ⟨rfl,hk,hl,hr,h1,h2⟩
  ·rw [zBe h12]
   simp only [rtF]
   rw [if_pos (Or.inr (by simp; omega))]
   exact hb
  ·rw [zCJ]
   simp only [rtF]
   rw [zBL,if_pos (Or.inl (by omega)),zv,zDW l hl _ _ _ (by omega)]
   simpa [rtF] using hb
  ·rcases h35 with rfl | rfl
   ·have f:=(opF hv (Or.inl rfl) hk).pre rfl
    rw [zCK]
    simp only [rtF]
    rw [zf ⟨by simp,by simp⟩,if_neg (by simp)]
    exact ihl hl _ _ (by omega) (pk _ _ _ hlv hb)
   ·have f:=(opF hv (Or.inr (Or.inr rfl)) hk).post rfl
    rw [zBf,zv,zBM l hl]
    simp only [rtF]
    rw [zf ⟨by simp,by simp⟩,if_neg (by simp)]
    exact pk _ _ _ hlv (ihl hl _ _ (by omega) hb)
  ·have f:=(opF hv (Or.inr (Or.inl rfl)) hk).mid rfl
   rw [zCL,zv,zBM l hl]
   simp only [rtF]
   rw [zf ⟨by simp,by simp⟩,if_neg (by simp)]
   exact ihr hr _ _ (by omega) (pk _ _ _ hlv (ihl hl _ _ (by omega) hb))
def zA5 (ns:List OpR) (b:Nat) (t:ByteArray) (l r:ET):Bool:=decide (sH ns (b,t) false <= lvT ns l) && (decide (b ≠ 4) || decide (sH ns (b,t) true <= lvT ns r))
def bld (ns:List OpR):Nat -> List SyR -> Option ET
 | 0,_=>none
 | n + 1,ss=>match rtF ns ss 0 0 none with
  | none=>(match ss with
   | []=>none
   | s :: r=>if s.1 = 6 then (bld ns n r.dropLast).map (fun T=>.node 6 0 ByteArray.empty T .nil) else some (.node s.1 0 s.2 .nil .nil))
  | some x=>
   if (x.2.1 = 3 /\ x.1 ≠ 0) \/ (x.2.1 = 5 /\ x.1 + 1 ≠ ss.length) then none
   else if x.2.1 = 3 then (match bld ns n (ss.drop 1) with
    | none=>none
    | some T=>if zA5 ns 3 x.2.2 T .nil then some (.node 3 0 x.2.2 T .nil) else none)
   else if x.2.1 = 5 then (match bld ns n (ss.take x.1) with
    | none=>none
    | some T=>if zA5 ns 5 x.2.2 T .nil then some (.node 5 0 x.2.2 T .nil) else none)
   else (match bld ns n (ss.take x.1) with
    | none=>none
    | some T=>(match bld ns n (ss.drop (x.1 + 1)) with
     | none=>none
     | some T2=>if zA5 ns 4 x.2.2 T T2 then some (.node 4 0 x.2.2 T T2) else none))
theorem zIh {ns:List OpR} {m:Int}:zC9 ns m none:=fun b e=>by cases e
theorem zG1 {ns:List OpR} {m:Int} {best:Option (Nat × SyR)} {x:Nat × SyR} (h:zC9 ns m best) (hc:sLv ns x.2 < m \/ (sLv ns x.2 <= m /\ sSo ns x.2 ≠ 2)):zA2 ns best x = some x:=by
 cases best with
 | none=>rfl
 | some b=>
  have:=h b rfl
  simp only [zA2]
  rw [if_pos]
  by_cases e:sLv ns x.2 < sLv ns b.2
  ·exact Or.inl e
  ·refine Or.inr ⟨by omega,?_⟩
   rcases hc with hc | hc
   ·omega
   ·exact hc.2
theorem zLI {ns:List OpR} (hv:zZ ns 0):∀ (T:ET),Zk ns T -> ∀ n,tsz T <= n -> bld ns n (ySy T) = some T:=by
 intro T
 induction T with
 | nil=>intro h; exact h.elim
 | node b o t l r ihl ihr=>
  rintro ⟨rfl,h⟩ n hn
  simp only [tsz] at hn
  obtain ⟨n,rfl⟩:∃ m,n = m + 1:=⟨n - 1,by omega⟩
  rcases h with ⟨h12,rfl,rfl⟩ | ⟨rfl,rfl,hl,rfl⟩ | ⟨h35,hk,hl,rfl,hh⟩ | ⟨rfl,hk,hl,hr,h1,h2⟩
  ·have e:rtF ns [(b,t)] 0 0 none = none:=by
    simp only [rtF]
    rw [if_pos (Or.inr (by simp; omega))]
   rw [zBe h12]
   simp only [bld,e]
   rw [if_neg (by omega)]
  ·have e:rtF ns ((6,opn) :: (ySy l ++ [(7,zBw)])) 0 0 none = none:=by
    simp only [rtF]
    rw [zBL,if_pos (Or.inl (by omega)),zv,zDW l hl _ _ _ (by omega)]
    simp [rtF]
   rw [zCJ]
   simp only [bld,e]
   rw [if_pos trivial,List.dropLast_concat,ihl hl n (by omega)]
   rfl
  ·rcases h35 with rfl | rfl
   ·have f:=(opF hv (Or.inl rfl) hk).pre rfl
    have e:rtF ns ((3,t) :: ySy l) 0 0 none = some (0,(3,t)):=by
     simp only [rtF]
     rw [zf ⟨by simp,by simp⟩,if_neg (by simp)]
     exact zIg hv (0,(3,t)) (Or.inl rfl) hk l hl _ (Or.inr ⟨by show sLv ns (3,t) <= _; omega,f.2⟩)
    rw [zCK]
    simp only [bld,e]
    rw [if_neg (by simp),if_pos trivial,List.drop_succ_cons,List.drop_zero,ihl hl n (by omega)]
    simp [zA5,hh]
   ·have f:=(opF hv (Or.inr (Or.inr rfl)) hk).post rfl
    have e:rtF ns (ySy l ++ [(5,t)]) 0 0 none = some ((ySy l).length,(5,t)):=by
     rw [zv,zBM l hl]
     simp only [rtF]
     rw [zf ⟨by simp,by simp⟩,if_neg (by simp),Nat.zero_add]
     exact zG1 (zKe hv (sH ns (5,t) false) l hl 0 none hh zIh) (Or.inr ⟨by show sLv ns (5,t) <= _; omega,by show sSo ns (5,t) ≠ 2; omega⟩)
    rw [zBf]
    simp only [bld,e]
    rw [if_neg (by simp),if_neg (by decide),if_pos trivial,List.take_left,ihl hl n (by omega)]
    simp [zA5,hh]
  ·have f:=(opF hv (Or.inr (Or.inl rfl)) hk).mid rfl
   have e:rtF ns (ySy l ++ ((4,t) :: ySy r)) 0 0 none = some ((ySy l).length,(4,t)):=by
    rw [zv,zBM l hl]
    simp only [rtF]
    rw [zf ⟨by simp,by simp⟩,if_neg (by simp),Nat.zero_add,zG1 (zKe hv (sH ns (4,t) false) l hl 0 none h1 zIh) (by show sLv ns (4,t) < _ \/ (sLv ns (4,t) <= _ /\ sSo ns (4,t) ≠ 2); omega)]
    exact zIg hv ((ySy l).length,(4,t)) (Or.inr (Or.inl rfl)) hk r hr _ (by show sLv ns (4,t) < _ \/ (sLv ns (4,t) <= _ /\ sSo ns (4,t) = 2); omega)
   rw [zCL]
   simp only [bld,e]
   rw [if_neg (by simp),if_neg (by decide),if_neg (by decide),List.take_left,ihl hl n (by omega)]
   have ed:(ySy l ++ (4,t) :: ySy r).drop ((ySy l).length + 1) = ySy r:=by
    have:ySy l ++ (4,t) :: ySy r = (ySy l ++ [(4,t)]) ++ ySy r:=by simp
    rw [this]
    exact List.drop_left' (by simp)
   simp only [ed,ihr hr n (by omega)]
   simp [zA5,h1,h2]
theorem zFn {ns:List OpR}:∀ (ss:List SyR) (i:Nat) (op:Int) best x,rtF ns ss i op best = some x -> best = some x \/ ∃ L R,ss = L ++ x.2 :: R /\ x.1 = i + L.length /\ (3 <= x.2.1 /\ x.2.1 <= 5) /\ opL op L = 0
 | [],i,op,best,x,h=>Or.inl h
 | s :: r,i,op,best,x,h=>by
  simp only [rtF] at h
  have lift:(∃ L R,r = L ++ x.2 :: R /\ x.1 = i + 1 + L.length /\ (3 <= x.2.1 /\ x.2.1 <= 5) /\ opL (opS op s) L = 0) -> ∃ L R,s :: r = L ++ x.2 :: R /\ x.1 = i + L.length /\ (3 <= x.2.1 /\ x.2.1 <= 5) /\ opL op L = 0:=by
   rintro ⟨L,R,rfl,h1,h2,h3⟩
   exact ⟨s :: L,R,rfl,by simp; omega,h2,h3⟩
  rcases zFn r _ _ _ x h with hb | h'
  ·split at hb
   ·exact Or.inl hb
   ·rename_i hc
    have hc1:3 <= s.1 /\ s.1 <= 5:=Decidable.byContradiction fun h=>hc (Or.inr h)
    have hc2:opS op s = 0:=Decidable.byContradiction fun h=>hc (Or.inl h)
    have here:x = (i,s) -> ∃ L R,s :: r = L ++ x.2 :: R /\ x.1 = i + L.length /\ (3 <= x.2.1 /\ x.2.1 <= 5) /\ opL op L = 0:=by
     rintro rfl
     exact ⟨[],r,rfl,by simp,hc1,by rw [zf ⟨by omega,by omega⟩] at hc2; exact hc2⟩
    cases best with
    | none=>simp only [zA2,Option.some.injEq] at hb; exact Or.inr (here hb.symm)
    | some y=>
     simp only [zA2] at hb
     split at hb
     ·simp only [Option.some.injEq] at hb; exact Or.inr (here hb.symm)
     ·exact Or.inl hb
  ·exact Or.inr (lift h')
theorem zEW {ns:List OpR}:∀ (ss:List SyR) (i:Nat) (op:Int) b,rtF ns ss i op (some b) ≠ none
 | [],i,op,b,h=>by cases h
 | s :: r,i,op,b,h=>by
  simp only [rtF] at h
  split at h
  ·exact zEW r _ _ _ h
  ·simp only [zA2] at h
   split at h
   ·exact zEW r _ _ _ h
   ·exact zEW r _ _ _ h
theorem zJm {ns:List OpR} {L R:List SyR} {s:SyR} (hs:3 <= s.1 /\ s.1 <= 5) (ho:opL 0 L = 0):rtF ns (L ++ s :: R) 0 0 none ≠ none:=by
 rw [zv,ho]
 simp only [rtF]
 rw [zf ⟨by omega,by omega⟩,if_neg (fun h=>by rcases h with h | h; exact h rfl; exact h hs)]
 cases rtF ns L 0 0 none with
 | none=>exact zEW _ _ _ _
 | some b=>
  simp only [zA2]
  split
  ·exact zEW _ _ _ _
  ·exact zEW _ _ _ _
theorem zHm {ns:List OpR}:∀ (ss:List SyR) (st st':Bool × Nat),zAE ns st ss = some st' -> opL (st.2:Int) ss = (st'.2:Int)
 | [],st,st',h=>by simp only [zAE,Option.some.injEq] at h; subst h; rfl
 | s :: r,(false,d),st',h=>by
  simp only [zAE] at h
  cases e:auS ns (false,d) s with
  | none=>rw [e] at h; cases h
  | some s1=>
   rw [e] at h
   have:=zHm r s1 st' h
   rw [Zd]
   rcases zCm e with ⟨a,rfl⟩ | ⟨a,_,rfl⟩ | ⟨rfl,rfl⟩
   ·rw [zf ⟨by omega,by omega⟩]; exact this
   ·rw [zf ⟨by omega,by omega⟩]; exact this
   ·rw [zBL]; simpa using this
 | s :: r,(true,d),st',h=>by
  simp only [zAE] at h
  cases e:auS ns (true,d) s with
  | none=>rw [e] at h; cases h
  | some s1=>
   rw [e] at h
   have:=zHm r s1 st' h
   rw [Zd]
   rcases zD0 e with ⟨a,_,rfl⟩ | ⟨a,_,rfl⟩ | ⟨rfl,hd,rfl⟩
   ·rw [zf ⟨by omega,by omega⟩]; exact this
   ·rw [zf ⟨by omega,by omega⟩]; exact this
   ·rw [zC8]
    have e2:((d - 1:Nat):Int) = (d:Int) - 1:=by omega
    simpa [e2] using this
theorem zAF {ns:List OpR}:∀ (r:List SyR) (bh:Bool) (d j:Nat) (st:Bool × Nat),zAE ns (bh,d + 1 + j) r = some st -> st.2 <= d -> ∃ r1 r2,r = r1 ++ (7,zBw) :: r2 /\ zAE ns (bh,j) r1 = some (true,0) /\ zAE ns (true,d) r2 = some st
 | [],bh,d,j,st,h,hd=>by
  simp only [zAE,Option.some.injEq] at h
  subst h
  simp only at hd
  omega
 | s :: r,false,d,j,st,h,hd=>by
  simp only [zAE] at h
  cases e:auS ns (false,d + 1 + j) s with
  | none=>rw [e] at h; cases h
  | some s1=>
   rw [e] at h
   simp only at h
   rcases zCm e with ⟨a,rfl⟩ | ⟨a,hk,rfl⟩ | ⟨rfl,rfl⟩
   ·obtain ⟨r1,r2,rfl,h1,h2⟩:=zAF r true d j st h hd
    exact ⟨s :: r1,r2,rfl,by simp only [zAE,zKb a]; exact h1,h2⟩
   ·obtain ⟨r1,r2,rfl,h1,h2⟩:=zAF r false d j st h hd
    exact ⟨s :: r1,r2,rfl,by simp only [zAE,zL8 a hk]; exact h1,h2⟩
   ·obtain ⟨r1,r2,rfl,h1,h2⟩:=zAF r false d (j + 1) st h hd
    exact ⟨(6,opn) :: r1,r2,rfl,by simp only [zAE,zKc]; exact h1,h2⟩
 | s :: r,true,d,j,st,h,hd=>by
  simp only [zAE] at h
  cases e:auS ns (true,d + 1 + j) s with
  | none=>rw [e] at h; cases h
  | some s1=>
   rw [e] at h
   simp only at h
   rcases zD0 e with ⟨a,hk,rfl⟩ | ⟨a,hk,rfl⟩ | ⟨rfl,_,rfl⟩
   ·obtain ⟨r1,r2,rfl,h1,h2⟩:=zAF r false d j st h hd
    exact ⟨s :: r1,r2,rfl,by simp only [zAE,zL9 a hk]; exact h1,h2⟩
   ·obtain ⟨r1,r2,rfl,h1,h2⟩:=zAF r true d j st h hd
    exact ⟨s :: r1,r2,rfl,by simp only [zAE,zKd a hk]; exact h1,h2⟩
   ·cases j with
    | zero=>exact ⟨[],r,rfl,rfl,by simpa using h⟩
    | succ j=>
     have e2:d + 1 + (j + 1) - 1 = d + 1 + j:=by omega
     rw [e2] at h
     obtain ⟨r1,r2,rfl,h1,h2⟩:=zAF r true d j st h hd
     exact ⟨(7,zBw) :: r1,r2,rfl,by simp only [zAE,zIf]; exact h1,h2⟩
def Seg (ns:List OpR) (ss:List SyR):Prop:=zAE ns (false,0) ss = some (true,0)
theorem Seg.ne {ns:List OpR} {ss:List SyR} (h:Seg ns ss):ss ≠ []:=fun e=>by
 subst e
 unfold Seg at h
 simp [zAE] at h
theorem zIi {ns:List OpR} {ss:List SyR} (h:Seg ns ss) (hr:rtF ns ss 0 0 none = none):(∃ s,(s.1 = 1 \/ s.1 = 2) /\ ss = [s]) \/ ∃ q,ss = (6,opn) :: (q ++ [(7,zBw)]) /\ Seg ns q:=by
 have tail:∀ (L R:List SyR),ss = L ++ R -> opL 0 L = 0 -> zAE ns (true,0) R = some (true,0) -> R = []:=fun L R e ho hR=>by
  cases R with
  | nil=>rfl
  | cons z R=>
   exfalso
   simp only [zAE] at hR
   cases ea:auS ns (true,0) z with
   | none=>rw [ea] at hR; cases hR
   | some st=>
    rcases zD0 ea with ⟨a,_,_⟩ | ⟨a,_,_⟩ | ⟨_,hd,_⟩
    ·exact zJm (ns:=ns) (L:=L) (R:=R) (s:=z) (by omega) ho (e ▸ hr)
    ·exact zJm (ns:=ns) (L:=L) (R:=R) (s:=z) (by omega) ho (e ▸ hr)
    ·omega
 cases ss with
 | nil=>exact absurd rfl h.ne
 | cons s r=>
  unfold Seg at h
  simp only [zAE] at h
  cases e:auS ns (false,0) s with
  | none=>rw [e] at h; cases h
  | some st=>
   rw [e] at h
   simp only at h
   rcases zCm e with ⟨a,rfl⟩ | ⟨a,hk,rfl⟩ | ⟨rfl,rfl⟩
   ·have:=tail [s] r rfl (by rw [Zd,zf ⟨by omega,by omega⟩]; rfl) h
    subst this
    exact Or.inl ⟨s,a,rfl⟩
   ·exact absurd hr (zJm (ns:=ns) (L:=[]) (R:=r) (s:=s) (by omega) rfl)
   ·obtain ⟨r1,r2,rfl,h1,h2⟩:=zAF r false 0 0 (true,0) h (Nat.le_refl _)
    have ho:=zHm r1 _ _ h1
    have:=tail ((6,opn) :: (r1 ++ [(7,zBw)])) r2 (by simp) (by
     rw [Zd,zBL,zBd]
     have sh:∀ (l:List SyR) (a b:Int),opL (a + b) l = opL a l + b:=fun l=>by
      induction l with
      | nil=>intro a b; rfl
      | cons z l ih=>
       intro a b
       rw [Zd,Zd]
       have:opS (a + b) z = opS a z + b:=by unfold opS; omega
       rw [this,ih]
     rw [sh r1 0 1]
     simp only at ho
     have ho':opL 0 r1 = 0:=by simpa using ho
     rw [ho',Zd,zC8]
     rfl) h2
    subst this
    exact Or.inr ⟨r1,by simp,h1⟩
theorem zIj {ns:List OpR} {ss:List SyR} (h:Seg ns ss) {x:Nat × SyR} (hr:rtF ns ss 0 0 none = some x):∃ L R,ss = L ++ x.2 :: R /\ x.1 = L.length /\ knB ns x.2 = true /\
  ((x.2.1 = 3 /\ (L = [] -> Seg ns R)) \/ (x.2.1 = 5 /\ Seg ns L) \/ (x.2.1 = 4 /\ Seg ns L /\ Seg ns R)):=by
 rcases zFn ss 0 0 none x hr with hb | ⟨L,R,rfl,h1,h2,h3⟩
 ·cases hb
 ·refine ⟨L,R,rfl,by omega,?_⟩
  unfold Seg at h
  rw [zCl] at h
  cases e:zAE ns (false,0) L with
  | none=>rw [e] at h; cases h
  | some st=>
   rw [e] at h
   have ho:=zHm L _ _ e
   obtain ⟨bh,d⟩:=st
   simp only at ho h
   have hd:d = 0:=by
    have h3':opL ((0:Nat):Int) L = 0:=h3
    omega
   subst hd
   simp only [zAE] at h
   cases ea:auS ns (bh,0) x.2 with
   | none=>rw [ea] at h; cases h
   | some st'=>
    rw [ea] at h
    simp only at h
    cases bh with
    | false=>
     rcases zCm ea with ⟨a,rfl⟩ | ⟨a,hk,rfl⟩ | ⟨a,rfl⟩
     ·omega
     ·exact ⟨hk,Or.inl ⟨a,fun _=>h⟩⟩
     ·rw [a] at h2; exact absurd h2.2 (by decide)
    | true=>
     rcases zD0 ea with ⟨a,hk,rfl⟩ | ⟨a,hk,rfl⟩ | ⟨a,_,rfl⟩
     ·exact ⟨hk,Or.inr (Or.inr ⟨a,e,h⟩)⟩
     ·exact ⟨hk,Or.inr (Or.inl ⟨a,e⟩)⟩
     ·rw [a] at h2; exact absurd h2.2 (by decide)
theorem Zr {ns:List OpR} (hv:zZ ns 0):∀ (n:Nat) (ss:List SyR) (T:ET),Seg ns ss -> bld ns n ss = some T -> Zk ns T /\ ySy T = ss
 | 0,_,_,_,h=>by simp [bld] at h
 | n + 1,ss,T,hs,h=>by
  simp only [bld] at h
  split at h
  ·rename_i hr
   rcases zIi hs hr with ⟨s,hs12,rfl⟩ | ⟨q,rfl,hq⟩
   ·simp only at h
    rw [if_neg (by omega)] at h
    injection h with h
    subst h
    refine ⟨⟨rfl,Or.inl ⟨hs12,rfl,rfl⟩⟩,?_⟩
    rw [zBe hs12]
   ·simp only at h
    rw [if_pos trivial,List.dropLast_concat] at h
    obtain ⟨T1,h1,rfl⟩:=Option.map_eq_some_iff.1 h
    obtain ⟨g,e⟩:=Zr hv n q T1 hq h1
    exact ⟨⟨rfl,Or.inr (Or.inl ⟨rfl,rfl,g,rfl⟩)⟩,by rw [zCJ,e]⟩
  ·rename_i x hr
   obtain ⟨L,R,rfl,hx,hk,hc⟩:=zIj hs hr
   split at h
   ·cases h
   ·rename_i hn
    have ed:∀ m,m = L.length + 1 -> (L ++ x.2 :: R).drop m = R:=fun m hm=>by
     subst hm
     have:L ++ x.2 :: R = (L ++ [x.2]) ++ R:=by simp
     rw [this]
     exact List.drop_left' (by simp)
    rcases hc with ⟨a,hR⟩ | ⟨a,hL⟩ | ⟨a,hL,hR⟩
    ·have hL0:L = []:=by
      have:x.1 = 0:=Decidable.byContradiction fun h=>hn (Or.inl ⟨a,h⟩)
      exact List.eq_nil_of_length_eq_zero (by omega)
     subst hL0
     rw [if_pos a] at h
     simp only [List.nil_append,List.drop_succ_cons,List.drop_zero] at h
     split at h
     ·cases h
     ·rename_i T1 h1
      split at h
      ·rename_i hf
       injection h with h
       subst h
       obtain ⟨g,e⟩:=Zr hv n R T1 (hR rfl) h1
       have es:((3,x.2.2):SyR) = x.2:=Prod.ext a.symm rfl
       simp only [zA5,Bool.and_eq_true,decide_eq_true_eq] at hf
       refine ⟨⟨rfl,Or.inr (Or.inr (Or.inl ⟨Or.inl rfl,by rw [es]; exact hk,g,rfl,hf.1⟩))⟩,?_⟩
       rw [zCK,e,es]
       rfl
      ·cases h
    ·have hR0:R = []:=by
      have:x.1 + 1 = (L ++ x.2 :: R).length:=Decidable.byContradiction fun h=>hn (Or.inr ⟨a,h⟩)
      simp only [List.length_append,List.length_cons] at this
      exact List.eq_nil_of_length_eq_zero (by omega)
     subst hR0
     rw [if_neg (by omega),if_pos a,hx,List.take_left] at h
     split at h
     ·cases h
     ·rename_i T1 h1
      split at h
      ·rename_i hf
       injection h with h
       subst h
       obtain ⟨g,e⟩:=Zr hv n L T1 hL h1
       have es:((5,x.2.2):SyR) = x.2:=Prod.ext a.symm rfl
       simp only [zA5,Bool.and_eq_true,decide_eq_true_eq] at hf
       refine ⟨⟨rfl,Or.inr (Or.inr (Or.inl ⟨Or.inr rfl,by rw [es]; exact hk,g,rfl,hf.1⟩))⟩,?_⟩
       rw [zBf,e,es]
      ·cases h
    ·rw [if_neg (by omega),if_neg (by omega),hx,List.take_left,ed _ rfl] at h
     split at h
     ·cases h
     ·rename_i T1 h1
      split at h
      ·cases h
      ·rename_i T2 h2
       split at h
       ·rename_i hf
        injection h with h
        subst h
        obtain ⟨g,e⟩:=Zr hv n L T1 hL h1
        obtain ⟨g2,e2⟩:=Zr hv n R T2 hR h2
        have es:((4,x.2.2):SyR) = x.2:=Prod.ext a.symm rfl
        simp only [zA5,Bool.and_eq_true,Bool.or_eq_true,decide_eq_true_eq,ne_eq,not_true,false_or] at hf
        refine ⟨⟨rfl,Or.inr (Or.inr (Or.inr ⟨rfl,by rw [es]; exact hk,g,g2,hf.1,hf.2⟩))⟩,?_⟩
        rw [zCL,e,e2,es]
       ·cases h
theorem zOp {ns:List OpR}:∀ (T:ET),Zk ns T -> tsz T <= (ySy T).length:=by
 intro T
 induction T with
 | nil=>intro h; exact h.elim
 | node b o t l r ihl ihr=>
  rintro ⟨rfl,h⟩
  rcases h with ⟨h12,rfl,rfl⟩ | ⟨rfl,rfl,hl,rfl⟩ | ⟨h35,hk,hl,rfl,hh⟩ | ⟨rfl,hk,hl,hr,h1,h2⟩
  ·rw [zBe h12]; simp [tsz]
  ·have:=ihl hl
   rw [zCJ]; simp [tsz]; omega
  ·have:=ihl hl
   rcases h35 with rfl | rfl
   ·rw [zCK]; simp [tsz]; omega
   ·rw [zBf]; simp [tsz]; omega
  ·have:=ihl hl
   have:=ihr hr
   rw [zCL]; simp [tsz]; omega
theorem zOq {ns:List OpR} (hv:zZ ns 0) {ss:List SyR} (hs:Seg ns ss) {n:Nat} (hn:ss.length <= n) (T:ET):bld ns n ss = some T ↔ RD ns 0 none (ss ++ [eoS]) = some (T,[eoS]):=by
 rw [<- zOn hv hs T]
 constructor
 ·exact Zr hv n ss T hs
 ·rintro ⟨g,rfl⟩
  exact zLI hv T g n (Nat.le_trans (zOp T g) hn)
end Go.Proofs.YtgiemobdmbijiaaGreatDoor
namespace Go.Proofs.YtgiemobdmbijiaaGreatDoor
set_option linter.unusedSimpArgs false
set_option maxHeartbeats 16000000
set_option maxRecDepth 100000
open Go.RowKit
def zPX (xs:List OpR) (t:ByteArray) (k:Int):Prop:=∃ j,j < xs.length /\ (atO xs j).s = t /\ (atO xs j).k = k
def Zl (xs:List OpR) (t:ByteArray) (k:Int):Bool:=(List.range xs.length).any fun j=>(atO xs j).s.data == t.data && (atO xs j).k == k
theorem zAG (xs:List OpR) (t:ByteArray) (k:Int):Zl xs t k = true ↔ zPX xs t k:=by
 have e:∀ a b:ByteArray,(a.data = b.data) ↔ a = b:=fun a b=>⟨fun h=>by cases a; cases b; simp_all,fun h=>by rw [h]⟩
 simp [Zl,zPX,List.any_eq_true,e]
def zCo (xs:List OpR) (last:Bool) (t:zT) (bh:Bool) (op:Nat):Int:=
 if bh = false then
  if t.k = 1 \/ t.k = 2 \/ t.k = 4 then 0 else if t.k = 3 /\ Zl xs t.t 1 = true then 1 else -1
 else
  if t.k = 3 /\ Zl xs t.t 2 = true then 2 else if t.k = 3 /\ Zl xs t.t 3 = true then 3
  else if t.k = 5 /\ 0 < op then 0 else if t.k = 7 /\ op = 0 /\ last = true then 0 else -1
def zIk (xs:List OpR) (t:zT) (bh:Bool):Bool:=
 if bh = false then (if t.k = 1 \/ t.k = 2 then true else false) else (if t.k = 3 /\ Zl xs t.t 2 = true then false else true)
def zIl (t:zT) (op:Nat):Nat:=if t.k = 4 then op + 1 else if t.k = 5 then op - 1 else op
def zEX (xs:List OpR) (ts:List zT):Nat -> Bool
 | 0=>false
 | i + 1=>zIk xs (atT ts i) (zEX xs ts i)
def zEY (ts:List zT):Nat -> Nat
 | 0=>0
 | i + 1=>zIl (atT ts i) (zEY ts i)
def zd (xs:List OpR) (ts:List zT) (i:Nat):Int:=zCo xs (decide (i + 1 = ts.length)) (atT ts i) (zEX xs ts i) (zEY ts i)
def Zn (xs:List OpR) (ts:List zT) (k:Nat):List Int:=(List.range k).map (zd xs ts)
theorem zHn (xs:List OpR) (ts:List zT) (k:Nat):Zn xs ts (k + 1) = Zn xs ts k ++ [zd xs ts k]:=by
 simp [Zn,List.range_succ]
theorem Zu (xs:List OpR) (ts:List zT) (k:Nat):(Zn xs ts k).length = k:=by simp [Zn]
def zCX (xs:List OpR) (ts:List zT) (k:Nat):Prop:=∀ i,i < k -> 0 <= zd xs ts i
def zNi (xs:List OpR) (ok:Prop) (ts:List zT) (us:List Int) (c:Int):Prop:=
 (¬ ok /\ us = [] /\ c = 0) \/
 (ok /\ ((∃ i,i < ts.length /\ zCX xs ts i /\ zd xs ts i < 0 /\ us = [] /\ c = (i:Int)) \/
  (zCX xs ts ts.length /\ (((0 < ts.length /\ (atT ts (ts.length - 1)).k = 7) /\ us = Zn xs ts ts.length /\ c = -1) \/ (¬ (0 < ts.length /\ (atT ts (ts.length - 1)).k = 7) /\ us = [] /\ c = (ts.length:Int))))))
def zCM (xs:List OpR) (t:zT) (st:Bool):Bool:=decide (t.k = 1 \/ t.k = 2 \/ t.k = 5) || (decide (t.k = 3) && st && Zl xs t.t 3)
def zAH (xs:List OpR) (ts:List zT):Nat -> Bool
 | 0=>false
 | i + 1=>zCM xs (atT ts i) (zAH xs ts i)
def opI (ts:List zT):Nat -> Int
 | 0=>0
 | i + 1=>opI ts i + (if (atT ts i).k = 4 then 1 else 0) - (if (atT ts i).k = 5 then 1 else 0)
def zAI (xs:List OpR) (ts:List zT) (i:Nat) (bh:Bool):Int:=
 if bh = false then
  if (atT ts i).k = 1 \/ (atT ts i).k = 2 \/ (atT ts i).k = 4 then 0 else if (atT ts i).k = 3 /\ Zl xs (atT ts i).t 1 = true then 1 else -1
 else
  if (atT ts i).k = 3 /\ Zl xs (atT ts i).t 2 = true then 2 else if (atT ts i).k = 3 /\ Zl xs (atT ts i).t 3 = true then 3
  else if (atT ts i).k = 5 /\ 0 < opI ts i then 0 else if (atT ts i).k = 7 /\ opI ts i = 0 /\ i + 1 = ts.length then 0 else -1
def zFN (xs:List OpR):Prop:=∀ t,¬ (Zl xs t 2 = true /\ Zl xs t 3 = true)
theorem zMA {xs:List OpR} (h:¬ Pr 3 xs):zFN xs:=by
 rintro t ⟨h2,h3⟩
 obtain ⟨i,hi,e1,e2⟩:=(zAG _ _ _).1 h2
 obtain ⟨j,hj,f1,f2⟩:=(zAG _ _ _).1 h3
 have hne:i ≠ j:=fun e=>by subst e; omega
 apply h
 rcases Nat.lt_trichotomy i j with e | e | e
 ·exact ⟨j,i,e,hj,by simp [cl]; exact ⟨by rw [f1,e1],by omega⟩⟩
 ·exact absurd e hne
 ·exact ⟨i,j,e,hi,by simp [cl]; exact ⟨by rw [f1,e1],by omega⟩⟩
theorem zG2 {xs:List OpR} {ts:List zT} (ha:zFN xs):∀ i,i < ts.length -> zCX xs ts i -> zAH xs ts i = zEX xs ts i /\ opI ts i = (zEY ts i:Int)
 | 0,_,_=>⟨rfl,rfl⟩
 | i + 1,hi,hf=>by
  obtain ⟨h1,h2⟩:=zG2 ha i (by omega) (fun j hj=>hf j (by omega))
  have hr:=hf i (by omega)
  unfold zd zCo at hr
  have hl:decide (i + 1 = ts.length) = false:=by simp; omega
  rw [hl] at hr
  have h23:=ha (atT ts i).t
  simp only [zAH,zEX,opI,zEY,h1,h2,zCM,zIk,zIl]
  cases hb:zEX xs ts i
  ·rw [hb] at hr
   simp only [if_true] at hr
   by_cases k1:(atT ts i).k = 1 \/ (atT ts i).k = 2
   ·have k5:¬ (atT ts i).k = 5:=by omega
    have k4:¬ (atT ts i).k = 4:=by omega
    have k':(atT ts i).k = 1 \/ (atT ts i).k = 2 \/ (atT ts i).k = 5:=by omega
    simp [k1,k4,k5,k']
   ·have k5:¬ (atT ts i).k = 5:=by
     intro e
     rw [if_neg (by omega),if_neg (by omega)] at hr
     omega
    have k':¬ ((atT ts i).k = 1 \/ (atT ts i).k = 2 \/ (atT ts i).k = 5):=by omega
    by_cases k4:(atT ts i).k = 4
    ·simp [k1,k4,k5,k']
    ·simp [k1,k4,k5,k']
  ·rw [hb] at hr
   simp only [Bool.true_eq_false,if_false] at hr
   by_cases c2:(atT ts i).k = 3 /\ Zl xs (atT ts i).t 2 = true
   ·have c3:Zl xs (atT ts i).t 3 = false:=by
     cases h:Zl xs (atT ts i).t 3
     ·rfl
     ·exact absurd ⟨c2.2,h⟩ h23
    have k3:=c2.1
    simp [c2,c3,k3]
   ·rw [if_neg c2] at hr
    by_cases c3:(atT ts i).k = 3 /\ Zl xs (atT ts i).t 3 = true
    ·have c2':Zl xs (atT ts i).t 2 = false:=by
      cases h:Zl xs (atT ts i).t 2
      ·rfl
      ·exact absurd ⟨c3.1,h⟩ c2
     simp [c3,c2']
    ·rw [if_neg c3] at hr
     by_cases c5:(atT ts i).k = 5 /\ 0 < zEY ts i
     ·have k5:=c5.1
      have k0:=c5.2
      simp [k5]
      omega
     ·rw [if_neg c5] at hr
      simp at hr
theorem zNj {xs:List OpR} {ts:List zT} (ha:zFN xs) (i:Nat) (hi:i < ts.length) (hf:zCX xs ts i):zAI xs ts i (zAH xs ts i) = zd xs ts i:=by
 obtain ⟨h1,h2⟩:=zG2 ha i hi hf
 rw [h1]
 unfold zAI zd zCo
 rw [h2]
 simp
end Go.Proofs.YtgiemobdmbijiaaGreatDoor
namespace Go.Proofs.YtgiemobdmbijiaaGreatDoor
set_option maxHeartbeats 16000000
set_option maxRecDepth 100000
open Go.RowKit
def cellsB (l:List UInt8):List Value:=l.map fun b=>.int .u8 (b.toNat:Int)
theorem ZK (l:List UInt8):(cellsB l).length = l.length:=by simp [cellsB]
theorem zBC (l l':List UInt8):cellsB (l ++ l') = cellsB l ++ cellsB l':=by simp [cellsB]
theorem zFo (l:List UInt8):∀ u ∈ cellsB l,u.oneCell' = true:=by
 intro u hu
 simp only [cellsB,List.mem_map] at hu
 obtain ⟨b,_,rfl⟩:=hu
 rfl
theorem zFp (W:World) (s:ByteArray):∃ (c:Nat) (W':World),(convert 9 22 (.string s)).run Tryz.prog W = .ok (.slice (some ⟨W.heap.size,0,none⟩) s.size c) W' /\
  (∀ j u,(cellsB s.data.toList)[j]? = some u -> W'.cell? ((⟨W.heap.size,0,none⟩:Addr).add j) = some u) /\ Below W.heap.size W W':=by
 refine ⟨_,_,run_bytes_of_string (P:=Tryz.prog) W 9 22 5 s Tryz.underlying9 Tryz.underlying22 Tryz.underlying5,?_,?_⟩
 ·intro j u hj
  rw [Addr.add_mid,Nat.zero_add]
  have hlt:j < s.size:=by
   have:=(List.getElem?_eq_some_iff.1 hj).1
   rw [ZK] at this
   simpa using this
  rw [cell_of_row _ W.heap.size j (bytesRow s (grownCap W s.size 0 5)) 5 _ (heap_alloc_new W.drew _)]
  have:j < s.data.size:=hlt
  simp only [bytesRow]
  rw [Array.getElem?_append_left (by simpa using this)]
  simp only [cellsB,List.getElem?_map] at hj
  simpa using hj
 ·exact (Below.refl _ _).drew.alloc (Nat.le_refl _) _
theorem zEw (W:World) (g n c:Nat) (l:List UInt8) (hn:n = l.length) (h:∀ j u,(cellsB l)[j]? = some u -> W.cell? ((⟨g,0,none⟩:Addr).add j) = some u) :
  (convert 22 9 (.slice (some ⟨g,0,none⟩) n c)).run Tryz.prog W = .ok (.string ⟨l.toArray⟩) W:=by
 rw [run_convert_bytes_string _ 22 9 5 _ _ _ Tryz.underlying22 Tryz.underlying5 Tryz.underlying9]
 have hl:(loadCells ⟨g,0,none⟩ n).run Tryz.prog W = .ok ((l.map fun b=>(b.toNat:Int)).map (Value.int .u8)).toArray W:=by
  have:=run_loadCells_list (P:=Tryz.prog) W ⟨g,0,none⟩ (cellsB l) h
  rw [ZK,<- hn] at this
  rw [this]
  simp [cellsB]
 rw [run_bytesToString _ ⟨g,0,none⟩ n c _ hl]
 congr 2
 clear hl h hn
 have key:∀ (l:List UInt8) (acc:ByteArray),List.foldl (fun (r:ByteArray) (n:Int)=>r.push (UInt8.ofNat n.toNat)) acc (l.map fun b=>(b.toNat:Int)) = ⟨(acc.data.toList ++ l).toArray⟩:=by
  intro l
  induction l with
  | nil=>intro acc; simp
  | cons b r ih=>
   intro acc
   rw [List.map_cons,List.foldl_cons,ih]
   congr 1
   simp [ByteArray.push]
 rw [key]
 simp
theorem zIm:(Tryz.prog.info? 5).map (fun i=>(i.zero,i.size,i.bytes)) = some (some (.int .u8 0),1,1):=by kernel_rfl
end Go.Proofs.YtgiemobdmbijiaaGreatDoor
