import Derived.Test.YtgiemobdmbijiaaGreatDoorN09
namespace Go.Proofs.YtgiemobdmbijiaaGreatDoor
set_option linter.unusedSimpArgs false
set_option linter.unusedVariables false
set_option maxHeartbeats 16000000
set_option maxRecDepth 100000
open Go.RowKit
open Go.Deep (BT)
def zNe (s:SyR):Bool:=decide (s.1 = 6 /\ s.2.data = opn.data)
def zNf (s:SyR):Bool:=decide (s.1 = 7 /\ s.2.data = zBw.data)
theorem zOc {a b:ByteArray} (h:a.data = b.data):a = b:=by cases a; cases b; simp_all
theorem zNg {s:SyR} (h:zNe s = true):s = (6,opn):=by
 unfold zNe at h
 have:=of_decide_eq_true h
 obtain ⟨a,b⟩:=s
 exact Prod.ext this.1 (zOc this.2)
theorem zNh {s:SyR} (h:zNf s = true):s = (7,zBw):=by
 unfold zNf at h
 have:=of_decide_eq_true h
 obtain ⟨a,b⟩:=s
 exact Prod.ext this.1 (zOc this.2)
def auS (ns:List OpR) (st:Bool × Nat) (s:SyR):Option (Bool × Nat):=
 if st.1 = false then
  (if s.1 = 1 \/ s.1 = 2 then some (true,st.2) else if s.1 = 3 /\ knB ns s = true then some (false,st.2) else if zNe s = true then some (false,st.2 + 1) else none)
 else
  (if s.1 = 4 /\ knB ns s = true then some (false,st.2) else if s.1 = 5 /\ knB ns s = true then some (true,st.2) else if zNf s = true /\ 0 < st.2 then some (true,st.2 - 1) else none)
def zAE (ns:List OpR):Bool × Nat -> List SyR -> Option (Bool × Nat)
 | st,[]=>some st
 | st,s :: r=>(match auS ns st s with
  | none=>none
  | some st'=>zAE ns st' r)
theorem zCl (ns:List OpR):∀ (a b:List SyR) (st:Bool × Nat),zAE ns st (a ++ b) = (match zAE ns st a with
  | none=>none
  | some st'=>zAE ns st' b)
 | [],b,st=>rfl
 | s :: r,b,st=>by
  simp only [List.cons_append,zAE]
  cases auS ns st s with
  | none=>rfl
  | some st'=>exact zCl ns r b st'
theorem zCm {ns:List OpR} {d:Nat} {s:SyR} {st:Bool × Nat} (h:auS ns (false,d) s = some st) :
  ((s.1 = 1 \/ s.1 = 2) /\ st = (true,d)) \/ (s.1 = 3 /\ knB ns s = true /\ st = (false,d)) \/ (s = (6,opn) /\ st = (false,d + 1)):=by
 unfold auS at h
 simp only [if_true] at h
 split at h
 ·injection h with h; exact Or.inl ⟨by assumption,h.symm⟩
 ·split at h
  ·rename_i hc; injection h with h; exact Or.inr (Or.inl ⟨hc.1,hc.2,h.symm⟩)
  ·split at h
   ·rename_i hc; injection h with h; exact Or.inr (Or.inr ⟨zNg hc,h.symm⟩)
   ·cases h
theorem zD0 {ns:List OpR} {d:Nat} {s:SyR} {st:Bool × Nat} (h:auS ns (true,d) s = some st) :
  (s.1 = 4 /\ knB ns s = true /\ st = (false,d)) \/ (s.1 = 5 /\ knB ns s = true /\ st = (true,d)) \/ (s = (7,zBw) /\ 0 < d /\ st = (true,d - 1)):=by
 unfold auS at h
 simp only [Bool.true_eq_false,if_false] at h
 split at h
 ·rename_i hc; injection h with h; exact Or.inl ⟨hc.1,hc.2,h.symm⟩
 ·split at h
  ·rename_i hc; injection h with h; exact Or.inr (Or.inl ⟨hc.1,hc.2,h.symm⟩)
  ·split at h
   ·rename_i hc; injection h with h; exact Or.inr (Or.inr ⟨zNh hc.1,hc.2,h.symm⟩)
   ·cases h
theorem zKb {ns:List OpR} {d:Nat} {s:SyR} (h:s.1 = 1 \/ s.1 = 2):auS ns (false,d) s = some (true,d):=by
 unfold auS
 simp only [if_true]
 rw [if_pos h]
theorem zL8 {ns:List OpR} {d:Nat} {s:SyR} (h:s.1 = 3) (hk:knB ns s = true):auS ns (false,d) s = some (false,d):=by
 unfold auS
 simp only [if_true]
 rw [if_neg (by omega),if_pos ⟨h,hk⟩]
theorem zKc {ns:List OpR} {d:Nat}:auS ns (false,d) (6,opn) = some (false,d + 1):=by
 unfold auS
 simp [zNe]
theorem zL9 {ns:List OpR} {d:Nat} {s:SyR} (h:s.1 = 4) (hk:knB ns s = true):auS ns (true,d) s = some (false,d):=by
 unfold auS
 simp only [Bool.true_eq_false,if_false]
 rw [if_pos ⟨h,hk⟩]
theorem zKd {ns:List OpR} {d:Nat} {s:SyR} (h:s.1 = 5) (hk:knB ns s = true):auS ns (true,d) s = some (true,d):=by
 unfold auS
 simp only [Bool.true_eq_false,if_false]
 rw [if_neg (by omega),if_pos ⟨h,hk⟩]
theorem zIf {ns:List OpR} {d:Nat}:auS ns (true,d + 1) (7,zBw) = some (true,d):=by
 unfold auS
 simp [zNf]
def eoS:SyR:=(8,ByteArray.empty)
def zCn (ns:List OpR) (st:Bool × Nat) (ss:List SyR):Prop:=∃ q,ss = q ++ [eoS] /\ zAE ns st q = some (true,0)
theorem zD1 {ns:List OpR} {st:Bool × Nat} (h:zCn ns st []):False:=by
 obtain ⟨q,h,_⟩:=h
 simp at h
theorem zG0 {ns:List OpR} {st:Bool × Nat} {s:SyR} {r:List SyR} (h:zCn ns st (s :: r)):(s = eoS /\ r = [] /\ st = (true,0)) \/ ∃ st',auS ns st s = some st' /\ zCn ns st' r:=by
 obtain ⟨q,h,hr⟩:=h
 cases q with
 | nil=>
  simp only [List.nil_append] at h
  injection h with h1 h2
  simp only [zAE,Option.some.injEq] at hr
  exact Or.inl ⟨h1,h2,hr⟩
 | cons a q=>
  rw [List.cons_append] at h
  injection h with h1 h2
  subst h1
  simp only [zAE] at hr
  cases e:auS ns st s with
  | none=>rw [e] at hr; cases hr
  | some st'=>rw [e] at hr; exact Or.inr ⟨st',rfl,q,h2,hr⟩
theorem zJl {ns:List OpR} {d:Nat} {s:SyR} {r:List SyR} (h:zCn ns (false,d) (s :: r)) :
  ((s.1 = 1 \/ s.1 = 2) /\ zCn ns (true,d) r) \/ (s.1 = 3 /\ knB ns s = true /\ zCn ns (false,d) r) \/ (s = (6,opn) /\ zCn ns (false,d + 1) r):=by
 rcases zG0 h with ⟨_,_,h⟩ | ⟨st',h1,h2⟩
 ·cases h
 ·rcases zCm h1 with ⟨a,rfl⟩ | ⟨a,b,rfl⟩ | ⟨a,rfl⟩
  ·exact Or.inl ⟨a,h2⟩
  ·exact Or.inr (Or.inl ⟨a,b,h2⟩)
  ·exact Or.inr (Or.inr ⟨a,h2⟩)
theorem zC7 {ns:List OpR} {d:Nat} {s:SyR} {r:List SyR} (h:zCn ns (true,d) (s :: r)) :
  (s = eoS /\ r = [] /\ d = 0) \/ (s.1 = 4 /\ knB ns s = true /\ zCn ns (false,d) r) \/ (s.1 = 5 /\ knB ns s = true /\ zCn ns (true,d) r) \/ (s = (7,zBw) /\ 0 < d /\ zCn ns (true,d - 1) r):=by
 rcases zG0 h with ⟨h1,h2,h3⟩ | ⟨st',h1,h2⟩
 ·simp only [Prod.mk.injEq,true_and] at h3
  exact Or.inl ⟨h1,h2,h3⟩
 ·rcases zD0 h1 with ⟨a,b,rfl⟩ | ⟨a,b,rfl⟩ | ⟨a,b,rfl⟩
  ·exact Or.inr (Or.inl ⟨a,b,h2⟩)
  ·exact Or.inr (Or.inr (Or.inl ⟨a,b,h2⟩))
  ·exact Or.inr (Or.inr (Or.inr ⟨a,b,h2⟩))
def yM:Option ET -> List SyR
 | none=>[]
 | some T=>ySy T
theorem zAb {ns:List OpR} (hv:zZ ns 0):∀ (n:Nat) (least:Int) (md:Option ET) (ss:List SyR) (d:Nat) (x:ET × List SyR),least <= 1001 -> zCn ns (md.isSome,d) ss -> (∀ L,md = some L -> Zk ns L /\ least <= lvT ns L) -> rd ns n least md ss = some x ->
  zCn ns (true,d) x.2 /\ Zk ns x.1 /\ least <= lvT ns x.1 /\ zEu ns least x.2 /\ yM md ++ ss = ySy x.1 ++ x.2
 | 0,_,_,_,_,_,_,_,_,h=>by simp [rd] at h
 | n + 1,least,none,[],d,x,_,hf,_,h=>(zD1 hf).elim
 | n + 1,least,some T,[],d,x,_,hf,_,h=>(zD1 hf).elim
 | n + 1,least,none,s :: r,d,x,hl,hf,hm,h=>by
  simp only [rd] at h
  rcases zJl hf with ⟨hs,hf'⟩ | ⟨hs,hk,hf'⟩ | ⟨hs,hf'⟩
  ·rw [if_neg (by omega),if_neg (by omega)] at h
   have hlv:lvT ns (.node s.1 0 s.2 .nil .nil) = 1001:=zC6 ns _ _ (by omega)
   have:=zAb hv n least (some (.node s.1 0 s.2 .nil .nil)) r d x hl hf' (fun L e=>by
    injection e with e; subst e
    exact ⟨⟨rfl,Or.inl ⟨hs,rfl,rfl⟩⟩,by omega⟩) h
   refine ⟨this.1,this.2.1,this.2.2.1,this.2.2.2.1,?_⟩
   rw [<- this.2.2.2.2]
   simp only [yM,ySy]
   rw [if_neg (by omega),if_neg (by omega),if_neg (by omega),if_neg (by omega)]
   rfl
  ·rw [if_pos hs] at h
   have f:=(opF hv (s:=s) (Or.inl hs) hk)
   have fp:=f.pre hs
   have fh:=f.hi
   split at h
   ·cases h
   ·rename_i hlt
    split at h
    ·cases h
    ·rename_i y hy
     obtain ⟨a1,a2,a3,a4,a5⟩:=zAb hv n _ none r d y (by omega) hf' (fun L e=>by cases e) hy
     have es:((3,s.2):SyR) = s:=Prod.ext hs.symm rfl
     have hlv:lvT ns (.node 3 0 s.2 y.1 .nil) = sLv ns s:=by simp only [lvT,es]
     have:=zAb hv n least (some (.node 3 0 s.2 y.1 .nil)) y.2 d x hl a1 (fun L e=>by
      injection e with e; subst e
      exact ⟨⟨rfl,Or.inr (Or.inr (Or.inl ⟨Or.inl rfl,by rw [es]; exact hk,a2,rfl,by rw [es]; exact a3⟩))⟩,by omega⟩) h
     refine ⟨this.1,this.2.1,this.2.2.1,this.2.2.2.1,?_⟩
     rw [<- this.2.2.2.2]
     simp only [yM,List.nil_append] at a5 ⊢
     rw [a5]
     simp [ySy,es]
  ·subst hs
   simp only at h
   rw [if_neg (by decide),if_pos trivial] at h
   split at h
   ·cases h
   ·rename_i y hy
    obtain ⟨a1,a2,a3,a4,a5⟩:=zAb hv n 0 none r (d + 1) y (by omega) hf' (fun L e=>by cases e) hy
    obtain ⟨T,q⟩:=y
    simp only at a1 a2 a3 a4 a5 h
    cases q with
    | nil=>exact (zD1 a1).elim
    | cons z q=>
     have hz:z = (7,zBw) /\ zCn ns (true,d) q:=by
      rcases zC7 a1 with ⟨_,_,h0⟩ | ⟨h4,hkk,_⟩ | ⟨h5,hkk,_⟩ | ⟨h7,_,h8⟩
      ·omega
      ·have:=a4 z q rfl (Or.inl h4)
       have:=(opF hv (s:=z) (Or.inr (Or.inl h4)) hkk).lo
       omega
      ·have:=a4 z q rfl (Or.inr h5)
       have:=(opF hv (s:=z) (Or.inr (Or.inr h5)) hkk).lo
       omega
      ·exact ⟨h7,h8⟩
     obtain ⟨rfl,hq⟩:=hz
     simp only [List.tail_cons] at h
     have hlv:lvT ns (.node 6 0 ByteArray.empty T .nil) = 1001:=zC6 ns _ _ (by omega)
     have:=zAb hv n least (some (.node 6 0 ByteArray.empty T .nil)) q d x hl hq (fun L e=>by
      injection e with e; subst e
      exact ⟨⟨rfl,Or.inr (Or.inl ⟨rfl,rfl,a2,rfl⟩)⟩,by omega⟩) h
     refine ⟨this.1,this.2.1,this.2.2.1,this.2.2.2.1,?_⟩
     rw [<- this.2.2.2.2]
     simp only [yM,List.nil_append] at a5 ⊢
     rw [a5]
     simp [ySy]
 | n + 1,least,some T,s :: r,d,x,hl,hf,hm,h=>by
  obtain ⟨hT,hTl⟩:=hm T rfl
  simp only [rd] at h
  have stop:(¬ (s.1 = 4 /\ least <= sLv ns s)) -> (¬ (s.1 = 5 /\ least <= sLv ns s)) -> zCn ns (true,d) x.2 /\ Zk ns x.1 /\ least <= lvT ns x.1 /\ zEu ns least x.2 /\ yM (some T) ++ s :: r = ySy x.1 ++ x.2:=fun c1 c2=>by
   rw [if_neg c1,if_neg c2] at h
   injection h with h
   subst h
   refine ⟨hf,hT,hTl,fun s' r' e hs=>?_,rfl⟩
   injection e with e1 e2
   subst e1
   omega
  by_cases c1:s.1 = 4 /\ least <= sLv ns s
  ·rw [if_pos c1] at h
   have hf4:knB ns s = true /\ zCn ns (false,d) r:=by
    rcases zC7 hf with ⟨h1,_⟩ | ⟨_,h1,h2⟩ | ⟨h1,_⟩ | ⟨h1,_⟩
    ·rw [h1] at c1; exact absurd c1.1 (by decide)
    ·exact ⟨h1,h2⟩
    ·omega
    ·rw [h1] at c1; exact absurd c1.1 (by decide)
   obtain ⟨hk,hf'⟩:=hf4
   have f:=(opF hv (s:=s) (Or.inr (Or.inl c1.1)) hk)
   have fp:=f.mid c1.1
   have fh:=f.hi
   split at h
   ·cases h
   ·rename_i hlt
    split at h
    ·cases h
    ·rename_i y hy
     obtain ⟨a1,a2,a3,a4,a5⟩:=zAb hv n _ none r d y (by omega) hf' (fun L e=>by cases e) hy
     have es:((4,s.2):SyR) = s:=Prod.ext c1.1.symm rfl
     have hlv:lvT ns (.node 4 0 s.2 T y.1) = sLv ns s:=by simp only [lvT,es]
     have:=zAb hv n least (some (.node 4 0 s.2 T y.1)) y.2 d x hl a1 (fun L e=>by
      injection e with e; subst e
      exact ⟨⟨rfl,Or.inr (Or.inr (Or.inr ⟨rfl,by rw [es]; exact hk,hT,a2,by rw [es]; omega,by rw [es]; exact a3⟩))⟩,by omega⟩) h
     refine ⟨this.1,this.2.1,this.2.2.1,this.2.2.2.1,?_⟩
     rw [<- this.2.2.2.2]
     simp only [yM,List.nil_append] at a5 ⊢
     rw [a5]
     simp [ySy,es]
  ·by_cases c2:s.1 = 5 /\ least <= sLv ns s
   ·rw [if_neg c1,if_pos c2] at h
    have hf4:knB ns s = true /\ zCn ns (true,d) r:=by
     rcases zC7 hf with ⟨h1,_⟩ | ⟨h1,_⟩ | ⟨_,h1,h2⟩ | ⟨h1,_⟩
     ·rw [h1] at c2; exact absurd c2.1 (by decide)
     ·omega
     ·exact ⟨h1,h2⟩
     ·rw [h1] at c2; exact absurd c2.1 (by decide)
    obtain ⟨hk,hf'⟩:=hf4
    have f:=(opF hv (s:=s) (Or.inr (Or.inr c2.1)) hk)
    split at h
    ·cases h
    ·rename_i hlt
     have es:((5,s.2):SyR) = s:=Prod.ext c2.1.symm rfl
     have hlv:lvT ns (.node 5 0 s.2 T .nil) = sLv ns s:=by simp only [lvT,es]
     have:=zAb hv n least (some (.node 5 0 s.2 T .nil)) r d x hl hf' (fun L e=>by
      injection e with e; subst e
      exact ⟨⟨rfl,Or.inr (Or.inr (Or.inl ⟨Or.inr rfl,by rw [es]; exact hk,hT,rfl,by rw [es]; omega⟩))⟩,by omega⟩) h
     refine ⟨this.1,this.2.1,this.2.2.1,this.2.2.2.1,?_⟩
     rw [<- this.2.2.2.2]
     simp [yM,ySy,es]
   ·exact stop c1 c2
theorem zOn {ns:List OpR} (hv:zZ ns 0) {ss:List SyR} (hf:zAE ns (false,0) ss = some (true,0)) (T:ET):(Zk ns T /\ ySy T = ss) ↔ RD ns 0 none (ss ++ [eoS]) = some (T,[eoS]):=by
 constructor
 ·rintro ⟨hT,rfl⟩
  have h0:(0:Int) <= lvT ns T:=by
   cases T with
   | nil=>exact hT.elim
   | node bb oo tt ll rr=>
    simp only [lvT]
    by_cases hb:bb = 3 \/ bb = 4 \/ bb = 5
    ·have hkn:knB ns (bb,tt) = true:=by
      rcases hT.2 with ⟨h | h,_⟩ | ⟨h,_⟩ | ⟨_,hk,_⟩ | ⟨_,hk,_⟩
      ·omega
      ·omega
      ·omega
      ·exact hk
      ·exact hk
     have:=(opF hv (s:=(bb,tt)) hb hkn).lo
     omega
    ·rw [zC6 ns bb tt hb]; omega
  have hn:¬ (eoS.1 = 4 \/ eoS.1 = 5):=by decide
  rw [zL7 hv T hT 0 [eoS] h0 (zBq hn T),zFM (zCI hn)]
 ·intro h
  obtain ⟨_,a2,_,_,a5⟩:=zAb hv _ 0 none (ss ++ [eoS]) 0 (T,[eoS]) (by omega) ⟨ss,rfl,hf⟩ (fun L e=>by cases e) h
  refine ⟨a2,?_⟩
  simp only [yM,List.nil_append] at a5
  exact (List.append_cancel_right a5).symm
theorem zOo {ns:List OpR} (hv:zZ ns 0) {ss:List SyR} (hf:zAE ns (false,0) ss = some (true,0)) {x:ET × List SyR} (h:RD ns 0 none (ss ++ [eoS]) = some x):x.2 = [eoS]:=by
 obtain ⟨a1,_,_,a4,_⟩:=zAb hv _ 0 none (ss ++ [eoS]) 0 x (by omega) ⟨ss,rfl,hf⟩ (fun L e=>by cases e) h
 obtain ⟨T,q⟩:=x
 simp only at a1 a4 ⊢
 cases q with
 | nil=>exact (zD1 a1).elim
 | cons z q=>
  rcases zC7 a1 with ⟨h1,h2,_⟩ | ⟨h4,hkk,_⟩ | ⟨h5,hkk,_⟩ | ⟨_,h7,_⟩
  ·rw [h1,h2]
  ·have:=a4 z q rfl (Or.inl h4)
   have:=(opF hv (s:=z) (Or.inr (Or.inl h4)) hkk).lo
   omega
  ·have:=a4 z q rfl (Or.inr h5)
   have:=(opF hv (s:=z) (Or.inr (Or.inr h5)) hkk).lo
   omega
  ·omega
end Go.Proofs.YtgiemobdmbijiaaGreatDoor
