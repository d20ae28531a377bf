import Derived.Deep.Trees
import Derived.Test.YtfboipappaonhaaGreatP00
import Derived.Test.YtfboipappaonhaaGreatP01
import Derived.Test.YtfboipappaonhaaGreatP09
namespace Go.Proofs.YtfboipappaonhaaGreat
set_option maxHeartbeats 16000000
set_option maxRecDepth 100000
open Go.RowKit
def ZE (ns:List OpR) (o:zD) (b:Bool):Int:=match fnd ns o.t (o.k - 2) with
 | some j=>zA6 ns j b
 | none=>0
def zDF (ns:List OpR) (o:zD) (least:Int) (s:Nat) (u:List zD):List zD:=
 if ZX ns o < least then u ++ [⟨6,ByteArray.empty,((s + u.length:Nat):Int) - 1,0⟩] else u
def gr (ns:List OpR) (xs:List zD):Nat -> Nat -> Int -> Nat -> List zD
 | 0,_,_,_=>[]
 | n + 1,i,least,s=>
  if (atN xs i).k = 6 then gr ns xs n (i - 1) least s
  else if zR (atN xs i).k = 0 then zDF ns (atN xs i) least s [⟨(atN xs i).k,(atN xs i).t,0,0⟩]
  else if zR (atN xs i).k = 1 then
   zDF ns (atN xs i) least s (gr ns xs n (i - 1) (ZE ns (atN xs i) false) s ++ [⟨(atN xs i).k,(atN xs i).t,((s + (gr ns xs n (i - 1) (ZE ns (atN xs i) false) s).length:Nat):Int) - 1,0⟩])
  else
   zDF ns (atN xs i) least s ((gr ns xs n (atN xs i).a.toNat (ZE ns (atN xs i) false) s ++ gr ns xs n (i - 1) (ZE ns (atN xs i) true) (s + (gr ns xs n (atN xs i).a.toNat (ZE ns (atN xs i) false) s).length)) ++
    [⟨(atN xs i).k,(atN xs i).t,((s + (gr ns xs n (atN xs i).a.toNat (ZE ns (atN xs i) false) s).length:Nat):Int) - 1,((s + (gr ns xs n (atN xs i).a.toNat (ZE ns (atN xs i) false) s).length + (gr ns xs n (i - 1) (ZE ns (atN xs i) true) (s + (gr ns xs n (atN xs i).a.toNat (ZE ns (atN xs i) false) s).length)).length:Nat):Int) - 1⟩])
theorem zCt (ns:List OpR) (xs:List zD):∀ n m i f,i < n -> i < m -> frS xs i = some f -> ∀ l s,gr ns xs n i l s = gr ns xs m i l s
 | 0,_,_,_,h,_,_=>absurd h (Nat.not_lt_zero _)
 | _ + 1,0,_,_,_,h,_=>absurd h (Nat.not_lt_zero _)
 | n + 1,m + 1,i,f,h,h',hf=>by
  intro l s
  rcases zBt hf with ⟨hk,ha,hb,hfi⟩ | ⟨hk,h1i,ha,hbb,hf1⟩ | ⟨hk,h1i,hbb,f2,hf2,h2f,ha,hf1⟩
  ·have h6:(atN xs i).k ≠ 6:=fun e=>by rw [e] at hk; simp [zR] at hk
   simp only [gr,if_neg h6,hk,if_true]
  ·have e:=zCt ns xs n m (i - 1) f (by omega) (by omega) hf1
   simp only [gr,e]
   by_cases h6:(atN xs i).k = 6
   ·rw [if_pos h6,if_pos h6]
   ·simp only [if_neg h6,hk,if_true,Nat.one_ne_zero,if_false]
  ·have h6:(atN xs i).k ≠ 6:=fun e=>by rw [e] at hk; simp [zR] at hk
   have hle:=zAM hf2
   have e1:=zCt ns xs n m (i - 1) f2 (by omega) (by omega) hf2
   have e2:=zCt ns xs n m (f2 - 1) f (by omega) (by omega) hf1
   have ea:(atN xs i).a.toNat = f2 - 1:=by omega
   simp only [gr,if_neg h6,ea,e1,e2]
def gS (ns:List OpR) (xs:List zD) (i:Nat) (l:Int) (s:Nat):List zD:=gr ns xs (i + 1) i l s
theorem zHh {ns:List OpR} {xs:List zD} {i:Nat} (hk:zR (atN xs i).k = 0) (l:Int) (s:Nat):gS ns xs i l s = zDF ns (atN xs i) l s [⟨(atN xs i).k,(atN xs i).t,0,0⟩]:=by
 have h6:(atN xs i).k ≠ 6:=fun e=>by rw [e] at hk; simp [zR] at hk
 simp only [gS,gr,if_neg h6,hk,if_true]
theorem zFw {ns:List OpR} {xs:List zD} {i f:Nat} (hk:(atN xs i).k = 6) (h1:1 <= i) (hf:frS xs (i - 1) = some f) (l:Int) (s:Nat):gS ns xs i l s = gS ns xs (i - 1) l s:=by
 have e:gS ns xs i l s = gr ns xs i (i - 1) l s:=by simp only [gS,gr,if_pos hk]
 rw [e]
 exact zCt ns xs _ _ _ f (by omega) (by omega) hf l s
theorem zJc {ns:List OpR} {xs:List zD} {i f:Nat} (hk:zR (atN xs i).k = 1) (h6:(atN xs i).k ≠ 6) (h1:1 <= i) (hf:frS xs (i - 1) = some f) (l:Int) (s:Nat) {u:List zD} (hu:u = gS ns xs (i - 1) (ZE ns (atN xs i) false) s) :
  gS ns xs i l s = zDF ns (atN xs i) l s (u ++ [⟨(atN xs i).k,(atN xs i).t,((s + u.length:Nat):Int) - 1,0⟩]):=by
 have e:=zCt ns xs i (i - 1 + 1) (i - 1) f (by omega) (by omega) hf
 subst hu
 unfold gS
 conv=>lhs; unfold gr
 simp only [if_neg h6,hk,if_true,Nat.one_ne_zero,if_false,e]
theorem zJd {ns:List OpR} {xs:List zD} {i f f2:Nat} (hk:zR (atN xs i).k = 2) (h1:1 <= i) (hf2:frS xs (i - 1) = some f2) (h2:1 <= f2) (ha:(atN xs i).a = (f2:Int) - 1) (hf:frS xs (f2 - 1) = some f) (l:Int) (s:Nat) {u1 u2:List zD}
  (hu1:u1 = gS ns xs (f2 - 1) (ZE ns (atN xs i) false) s) (hu2:u2 = gS ns xs (i - 1) (ZE ns (atN xs i) true) (s + u1.length)) :
  gS ns xs i l s = zDF ns (atN xs i) l s ((u1 ++ u2) ++ [⟨(atN xs i).k,(atN xs i).t,((s + u1.length:Nat):Int) - 1,((s + u1.length + u2.length:Nat):Int) - 1⟩]):=by
 have h6:(atN xs i).k ≠ 6:=fun e=>by rw [e] at hk; simp [zR] at hk
 have hle:=zAM hf2
 have e1:=zCt ns xs i (i - 1 + 1) (i - 1) f2 (by omega) (by omega) hf2
 have e2:=zCt ns xs i (f2 - 1 + 1) (f2 - 1) f (by omega) (by omega) hf
 have ea:(atN xs i).a.toNat = f2 - 1:=by omega
 subst hu2
 subst hu1
 unfold gS
 conv=>lhs; unfold gr
 simp only [if_neg h6,ea,e1,e2,hk]
 rfl
theorem zFx (ns:List OpR) (o:zD) (l:Int) (s:Nat) (u:List zD):u.length <= (zDF ns o l s u).length /\ (zDF ns o l s u).length <= u.length + 1:=by
 unfold zDF
 split <;> simp
theorem zCu (ns:List OpR) (xs:List zD):∀ n i f,i < n -> frS xs i = some f -> ∀ l s,1 <= (gS ns xs i l s).length /\ (gS ns xs i l s).length <= 2 * (i + 1 - f)
 | 0,_,_,h,_=>absurd h (Nat.not_lt_zero _)
 | n + 1,i,f,h,hf=>by
  intro l s
  rcases zBt hf with ⟨hk,ha,hb,hfi⟩ | ⟨hk,h1i,ha,hbb,hf1⟩ | ⟨hk,h1i,hbb,f2,hf2,h2f,ha,hf1⟩
  ·rw [zHh hk]
   have:=zFx ns (atN xs i) l s [⟨(atN xs i).k,(atN xs i).t,0,0⟩]
   simp only [List.length_cons,List.length_nil] at this
   omega
  ·have hle:=zAM hf1
   by_cases h6:(atN xs i).k = 6
   ·rw [zFw h6 h1i hf1]
    have:=zCu ns xs n (i - 1) f (by omega) hf1 l s
    omega
   ·rw [zJc hk h6 h1i hf1 l s rfl]
    have h1:=zCu ns xs n (i - 1) f (by omega) hf1 (ZE ns (atN xs i) false) s
    have h2:=zFx ns (atN xs i) l s (gS ns xs (i - 1) (ZE ns (atN xs i) false) s ++ [⟨(atN xs i).k,(atN xs i).t,((s + (gS ns xs (i - 1) (ZE ns (atN xs i) false) s).length:Nat):Int) - 1,0⟩])
    simp only [List.length_append,List.length_cons,List.length_nil] at h2
    omega
  ·have hle:=zAM hf2
   have hle1:=zAM hf1
   obtain ⟨u1,hu1⟩:∃ u1,u1 = gS ns xs (f2 - 1) (ZE ns (atN xs i) false) s:=⟨_,rfl⟩
   obtain ⟨u2,hu2⟩:∃ u2,u2 = gS ns xs (i - 1) (ZE ns (atN xs i) true) (s + u1.length):=⟨_,rfl⟩
   rw [zJd hk h1i hf2 h2f ha hf1 l s hu1 hu2]
   have h1:=zCu ns xs n (f2 - 1) f (by omega) hf1 (ZE ns (atN xs i) false) s
   have h2:=zCu ns xs n (i - 1) f2 (by omega) hf2 (ZE ns (atN xs i) true) (s + u1.length)
   rw [<- hu1] at h1
   rw [<- hu2] at h2
   have h3:=zFx ns (atN xs i) l s ((u1 ++ u2) ++ [⟨(atN xs i).k,(atN xs i).t,((s + u1.length:Nat):Int) - 1,((s + u1.length + u2.length:Nat):Int) - 1⟩])
   simp only [List.length_append,List.length_cons,List.length_nil] at h3
   omega
def zDU (ns:List OpR) (xs us:List zD) (v:Bool):Prop:=
 (((zM ns 0 /\ ZL xs /\ zDi ns xs) /\ (gS ns xs (xs.length - 1) 0 0).length <= 20000) /\ v = true /\ us = gS ns xs (xs.length - 1) 0 0) \/
 (¬ ((zM ns 0 /\ ZL xs /\ zDi ns xs) /\ (gS ns xs (xs.length - 1) 0 0).length <= 20000) /\ v = false /\ us = [])
theorem zDU.one {ns:List OpR} {xs us us':List zD} {v v':Bool} (h:zDU ns xs us v) (h':zDU ns xs us' v'):us = us' /\ v = v':=by
 rcases h with ⟨a,rfl,rfl⟩ | ⟨a,rfl,rfl⟩
 ·rcases h' with ⟨_,rfl,rfl⟩ | ⟨a',_⟩
  ·exact ⟨rfl,rfl⟩
  ·exact absurd a a'
 ·rcases h' with ⟨a',_⟩ | ⟨_,rfl,rfl⟩
  ·exact absurd a' a
  ·exact ⟨rfl,rfl⟩
end Go.Proofs.YtfboipappaonhaaGreat
namespace Go.Proofs.YtfboipappaonhaaGreat
set_option linter.unusedSimpArgs false
set_option linter.unusedVariables false
set_option maxHeartbeats 16000000
set_option maxRecDepth 100000
open Go.RowKit
theorem zFy (k:Nat):(zEA k).t.size <= 6:=by
 have e1:(⟨#[97,98,99,100,95,57]⟩:ByteArray).size = 6:=rfl
 have e2:(⟨#[48,49,55,50]⟩:ByteArray).size = 4:=rfl
 unfold zEA
 split
 ·show (ByteArray.extract _ _ _).size <= 6
  rw [ByteArray.size_extract]; omega
 ·show (ByteArray.extract _ _ _).size <= 6
  rw [ByteArray.size_extract]; omega
theorem zHi {ns:List OpR} (hn:∀ i,(atO ns i).s.size <= 16) (bs:List UInt8) (grp:Bool):∀ (d p:Nat) (us:List zD),(∀ o ∈ us,o.t.size <= 16) -> ∀ o ∈ (gen bs ns grp d p us).2,o.t.size <= 16
 | 0,p,us,h=>by
  have:=zFy (nxt bs (adv bs p))
  simp only [gen]
  intro o ho
  rcases List.mem_append.1 ho with ho | ho
  ·exact h o ho
  ·simp at ho; subst ho; omega
 | d + 1,p,us,h=>by
  have hl:=zFy (nxt bs (adv bs p))
  have h1:=zHi hn bs grp d (adv bs p) us h
  have h2:=zHi hn bs grp d (gen bs ns grp d (adv bs p) us).1 _ h1
  have h3:=hn (nxt bs p / 8 % ns.length)
  have sn:∀ (vs:List zD) (x:zD),(∀ o ∈ vs,o.t.size <= 16) -> x.t.size <= 16 -> ∀ o ∈ vs ++ [x],o.t.size <= 16:=fun vs x hv hx o ho=>by
   rcases List.mem_append.1 ho with ho | ho
   ·exact hv o ho
   ·simp at ho; subst ho; exact hx
  simp only [gen]
  split
  ·exact sn _ _ h (by omega)
  ·split
   ·exact sn _ _ h1 (by show 0 <= 16; omega)
   ·split
    ·exact sn _ _ h2 h3
    ·exact sn _ _ h1 h3
theorem zNI {xs:List OpR} (h:∀ i,i < xs.length -> (atO xs i).s.size <= 16) (i:Nat):(atO xs i).s.size <= 16:=by
 by_cases hi:i < xs.length
 ·exact h i hi
 ·have:atO xs i = OpR.zero:=by unfold atO; simp [List.getD,List.getElem?_eq_none (Nat.le_of_not_lt hi)]
  rw [this]; show 0 <= 16; omega
theorem zBv.kinds {bs:List UInt8} {p0:Nat}:∀ {k:Nat} {xs:List OpR} {p:Nat},zBv bs p0 k xs p -> ∀ i,i < xs.length -> 0 <= (atO xs i).k /\ (atO xs i).k <= 9
 | 0,xs,p,h=>by
  obtain ⟨rfl,_⟩:=h
  exact fun i hi=>by simp at hi
 | k + 1,xs,p,h=>by
  obtain ⟨ys,q,ht,_,hc⟩:=h
  have h2:=ht.kinds
  rcases hc with ⟨_,rfl⟩ | ⟨_,rfl⟩
  ·intro i hi
   by_cases e:i < ys.length
   ·have:atO (ys ++ [Zx (nxt bs q) (nxt bs (adv bs q)) true]) i = atO ys i:=by unfold atO; simp [List.getD,List.getElem?_append,e]
    rw [this]; exact h2 i e
   ·have e2:i = ys.length:=by simp at hi; omega
    have:atO (ys ++ [Zx (nxt bs q) (nxt bs (adv bs q)) true]) i = Zx (nxt bs q) (nxt bs (adv bs q)) true:=by unfold atO; simp [List.getD,e2]
    rw [this]
    show 0 <= ZN _ /\ ZN _ <= 9
    unfold ZN
    split
    ·omega
    ·split <;> omega
  ·exact h2
def zNJ (t:ByteArray):Value:=.iface 119 (.agg #[.string t])
def zKT (t:ByteArray):Value:=.iface 121 (.agg #[.string t])
def zK2 (p:OpR) (e:Value):Value:=.iface 129 (.agg #[.string p.s,.int .i64 p.k,.int .i64 p.l,.int .i64 p.sd,e])
def zFz (p:OpR) (e:Value):Value:=.iface 132 (.agg #[.string p.s,.int .i64 p.k,.int .i64 p.l,.int .i64 p.sd,e])
def zIo (p:OpR) (e e':Value):Value:=.iface 131 (.agg #[.string p.s,.int .i64 p.k,.int .i64 p.l,.int .i64 p.sd,e,e'])
def zL1 (e:Value):Value:=.iface 134 (.agg #[e])
def opA (ns:List OpR) (o:zD):OpR:=match fnd ns o.t (o.k - 2) with
 | some j=>atO ns j
 | none=>⟨ByteArray.empty,0,0,0⟩
def exN (p:OpR) (o:zD) (e e':Value):Value:=
 if o.k = 1 then zNJ o.t else if o.k = 2 then zKT o.t else if o.k = 3 then zK2 p e else if o.k = 4 then zIo p e e' else if o.k = 5 then zFz p e else zL1 e
end Go.Proofs.YtfboipappaonhaaGreat
namespace Go.Proofs.YtfboipappaonhaaGreat
set_option linter.unusedSimpArgs false
set_option linter.unusedVariables false
set_option maxHeartbeats 16000000
set_option maxRecDepth 100000
open Go.RowKit
open Go.Deep (BT)
abbrev ET:=BT ByteArray
def tsz:ET -> Nat
 | .nil=>0
 | .node _ _ _ l r=>tsz l + tsz r + 1
def tN (b:Nat) (t:ByteArray) (l r:ET) (s:Nat):zD:=
 ⟨(b:Int),t,if zR (b:Int) = 0 then 0 else ((s + tsz l:Nat):Int) - 1,if zR (b:Int) = 2 then ((s + tsz l + tsz r:Nat):Int) - 1 else 0⟩
def nd:ET -> Nat -> List zD
 | .nil,_=>[]
 | .node b _ t l r,s=>nd l s ++ nd r (s + tsz l) ++ [tN b t l r s]
theorem ze:∀ (T:ET) (s:Nat),(nd T s).length = tsz T
 | .nil,_=>rfl
 | .node b o t l r,s=>by simp [nd,tsz,ze l,ze r]; omega
def Sh:ET -> Prop
 | .nil=>False
 | .node b o _ l r=>o = 0 /\ ((zR (b:Int) = 0 /\ l = .nil /\ r = .nil) \/ (zR (b:Int) = 1 /\ Sh l /\ r = .nil) \/ (zR (b:Int) = 2 /\ Sh l /\ Sh r))
theorem Sh.pos:∀ {T:ET},Sh T -> 1 <= tsz T
 | .nil,h=>h.elim
 | .node _ _ _ _ _,_=>by simp [tsz]
def zDG (xs:List zD):ET -> Nat -> Prop
 | .nil,_=>True
 | .node b _ t l r,s=>zDG xs l s /\ zDG xs r (s + tsz l) /\ atN xs (s + tsz l + tsz r) = tN b t l r s
theorem zBg {xs ys:List zD} {i:Nat} (h:i < xs.length):atN (xs ++ ys) i = atN xs i:=by
 simp [atN,List.getD,List.getElem?_append,h]
theorem zAa {xs ys:List zD} {i:Nat} (h:xs.length <= i):atN (xs ++ ys) i = atN ys (i - xs.length):=by
 simp [atN,List.getD,List.getElem?_append_right h]
theorem zNK (pre post:List zD):∀ (T:ET) (s:Nat),s = pre.length -> zDG (pre ++ (nd T s ++ post)) T s:=by
 intro T
 induction T generalizing pre post with
 | nil=>intro _ _; trivial
 | node b o t l r ihl ihr=>
  intro s hs
  subst hs
  refine ⟨?_,?_,?_⟩
  ·have:=ihl pre (nd r (pre.length + tsz l) ++ [tN b t l r pre.length] ++ post) pre.length rfl
   simpa [nd,List.append_assoc] using this
  ·have:=ihr (pre ++ nd l pre.length) ([tN b t l r pre.length] ++ post) (pre.length + tsz l) (by simp [ze])
   simpa [nd,List.append_assoc] using this
  ·rw [zAa (by omega)]
   have e:pre.length + tsz l + tsz r - pre.length = tsz l + tsz r:=by omega
   rw [e,zBg (by simp [nd,ze])]
   simp only [nd]
   rw [zAa (by simp [ze])]
   simp [ze,atN]
theorem zAb (T:ET):zDG (nd T 0) T 0:=by
 have:=zNK [] [] T 0 rfl
 simpa using this
theorem zIp {xs:List zD}:∀ (T:ET) (s:Nat),zDG xs T s -> ∀ j,j < tsz T -> atN xs (s + j) = atN (nd T s) j:=by
 intro T
 induction T with
 | nil=>intro s _ j hj; simp [tsz] at hj
 | node b o t l r ihl ihr=>
  rintro s ⟨h1,h2,h3⟩ j hj
  simp only [tsz] at hj
  simp only [nd]
  by_cases c1:j < tsz l
  ·rw [ihl s h1 j c1,List.append_assoc,zBg (by rw [ze]; exact c1)]
  ·by_cases c2:j < tsz l + tsz r
   ·have:=ihr (s + tsz l) h2 (j - tsz l) (by omega)
    have e:s + tsz l + (j - tsz l) = s + j:=by omega
    rw [e] at this
    rw [this,zBg (by simp [ze]; omega),zAa (by rw [ze]; omega),ze]
   ·have e:j = tsz l + tsz r:=by omega
    subst e
    rw [<- Nat.add_assoc,h3,zAa (by simp [ze])]
    simp [ze,atN]
theorem zJe {xs:List zD} {T:ET} (h:zDG xs T 0) (hl:xs.length = tsz T):xs = nd T 0:=by
 apply List.ext_getElem (by rw [ze,hl])
 intro i h1 h2
 have:=zIp T 0 h i (by omega)
 rw [Nat.zero_add] at this
 simpa [atN,List.getD,h1,h2] using this
theorem zBW {xs:List zD}:∀ (T:ET) (s:Nat),Sh T -> zDG xs T s -> frS xs (s + tsz T - 1) = some s:=by
 intro T
 induction T with
 | nil=>intro s h; exact h.elim
 | node b o t l r ihl ihr=>
  rintro s ⟨_,hsh⟩ ⟨h1,h2,h3⟩
  have e:s + tsz (.node b o t l r) - 1 = s + tsz l + tsz r:=by simp only [tsz]; omega
  rw [e]
  rcases hsh with ⟨hk,rfl,rfl⟩ | ⟨hk,hl,rfl⟩ | ⟨hk,hl,hr⟩
  ·simp only [tsz,Nat.add_zero] at h3 ⊢
   have hk':zR (atN xs s).k = 0:=by rw [h3]; exact hk
   rw [zD4 hk',if_pos]
   rw [h3]
   simp [tN,hk]
  ·simp only [tsz,Nat.add_zero] at h3 ⊢
   have hp:=hl.pos
   have hk':zR (atN xs (s + tsz l)).k = 1:=by rw [h3]; exact hk
   rw [zFR hk',if_pos]
   ·exact ihl s hl h1
   ·rw [h3]
    simp [tN,hk]
    omega
  ·have hp:=hl.pos
   have hq:=hr.pos
   have hk':zR (atN xs (s + tsz l + tsz r)).k = 2:=by rw [h3]; exact hk
   have f2:=ihr (s + tsz l) hr h2
   rw [zFS hk' (by omega) (by rw [h3]; simp [tN,hk]) f2 (by omega) (by rw [h3]; simp [tN,hk])]
   exact ihl s hl h1
theorem zCI (xs:List zD) (htx:∀ i,i < xs.length -> 0 <= (atN xs i).k):∀ n i f,i < n -> i < xs.length -> frS xs i = some f -> ∃ T,Sh T /\ f + tsz T = i + 1 /\ zDG xs T f
 | 0,_,_,h,_,_=>absurd h (Nat.not_lt_zero _)
 | n + 1,i,f,h,hi,hf=>by
  have hkk:(((atN xs i).k.toNat:Nat):Int) = (atN xs i).k:=Int.toNat_of_nonneg (htx i hi)
  rcases zBt hf with ⟨hk,ha,hb,hfi⟩ | ⟨hk,h1i,ha,hbb,hf1⟩ | ⟨hk,h1i,hbb,f2,hf2,h2f,ha,hf1⟩
  ·refine ⟨.node (atN xs i).k.toNat 0 (atN xs i).t .nil .nil,⟨rfl,Or.inl ⟨by rw [hkk]; exact hk,rfl,rfl⟩⟩,by simp [tsz]; omega,trivial,trivial,?_⟩
   simp only [tsz,Nat.add_zero,tN,hkk,hk]
   rw [hfi]
   generalize atN xs i = o at *
   cases o
   simp_all
  ·have hle:=zAM hf1
   obtain ⟨T,hs,hz,hl⟩:=zCI xs htx n (i - 1) f (by omega) (by omega) hf1
   have hp:=hs.pos
   refine ⟨.node (atN xs i).k.toNat 0 (atN xs i).t T .nil,⟨rfl,Or.inr (Or.inl ⟨by rw [hkk]; exact hk,hs,rfl⟩)⟩,by simp [tsz]; omega,hl,trivial,?_⟩
   have e:f + tsz T + tsz (BT.nil:ET) = i:=by simp [tsz]; omega
   rw [e]
   simp only [tN,hkk,hk]
   have e2:((f + tsz T:Nat):Int) - 1 = (i:Int) - 1:=by omega
   rw [e2]
   generalize atN xs i = o at *
   cases o
   simp_all
  ·have hle:=zAM hf2
   have hle1:=zAM hf1
   obtain ⟨T1,hs1,hz1,hl1⟩:=zCI xs htx n (f2 - 1) f (by omega) (by omega) hf1
   obtain ⟨T2,hs2,hz2,hl2⟩:=zCI xs htx n (i - 1) f2 (by omega) (by omega) hf2
   have hp:=hs1.pos
   have hq:=hs2.pos
   have ef:f + tsz T1 = f2:=by omega
   refine ⟨.node (atN xs i).k.toNat 0 (atN xs i).t T1 T2,⟨rfl,Or.inr (Or.inr ⟨by rw [hkk]; exact hk,hs1,hs2⟩)⟩,by simp [tsz]; omega,hl1,by rw [ef]; exact hl2,?_⟩
   have e:f + tsz T1 + tsz T2 = i:=by omega
   rw [e]
   simp only [tN,hkk,hk]
   have e2:((f + tsz T1:Nat):Int) - 1 = (f2:Int) - 1:=by omega
   have e3:((f + tsz T1 + tsz T2:Nat):Int) - 1 = (i:Int) - 1:=by omega
   rw [e2,e3]
   generalize atN xs i = o at *
   cases o
   simp_all
theorem zAL.nonneg {o:zD} (h:zAL o):0 <= o.k:=by
 rcases h.2 with ⟨h,_⟩ | ⟨h,_⟩ | ⟨h,_⟩ | ⟨h | h | h,_⟩ <;> omega
theorem zIq {xs:List zD} (h:ZL xs):∃ T,Sh T /\ tsz T = xs.length /\ xs = nd T 0:=by
 obtain ⟨T,hs,hz,hl⟩:=zCI xs (fun i hi=>(h.2.2.2 i hi).nonneg) xs.length (xs.length - 1) 0 (by have:=h.1; omega) (by have:=h.1; omega) h.2.2.1
 have e:tsz T = xs.length:=by have:=h.1; omega
 exact ⟨T,hs,e,zJe hl e.symm⟩
def rt (b:Nat) (t:ByteArray):zD:=⟨(b:Int),t,0,0⟩
def clT (ns:List OpR) (b:Nat) (t:ByteArray) (least:Int) (T:ET):ET:=if ZX ns (rt b t) < least then .node 6 0 ByteArray.empty T .nil else T
def grT (ns:List OpR):ET -> Int -> ET
 | .nil,_=>.nil
 | .node b _ t l r,least=>if b = 6 then grT ns l least else clT ns b t least (.node b 0 t (grT ns l (ZE ns (rt b t) false)) (grT ns r (ZE ns (rt b t) true)))
def exT (ns:List OpR):ET -> Value
 | .nil=>.nilIface
 | .node b _ t l r=>exN (opA ns (rt b t)) (rt b t) (exT ns l) (exT ns r)
theorem zKU (ns:List OpR) (o:zD) (b:Nat) (t:ByteArray) (h1:o.k = (b:Int)) (h2:o.t = t):ZX ns o = ZX ns (rt b t):=by
 unfold ZX rt; rw [h1,h2]
theorem zF0 (ns:List OpR) (o:zD) (b:Nat) (t:ByteArray) (h1:o.k = (b:Int)) (h2:o.t = t) (c:Bool):ZE ns o c = ZE ns (rt b t) c:=by
 unfold ZE rt; rw [h1,h2]
theorem zON (ns:List OpR):∀ (T:ET) (l:Int),Sh T -> Sh (grT ns T l):=by
 intro T
 induction T with
 | nil=>intro l h; exact h.elim
 | node b o t l r ihl ihr=>
  rintro least ⟨h0,h⟩
  simp only [grT]
  split
  ·rename_i h6
   subst h6
   rcases h with ⟨hk,_⟩ | ⟨_,hl,_⟩ | ⟨hk,_⟩
   ·exact absurd hk (by decide)
   ·exact ihl _ hl
   ·exact absurd hk (by decide)
  ·have:Sh (.node b 0 t (grT ns l (ZE ns (rt b t) false)) (grT ns r (ZE ns (rt b t) true))):=by
    refine ⟨rfl,?_⟩
    rcases h with ⟨hk,rfl,rfl⟩ | ⟨hk,hl,rfl⟩ | ⟨hk,hl,hr⟩
    ·exact Or.inl ⟨hk,rfl,rfl⟩
    ·exact Or.inr (Or.inl ⟨hk,ihl _ hl,rfl⟩)
    ·exact Or.inr (Or.inr ⟨hk,ihl _ hl,ihr _ hr⟩)
   unfold clT
   split
   ·exact ⟨rfl,Or.inr (Or.inl ⟨by decide,this,rfl⟩)⟩
   ·exact this
theorem zHj (ns:List OpR) (o:zD) (b:Nat) (t:ByteArray) (h1:o.k = (b:Int)) (h2:o.t = t) (least:Int) (s:Nat) (T:ET) (u:List zD) (hu:u = nd T s):zDF ns o least s u = nd (clT ns b t least T) s:=by
 subst hu
 unfold zDF clT
 rw [zKU ns o b t h1 h2]
 split
 ·simp only [nd,tN,ze,tsz]
  simp [show zR 6 = 1 from rfl,show zR ((6:Nat):Int) = 1 from rfl]
 ·rfl
theorem zNL (ns:List OpR) (xs:List zD):∀ (T:ET) (s:Nat),Sh T -> zDG xs T s -> ∀ (l:Int) (p:Nat),gS ns xs (s + tsz T - 1) l p = nd (grT ns T l) p:=by
 intro T
 induction T with
 | nil=>intro s h; exact h.elim
 | node b o t l r ihl ihr=>
  rintro s ⟨h0,hsh⟩ ⟨h1,h2,h3⟩ least p
  have e:s + tsz (.node b o t l r) - 1 = s + tsz l + tsz r:=by simp only [tsz]; omega
  rw [e]
  have hK:(atN xs (s + tsz l + tsz r)).k = (b:Int):=by rw [h3]; rfl
  have hT:(atN xs (s + tsz l + tsz r)).t = t:=by rw [h3]; rfl
  have hb6:((atN xs (s + tsz l + tsz r)).k = 6) ↔ b = 6:=by rw [hK]; omega
  rcases hsh with ⟨hk,rfl,rfl⟩ | ⟨hk,hl,rfl⟩ | ⟨hk,hl,hr⟩
  ·have hk':zR (atN xs (s + tsz (BT.nil:ET) + tsz (BT.nil:ET))).k = 0:=by rw [hK]; exact hk
   have h6:¬ b = 6:=fun e=>by subst e; exact absurd hk (by decide)
   rw [zHh hk']
   simp only [grT,if_neg h6]
   refine zHj ns _ b t hK hT least p _ _ ?_
   rw [hK,hT]
   simp [nd,tN,hk,tsz,grT]
  ·have hp:=hl.pos
   simp only [tsz,Nat.add_zero] at hK hT hb6 h3 ⊢
   have hk':zR (atN xs (s + tsz l)).k = 1:=by rw [hK]; exact hk
   have hfr:=zBW l s hl h1
   by_cases h6:b = 6
   ·rw [zFw (hb6.2 h6) (by omega) hfr,ihl s hl h1]
    simp only [grT,if_pos h6]
   ·rw [zJc hk' (fun x=>h6 (hb6.1 x)) (by omega) hfr least p (ihl s hl h1 _ p).symm]
    simp only [grT,if_neg h6]
    rw [zF0 ns _ b t hK hT]
    refine zHj ns _ b t hK hT least p _ _ ?_
    simp [nd,tN,hK,hT,hk,tsz,ze,grT]
  ·have hp:=hl.pos
   have hq:=hr.pos
   have hk':zR (atN xs (s + tsz l + tsz r)).k = 2:=by rw [hK]; exact hk
   have h6:¬ b = 6:=fun e=>by subst e; exact absurd hk (by decide)
   have f2:=zBW r (s + tsz l) hr h2
   have f1:=zBW l s hl h1
   rw [zJd hk' (by omega) f2 (by omega) (by rw [h3]; simp [tN,hk]) f1 least p (ihl s hl h1 _ p).symm (ihr (s + tsz l) hr h2 _ _).symm]
   simp only [grT,if_neg h6]
   rw [zF0 ns _ b t hK hT,zF0 ns _ b t hK hT]
   refine zHj ns _ b t hK hT least p _ _ ?_
   rw [hK,hT]
   simp [nd,tN,hk,tsz,ze,Nat.add_assoc]
structure Za where
 t:ByteArray
 o:Bool
 i:Bool
def Za.zero:Za:=⟨⟨#[]⟩,false,false⟩
def atW (xs:List Za) (i:Nat):Za:=xs.getD i Za.zero
def opn:ByteArray:=⟨#[40]⟩
def zA7:ByteArray:=⟨#[41]⟩
abbrev SyR:=Nat × ByteArray
def ySy:ET -> List SyR
 | .nil=>[]
 | .node b _ t l r=>
  if b = 6 then (6,opn) :: (ySy l ++ [(7,zA7)])
  else if b = 3 then (3,t) :: ySy l
  else if b = 5 then ySy l ++ [(5,t)]
  else if b = 4 then ySy l ++ ((4,t) :: ySy r)
  else [(b,t)]
def wS (s:SyR):Za:=⟨s.2,decide (3 <= s.1 /\ s.1 <= 5),decide (s.1 = 4)⟩
def yT (T:ET):List Za:=(ySy T).map wS
theorem zKV:∀ {T:ET},Sh T -> 1 <= (ySy T).length
 | .nil,h=>h.elim
 | .node b o t l r,h=>by
  simp only [ySy]
  split
  ·simp
  ·split
   ·simp
   ·split
    ·simp
    ·split
     ·simp; omega
     ·simp
theorem zOO {T:ET} (h:Sh T):1 <= (yT T).length:=by
 rw [yT,List.length_map]
 exact zKV h
end Go.Proofs.YtfboipappaonhaaGreat
namespace Go.Proofs.YtfboipappaonhaaGreat
set_option linter.unusedSimpArgs false
set_option linter.unusedVariables false
set_option maxHeartbeats 16000000
set_option maxRecDepth 100000
theorem zCb {a b:ByteArray} {i:Nat} (h:i < a.size):bt (a ++ b) i = bt a i:=by
 unfold bt
 rw [ByteArray.data_append,Array.getElem?_append_left (by simpa using h)]
theorem zBw {a b:ByteArray} (i:Nat):bt (a ++ b) (a.size + i) = bt b i:=by
 unfold bt
 rw [ByteArray.data_append,Array.getElem?_append_right (show a.data.size <= a.size + i from Nat.le_add_right _ _)]
 have e:a.size + i - a.data.size = i:=by show a.data.size + i - a.data.size = i; omega
 rw [e]
theorem zDH (a b c:ByteArray):a ++ b ++ c = a ++ (b ++ c):=by
 apply ByteArray.ext
 simp [ByteArray.data_append,Array.append_assoc]
theorem zA8 (a b:ByteArray):(a ++ b).size = a.size + b.size:=by simp
theorem zHk (a:ByteArray):a.size = a.data.toList.length:=rfl
theorem zL2 {a b:ByteArray} (h:a.data.toList = b.data.toList):a = b:=by
 apply ByteArray.ext
 exact Array.ext' h
theorem zL3 (s:ByteArray) (i j:Nat):(s.extract i j).data.toList = (s.data.toList.drop i).take (j - i):=by
 rw [ByteArray.data_extract,Array.toList_extract,List.extract_eq_take_drop]
theorem zJf (a b:ByteArray):(a ++ b).data.toList = a.data.toList ++ b.data.toList:=by rw [ByteArray.data_append,Array.toList_append]
theorem zHl (a l r:ByteArray):(a ++ (l ++ r)).extract a.size (a.size + l.size) = l:=by
 apply zL2
 rw [zL3,zJf,zJf,zHk a,zHk l,List.drop_left,Nat.add_sub_cancel_left,List.take_left]
theorem zNM (a r:ByteArray):(a ++ r).extract a.size (a ++ r).size = r:=by
 apply zL2
 rw [zL3,zJf,zA8,zHk a,zHk r,List.drop_left,Nat.add_sub_cancel_left,List.take_length]
end Go.Proofs.YtfboipappaonhaaGreat
namespace Go.Proofs.YtfboipappaonhaaGreat
set_option linter.unusedSimpArgs false
set_option linter.unusedVariables false
set_option maxHeartbeats 16000000
set_option maxRecDepth 100000
open Go.RowKit
def WdK (ns:List OpR) (t:ByteArray) (k:Nat):Prop:=(k = 1 /\ zDA t) \/ (k = 2 /\ zBH t) \/ (k = 3 /\ opT ns t) \/ (k = 4 /\ t = opn) \/ (k = 5 /\ t = zA7)
def Sep (k:Nat) (R:ByteArray):Prop:=0 < R.size -> ((k = 1 \/ k = 2) -> cls (bt R 0) ≠ 2 /\ cls (bt R 0) ≠ 3) /\ (k = 3 -> cls (bt R 0) ≠ 6)
theorem zDs {ns:List OpR} (hv:zi ns) {t:ByteArray} (h:opT ns t):1 <= t.size /\ ∀ q,q < t.size -> cls (bt t q) = 6:=by
 obtain ⟨j,hj,rfl⟩:=h
 exact ⟨(hv j hj).1,(hv j hj).2.2⟩
theorem zEH {ns:List OpR} (hv:zi ns) {t:ByteArray} {k:Nat} (h:WdK ns t k):1 <= t.size:=by
 rcases h with ⟨_,h⟩ | ⟨_,h⟩ | ⟨_,h⟩ | ⟨_,rfl⟩ | ⟨_,rfl⟩
 ·exact h.1
 ·exact h.1
 ·exact (zDs hv h).1
 ·decide
 ·decide
theorem zK3 {ns:List OpR} (hv:zi ns) {t:ByteArray} {k:Nat} (h:WdK ns t k):cls (bt t 0) ≠ 1:=by
 rcases h with ⟨_,h⟩ | ⟨_,h⟩ | ⟨_,h⟩ | ⟨_,rfl⟩ | ⟨_,rfl⟩
 ·rw [h.2 0 h.1]; decide
 ·rcases h.2 0 h.1 with e | ⟨e,_⟩
  ·rw [e]; decide
  ·exact absurd rfl e
 ·rw [(zDs hv h).2 0 (zDs hv h).1]; decide
 ·decide
 ·decide
theorem zJg {ns:List OpR} (hv:zi ns) (P w R:ByteArray) {k:Nat} (h:WdK ns w k) (hs:Sep k R):zBI ns (P ++ (w ++ R)) P.size w.size k:=by
 have h1:=zEH hv h
 have hz:(P ++ (w ++ R)).size = P.size + (w.size + R.size):=by rw [zA8,zA8]
 have b1:∀ j,j < w.size -> bt (P ++ (w ++ R)) (P.size + j) = bt w j:=fun j hj=>by rw [zBw,zCb hj]
 have b0:bt (P ++ (w ++ R)) P.size = bt w 0:=b1 0 h1
 have b2:bt (P ++ (w ++ R)) (P.size + w.size) = bt R 0:=by
  rw [zBw]
  have:=zBw (a:=w) (b:=R) 0
  rw [Nat.add_zero] at this
  exact this
 have hR:P.size + w.size < (P ++ (w ++ R)).size -> 0 < R.size:=fun x=>by omega
 refine ⟨h1,by omega,?_⟩
 rcases h with ⟨rfl,h⟩ | ⟨rfl,h⟩ | ⟨rfl,h⟩ | ⟨rfl,rfl⟩ | ⟨rfl,rfl⟩
 ·exact Or.inl ⟨by rw [b0]; exact h.2 0 h1,rfl,fun j hj=>by rw [b1 j hj]; exact h.2 j hj,fun x=>by rw [b2]; exact ((hs (hR x)).1 (Or.inl rfl)).1⟩
 ·refine Or.inr (Or.inl ⟨?_,rfl,fun j hj=>?_,fun x=>?_⟩)
  ·rw [b0]
   rcases h.2 0 h1 with e | ⟨e,_⟩
   ·exact e
   ·exact absurd rfl e
  ·rw [b1 j hj]
   rcases h.2 j hj with e | ⟨_,e⟩
   ·exact Or.inr e
   ·exact Or.inl e
  ·rw [b2]
   have:=(hs (hR x)).1 (Or.inr rfl)
   exact fun y=>y.elim this.1 this.2
 ·have hc:=zDs hv h
  have e:sub (P ++ (w ++ R)) P.size w.size = w:=zHl P w R
  refine Or.inr (Or.inr (Or.inr (Or.inr (Or.inl ⟨by rw [b0]; exact hc.2 0 h1,Or.inl ⟨rfl,by rw [e]; exact h,fun m hm hms ho=>?_⟩⟩))))
  have hcm:=zDs hv ho
  have hR':0 < R.size:=by omega
  have:=hcm.2 w.size (by rw [zAF hms]; exact hm)
  rw [zBs hms hm,b2] at this
  exact (hs hR').2 rfl this
 ·exact Or.inr (Or.inr (Or.inl ⟨by rw [b0]; decide,rfl,rfl⟩))
 ·exact Or.inr (Or.inr (Or.inr (Or.inl ⟨by rw [b0]; decide,rfl,rfl⟩)))
structure GwR where
 g:ByteArray
 w:ByteArray
 k:Nat
def spr:List GwR -> ByteArray -> ByteArray
 | [],e=>e
 | x :: r,e=>x.g ++ (x.w ++ spr r e)
def Bl (g:ByteArray):Prop:=∀ i,i < g.size -> cls (bt g i) = 1
def zHm (ns:List OpR):List GwR -> ByteArray -> Prop
 | [],e=>Bl e
 | x :: r,e=>Bl x.g /\ WdK ns x.w x.k /\ Sep x.k (spr r e) /\ zHm ns r e
def zL4 (x:GwR):zI:=⟨(x.k:Int),x.g,x.w⟩
theorem zG4 {ns:List OpR} (hv:zi ns):∀ (xs:List GwR) (e a:ByteArray),zHm ns xs e -> ZK ns (a ++ spr xs e) a.size (xs.map zL4 ++ [⟨7,e,⟨#[]⟩⟩])
 | [],e,a,h=>by
  have hz:=zA8 a e
  have:=ZK.fin (xs:=ns) (s:=a ++ e) (i:=a.size) (by omega) (fun q h1 h2=>by
   obtain ⟨j,rfl⟩:=Nat.exists_eq_add_of_le h1
   rw [zBw]
   exact h j (by omega))
  rw [zNM] at this
  exact this
 | x :: r,e,a,h=>by
  obtain ⟨h1,h2,h3,h4⟩:=h
  have ih:=zG4 hv r e (a ++ x.g ++ x.w) h4
  have hp:=zEH hv h2
  have e1:a ++ x.g ++ x.w ++ spr r e = a ++ (x.g ++ (x.w ++ spr r e)):=by rw [zDH,zDH]
  have e2:(a ++ x.g ++ x.w).size = a.size + x.g.size + x.w.size:=by rw [zA8,zA8]
  have e3:(a ++ x.g) ++ (x.w ++ spr r e) = a ++ (x.g ++ (x.w ++ spr r e)):=by rw [zDH]
  have e4:(a ++ x.g).size = a.size + x.g.size:=zA8 _ _
  have hz:(a ++ (x.g ++ (x.w ++ spr r e))).size = a.size + (x.g.size + (x.w.size + (spr r e).size)):=by rw [zA8,zA8,zA8]
  rw [e1,e2] at ih
  have ht:=zJg hv (a ++ x.g) x.w (spr r e) h2 h3
  have hx:=zHl (a ++ x.g) x.w (spr r e)
  have hb:=zBw (a:=a ++ x.g) (b:=x.w ++ spr r e) 0
  rw [e3,e4] at ht hx hb
  have hg:=zHl a x.g (x.w ++ spr r e)
  have:=ZK.tok (xs:=ns) (s:=a ++ (x.g ++ (x.w ++ spr r e))) (i:=a.size) (j:=a.size + x.g.size) (n:=x.w.size) (k:=x.k) (by omega) (by omega) (fun q q1 q2=>by
   obtain ⟨j,rfl⟩:=Nat.exists_eq_add_of_le q1
   rw [zBw,zCb (by omega)]
   exact h1 j (by omega)) (by
   rw [Nat.add_zero] at hb
   rw [hb,zCb hp]
   exact zK3 hv h2) ht ih
  rw [hg,hx] at this
  exact this
theorem zIr {ns:List OpR} (hv:zi ns) (xs:List GwR) (e:ByteArray) (h:zHm ns xs e):ZK ns (spr xs e) 0 (xs.map zL4 ++ [⟨7,e,⟨#[]⟩⟩]):=by
 have:=zG4 hv xs e ByteArray.empty h
 have e1:ByteArray.empty ++ spr xs e = spr xs e:=by apply ByteArray.ext; simp [ByteArray.data_append]
 rw [e1] at this
 exact this
end Go.Proofs.YtfboipappaonhaaGreat
