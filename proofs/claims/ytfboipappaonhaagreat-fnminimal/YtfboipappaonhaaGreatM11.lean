import Derived.Test.YtfboipappaonhaaGreatM10
namespace Go.Proofs.YtfboipappaonhaaGreat
set_option maxHeartbeats 16000000
set_option maxRecDepth 100000
open Go.RowKit
def zT (ns:List OpR) (o:zD) (b:Bool):Int:=match fnd ns o.t (o.k - 2) with
 | some j=>zAe ns j b
 | none=>0
def zAk (ns:List OpR) (o:zD) (least:Int) (s:Nat) (u:List zD):List zD:=
 if ZI ns o < least then u ++ [⟨6,ByteArray.empty,((s + u.length:Nat):Int) - 1,0⟩] else u
def gr (ns:List OpR) (xs:List zD):Nat -> Nat -> Int -> Nat -> List zD
 | 0,_,_,_=>[]
 | n + 1,i,least,s=>
  if (atN xs i).k = 6 then gr ns xs n (i - 1) least s
  else if zR (atN xs i).k = 0 then zAk ns (atN xs i) least s [⟨(atN xs i).k,(atN xs i).t,0,0⟩]
  else if zR (atN xs i).k = 1 then
   zAk ns (atN xs i) least s (gr ns xs n (i - 1) (zT ns (atN xs i) false) s ++ [⟨(atN xs i).k,(atN xs i).t,((s + (gr ns xs n (i - 1) (zT ns (atN xs i) false) s).length:Nat):Int) - 1,0⟩])
  else
   zAk ns (atN xs i) least s ((gr ns xs n (atN xs i).a.toNat (zT ns (atN xs i) false) s ++ gr ns xs n (i - 1) (zT ns (atN xs i) true) (s + (gr ns xs n (atN xs i).a.toNat (zT ns (atN xs i) false) s).length)) ++
    [⟨(atN xs i).k,(atN xs i).t,((s + (gr ns xs n (atN xs i).a.toNat (zT ns (atN xs i) false) s).length:Nat):Int) - 1,((s + (gr ns xs n (atN xs i).a.toNat (zT ns (atN xs i) false) s).length + (gr ns xs n (i - 1) (zT ns (atN xs i) true) (s + (gr ns xs n (atN xs i).a.toNat (zT ns (atN xs i) false) s).length)).length:Nat):Int) - 1⟩])
theorem zCN (ns:List OpR) (xs:List zD):∀ n m i f,i < n -> i < m -> frS xs i = some f -> ∀ l s,gr ns xs n i l s = gr ns xs m i l s
 | 0,_,_,_,h,_,_=>absurd h (Nat.not_lt_zero _)
 | _ + 1,0,_,_,_,h,_=>absurd h (Nat.not_lt_zero _)
 | n + 1,m + 1,i,f,h,h',hf=>by
  intro l s
  rcases Z1 hf with ⟨hk,ha,hb,hfi⟩ | ⟨hk,h1i,ha,hbb,hf1⟩ | ⟨hk,h1i,hbb,f2,hf2,h2f,ha,hf1⟩
  ·have h6:(atN xs i).k ≠ 6:=fun e=>by rw [e] at hk; simp [zR] at hk
   simp only [gr,if_neg h6,hk,if_true]
  ·have e:=zCN ns xs n m (i - 1) f (by omega) (by omega) hf1
   simp only [gr,e]
   by_cases h6:(atN xs i).k = 6
   ·rw [if_pos h6,if_pos h6]
   ·simp only [if_neg h6,hk,if_true,Nat.one_ne_zero,if_false]
  ·have h6:(atN xs i).k ≠ 6:=fun e=>by rw [e] at hk; simp [zR] at hk
   have hle:=ZU hf2
   have e1:=zCN ns xs n m (i - 1) f2 (by omega) (by omega) hf2
   have e2:=zCN ns xs n m (f2 - 1) f (by omega) (by omega) hf1
   have ea:(atN xs i).a.toNat = f2 - 1:=by omega
   simp only [gr,if_neg h6,ea,e1,e2]
def gS (ns:List OpR) (xs:List zD) (i:Nat) (l:Int) (s:Nat):List zD:=gr ns xs (i + 1) i l s
theorem zBD {ns:List OpR} {xs:List zD} {i:Nat} (hk:zR (atN xs i).k = 0) (l:Int) (s:Nat):gS ns xs i l s = zAk ns (atN xs i) l s [⟨(atN xs i).k,(atN xs i).t,0,0⟩]:=by
 have h6:(atN xs i).k ≠ 6:=fun e=>by rw [e] at hk; simp [zR] at hk
 simp only [gS,gr,if_neg h6,hk,if_true]
theorem zBO {ns:List OpR} {xs:List zD} {i f:Nat} (hk:(atN xs i).k = 6) (h1:1 <= i) (hf:frS xs (i - 1) = some f) (l:Int) (s:Nat):gS ns xs i l s = gS ns xs (i - 1) l s:=by
 have e:gS ns xs i l s = gr ns xs i (i - 1) l s:=by simp only [gS,gr,if_pos hk]
 rw [e]
 exact zCN ns xs _ _ _ f (by omega) (by omega) hf l s
theorem zCO {ns:List OpR} {xs:List zD} {i f:Nat} (hk:zR (atN xs i).k = 1) (h6:(atN xs i).k ≠ 6) (h1:1 <= i) (hf:frS xs (i - 1) = some f) (l:Int) (s:Nat) {u:List zD} (hu:u = gS ns xs (i - 1) (zT ns (atN xs i) false) s) :
  gS ns xs i l s = zAk ns (atN xs i) l s (u ++ [⟨(atN xs i).k,(atN xs i).t,((s + u.length:Nat):Int) - 1,0⟩]):=by
 have e:=zCN ns xs i (i - 1 + 1) (i - 1) f (by omega) (by omega) hf
 subst hu
 unfold gS
 conv=>lhs; unfold gr
 simp only [if_neg h6,hk,if_true,Nat.one_ne_zero,if_false,e]
theorem zDB {ns:List OpR} {xs:List zD} {i f f2:Nat} (hk:zR (atN xs i).k = 2) (h1:1 <= i) (hf2:frS xs (i - 1) = some f2) (h2:1 <= f2) (ha:(atN xs i).a = (f2:Int) - 1) (hf:frS xs (f2 - 1) = some f) (l:Int) (s:Nat) {u1 u2:List zD}
  (hu1:u1 = gS ns xs (f2 - 1) (zT ns (atN xs i) false) s) (hu2:u2 = gS ns xs (i - 1) (zT ns (atN xs i) true) (s + u1.length)) :
  gS ns xs i l s = zAk ns (atN xs i) l s ((u1 ++ u2) ++ [⟨(atN xs i).k,(atN xs i).t,((s + u1.length:Nat):Int) - 1,((s + u1.length + u2.length:Nat):Int) - 1⟩]):=by
 have h6:(atN xs i).k ≠ 6:=fun e=>by rw [e] at hk; simp [zR] at hk
 have hle:=ZU hf2
 have e1:=zCN ns xs i (i - 1 + 1) (i - 1) f2 (by omega) (by omega) hf2
 have e2:=zCN ns xs i (f2 - 1 + 1) (f2 - 1) f (by omega) (by omega) hf
 have ea:(atN xs i).a.toNat = f2 - 1:=by omega
 subst hu2
 subst hu1
 unfold gS
 conv=>lhs; unfold gr
 simp only [if_neg h6,ea,e1,e2,hk]
 rfl
theorem zFH (ns:List OpR) (o:zD) (l:Int) (s:Nat) (u:List zD):u.length <= (zAk ns o l s u).length /\ (zAk ns o l s u).length <= u.length + 1:=by
 unfold zAk
 split <;> simp
theorem zAN (ns:List OpR) (xs:List zD):∀ n i f,i < n -> frS xs i = some f -> ∀ l s,1 <= (gS ns xs i l s).length /\ (gS ns xs i l s).length <= 2 * (i + 1 - f)
 | 0,_,_,h,_=>absurd h (Nat.not_lt_zero _)
 | n + 1,i,f,h,hf=>by
  intro l s
  rcases Z1 hf with ⟨hk,ha,hb,hfi⟩ | ⟨hk,h1i,ha,hbb,hf1⟩ | ⟨hk,h1i,hbb,f2,hf2,h2f,ha,hf1⟩
  ·rw [zBD hk]
   have:=zFH ns (atN xs i) l s [⟨(atN xs i).k,(atN xs i).t,0,0⟩]
   simp only [List.length_cons,List.length_nil] at this
   omega
  ·have hle:=ZU hf1
   by_cases h6:(atN xs i).k = 6
   ·rw [zBO h6 h1i hf1]
    have:=zAN ns xs n (i - 1) f (by omega) hf1 l s
    omega
   ·rw [zCO hk h6 h1i hf1 l s rfl]
    have h1:=zAN ns xs n (i - 1) f (by omega) hf1 (zT ns (atN xs i) false) s
    have h2:=zFH ns (atN xs i) l s (gS ns xs (i - 1) (zT ns (atN xs i) false) s ++ [⟨(atN xs i).k,(atN xs i).t,((s + (gS ns xs (i - 1) (zT ns (atN xs i) false) s).length:Nat):Int) - 1,0⟩])
    simp only [List.length_append,List.length_cons,List.length_nil] at h2
    omega
  ·have hle:=ZU hf2
   have hle1:=ZU hf1
   obtain ⟨u1,hu1⟩:∃ u1,u1 = gS ns xs (f2 - 1) (zT ns (atN xs i) false) s:=⟨_,rfl⟩
   obtain ⟨u2,hu2⟩:∃ u2,u2 = gS ns xs (i - 1) (zT ns (atN xs i) true) (s + u1.length):=⟨_,rfl⟩
   rw [zDB hk h1i hf2 h2f ha hf1 l s hu1 hu2]
   have h1:=zAN ns xs n (f2 - 1) f (by omega) hf1 (zT ns (atN xs i) false) s
   have h2:=zAN ns xs n (i - 1) f2 (by omega) hf2 (zT ns (atN xs i) true) (s + u1.length)
   rw [<- hu1] at h1
   rw [<- hu2] at h2
   have h3:=zFH ns (atN xs i) l s ((u1 ++ u2) ++ [⟨(atN xs i).k,(atN xs i).t,((s + u1.length:Nat):Int) - 1,((s + u1.length + u2.length:Nat):Int) - 1⟩])
   simp only [List.length_append,List.length_cons,List.length_nil] at h3
   omega
theorem zBP (ns:List OpR) (xs:List zD):∀ n i f,i < n -> frS xs i = some f -> ∀ l s s',(gS ns xs i l s).length = (gS ns xs i l s').length
 | 0,_,_,h,_=>absurd h (Nat.not_lt_zero _)
 | n + 1,i,f,h,hf=>by
  intro l s s'
  have cl:∀ u u':List zD,u.length = u'.length -> (zAk ns (atN xs i) l s u).length = (zAk ns (atN xs i) l s' u').length:=by
   intro u u' hu
   unfold zAk
   split <;> simp [hu]
  rcases Z1 hf with ⟨hk,ha,hb,hfi⟩ | ⟨hk,h1i,ha,hbb,hf1⟩ | ⟨hk,h1i,hbb,f2,hf2,h2f,ha,hf1⟩
  ·rw [zBD hk,zBD hk]
   exact cl _ _ rfl
  ·by_cases h6:(atN xs i).k = 6
   ·rw [zBO h6 h1i hf1,zBO h6 h1i hf1]
    exact zBP ns xs n (i - 1) f (by omega) hf1 l s s'
   ·rw [zCO hk h6 h1i hf1 l s rfl,zCO hk h6 h1i hf1 l s' rfl]
    apply cl
    simp [zBP ns xs n (i - 1) f (by omega) hf1 (zT ns (atN xs i) false) s s']
  ·have hle:=ZU hf2
   rw [zDB hk h1i hf2 h2f ha hf1 l s rfl rfl,zDB hk h1i hf2 h2f ha hf1 l s' rfl rfl]
   apply cl
   have e1:=zBP ns xs n (f2 - 1) f (by omega) hf1 (zT ns (atN xs i) false) s s'
   have e2:=zBP ns xs n (i - 1) f2 (by omega) hf2 (zT ns (atN xs i) true) (s + (gS ns xs (f2 - 1) (zT ns (atN xs i) false) s).length) (s' + (gS ns xs (f2 - 1) (zT ns (atN xs i) false) s').length)
   simp only [List.length_append,List.length_cons,List.length_nil]
   rw [e2,e1]
def zBE (ns:List OpR) (xs us:List zD) (v:Bool):Prop:=
 (((zO ns 0 /\ zu xs /\ zAY ns xs) /\ (gS ns xs (xs.length - 1) 0 0).length <= 20000) /\ v = true /\ us = gS ns xs (xs.length - 1) 0 0) \/
 (¬ ((zO ns 0 /\ zu xs /\ zAY ns xs) /\ (gS ns xs (xs.length - 1) 0 0).length <= 20000) /\ v = false /\ us = [])
theorem zBE.one {ns:List OpR} {xs us us':List zD} {v v':Bool} (h:zBE ns xs us v) (h':zBE ns xs us' v'):us = us' /\ v = v':=by
 rcases h with ⟨a,rfl,rfl⟩ | ⟨a,rfl,rfl⟩
 ·rcases h' with ⟨_,rfl,rfl⟩ | ⟨a',_⟩
  ·exact ⟨rfl,rfl⟩
  ·exact absurd a a'
 ·rcases h' with ⟨a',_⟩ | ⟨_,rfl,rfl⟩
  ·exact absurd a' a
  ·exact ⟨rfl,rfl⟩
theorem zBE.len {ns:List OpR} {xs us:List zD} {v:Bool} (h:zBE ns xs us v):us.length <= 20000:=by
 rcases h with ⟨a,_,rfl⟩ | ⟨_,_,rfl⟩
 ·exact a.2
 ·simp
end Go.Proofs.YtfboipappaonhaaGreat
namespace Go.Proofs.YtfboipappaonhaaGreat
set_option linter.unusedSimpArgs false
set_option linter.unusedVariables false
set_option maxHeartbeats 16000000
set_option maxRecDepth 100000
open Go.RowKit
def ShN (us:List zD):Prop:=∀ o ∈ us,o.t.size <= 2000
theorem ShN.at {us:List zD} (h:ShN us) (i:Nat):(atN us i).t.size <= 2000:=by
 by_cases hi:i < us.length
 ·have:atN us i = us[i]:=by unfold atN; simp [List.getD,hi]
  rw [this]; exact h _ (List.getElem_mem hi)
 ·have:atN us i = zD.zero:=by unfold atN; simp [List.getD,List.getElem?_eq_none (Nat.le_of_not_lt hi)]
  rw [this]; show 0 <= 2000; omega
theorem ShN.sized {us:List zD} (h:ShN us):Zj us:=fun i _=>by have:=h.at i; unfold maxLen; omega
theorem ShN.snoc {us:List zD} (h:ShN us) {o:zD} (ho:o.t.size <= 2000):ShN (us ++ [o]):=by
 intro x hx
 rcases List.mem_append.1 hx with hx | hx
 ·exact h x hx
 ·simp at hx; subst hx; exact ho
theorem ShN.app {us vs:List zD} (h:ShN us) (h':ShN vs):ShN (us ++ vs):=by
 intro x hx
 rcases List.mem_append.1 hx with hx | hx
 ·exact h x hx
 ·exact h' x hx
theorem zGq:ShN []:=fun _ h=>by simp at h
theorem zFI (k:Nat):(zDV k).t.size <= 6:=by
 have e1:(⟨#[97,98,99,100,95,57]⟩:ByteArray).size = 6:=rfl
 have e2:(⟨#[48,49,55,50]⟩:ByteArray).size = 4:=rfl
 unfold zDV
 split
 ·show (ByteArray.extract _ _ _).size <= 6
  rw [ByteArray.size_extract]; omega
 ·show (ByteArray.extract _ _ _).size <= 6
  rw [ByteArray.size_extract]; omega
theorem zEl {ns:List OpR} (hn:∀ i,(atO ns i).s.size <= 16) (bs:List UInt8) (grp:Bool):∀ (d p:Nat) (us:List zD),(∀ o ∈ us,o.t.size <= 16) -> ∀ o ∈ (gen bs ns grp d p us).2,o.t.size <= 16
 | 0,p,us,h=>by
  have:=zFI (nxt bs (adv bs p))
  simp only [gen]
  intro o ho
  rcases List.mem_append.1 ho with ho | ho
  ·exact h o ho
  ·simp at ho; subst ho; omega
 | d + 1,p,us,h=>by
  have hl:=zFI (nxt bs (adv bs p))
  have h1:=zEl hn bs grp d (adv bs p) us h
  have h2:=zEl hn bs grp d (gen bs ns grp d (adv bs p) us).1 _ h1
  have h3:=hn (nxt bs p / 8 % ns.length)
  have sn:∀ (vs:List zD) (x:zD),(∀ o ∈ vs,o.t.size <= 16) -> x.t.size <= 16 -> ∀ o ∈ vs ++ [x],o.t.size <= 16:=fun vs x hv hx o ho=>by
   rcases List.mem_append.1 ho with ho | ho
   ·exact hv o ho
   ·simp at ho; subst ho; exact hx
  simp only [gen]
  split
  ·exact sn _ _ h (by omega)
  ·split
   ·exact sn _ _ h1 (by show 0 <= 16; omega)
   ·split
    ·exact sn _ _ h2 h3
    ·exact sn _ _ h1 h3
theorem zKz:∀ n,ShN (gpT n)
 | 0=>fun o ho=>by simp [gpT] at ho; subst ho; show 1 <= 2000; omega
 | n + 1=>(zKz n).snoc (by show 0 <= 2000; omega)
theorem zK0:∀ n,ShN (chT n)
 | 0=>fun o ho=>by simp [chT] at ho; subst ho; show 1 <= 2000; omega
 | n + 1=>(zK0 n).snoc (by show 1 <= 2000; omega)
theorem zM5 {us:List zD} (h:∀ o ∈ us,o.t.size <= 16) (k v:Nat):ShN (spT us k v):=by
 have hS:ShN us:=fun o ho=>by have:=h o ho; omega
 unfold spT
 split
 ·exact fun o ho=>hS o (List.mem_of_mem_take ho)
 ·split
  ·exact zKz _
  ·intro o ho
   rcases List.mem_or_eq_of_mem_set ho with ho | ho
   ·exact hS o ho
   ·subst ho
    have h1:=hS.at (v % us.length)
    have h2:(atN us (v % us.length)).t.size <= 16:=by
     by_cases hi:v % us.length < us.length
     ·have:atN us (v % us.length) = us[v % us.length]:=by unfold atN; simp [List.getD,hi]
      rw [this]; exact h _ (List.getElem_mem hi)
     ·have:atN us (v % us.length) = zD.zero:=by unfold atN; simp [List.getD,List.getElem?_eq_none (Nat.le_of_not_lt hi)]
      rw [this]; show 0 <= 16; omega
    have e1:(⟨#[43,45,49,97,40]⟩:ByteArray).size = 5:=rfl
    have e2:(⟨#[95]⟩:ByteArray).size = 1:=rfl
    unfold spN
    split
    ·exact h1
    ·split
     ·show (ByteArray.extract _ _ _).size <= 2000
      rw [ByteArray.size_extract]; omega
     ·split
      ·exact h1
      ·split
       ·exact h1
       ·split
        ·show (_ ++ _:ByteArray).size <= 2000
         rw [ByteArray.size_append]; omega
        ·show 0 <= 2000; omega
theorem zLz (us:List zD) (k v:Nat) (h:us.length <= 1000):(spT us k v).length <= 30000:=by
 unfold spT
 split
 ·rw [List.length_take]; omega
 ·split
  ·rw [zEk]; omega
  ·rw [List.length_set]; omega
theorem zGr {ns:List OpR} {o:zD} {l:Int} {s:Nat} {u:List zD} (h:ShN u):ShN (zAk ns o l s u):=by
 unfold zAk
 split
 ·exact h.snoc (by show 0 <= 2000; omega)
 ·exact h
theorem zMr (ns:List OpR) {xs:List zD} (h:ShN xs):∀ n i l s,ShN (gr ns xs n i l s)
 | 0,_,_,_=>by simp only [gr]; exact zGq
 | n + 1,i,l,s=>by
  have ht:=h.at i
  have ih:=zMr ns h n
  simp only [gr]
  split
  ·exact ih _ _ _
  ·split
   ·exact zGr (ShN.snoc (us:=[]) zGq ht)
   ·split
    ·exact zGr ((ih _ _ _).snoc ht)
    ·exact zGr (((ih _ _ _).app (ih _ _ _)).snoc ht)
def tr0 (bs:List UInt8) (p:Nat) (ys:List OpR) (q:Nat):Nat × List zD:=gen bs ys (decide (nxt bs p % 2 = 1)) (2 + nxt bs q % 5) (adv bs q) []
def tr1 (bs:List UInt8) (p:Nat) (ys:List OpR) (q:Nat):List zD:=
 if nxt bs p % 5 = 4 then spT (tr0 bs p ys q).2 (nxt bs (1 + nxt bs p % 7)) (nxt bs (adv bs (1 + nxt bs p % 7))) else (tr0 bs p ys q).2
def pl1 (bs:List UInt8) (p:Nat) (ys:List OpR) (q:Nat):Nat:=if nxt bs p % 5 = 4 then adv bs (adv bs (1 + nxt bs p % 7)) else (tr0 bs p ys q).1
def tb1 (bs:List UInt8) (p:Nat) (ys:List OpR) (q:Nat):List OpR:=if nxt bs p % 20 = 3 then zA2 ys bs (pl1 bs p ys q) else ys
def pl2 (bs:List UInt8) (p:Nat) (ys:List OpR) (q:Nat):Nat:=if nxt bs p % 20 = 3 then zBN ys bs (pl1 bs p ys q) else pl1 bs p ys q
def zAE (bs:List UInt8) (p:Nat) (ns:List OpR) (us:List zD):Prop:=
 ∃ ys q,zBL bs (adv bs (adv bs p)) (3 + nxt bs (adv bs p) % 8) ys q /\
  ((nxt bs p % 32 = 21 /\ ns = zCH /\ us = chT (997 + nxt bs (pl2 bs p ys q) % 5)) \/
   (nxt bs p % 32 ≠ 21 /\ ns = tb1 bs p ys q /\ ((nxt bs p % 4 = 2 /\ ∃ gs v,zBE (tb1 bs p ys q) (tr1 bs p ys q) gs v /\ us = if v = true then gs else tr1 bs p ys q) \/ (nxt bs p % 4 ≠ 2 /\ us = tr1 bs p ys q))))
theorem zAE.one {bs:List UInt8} {p:Nat} {ns ns':List OpR} {us us':List zD} (h:zAE bs p ns us) (h':zAE bs p ns' us'):ns = ns' /\ us = us':=by
 obtain ⟨ys,q,ht,hc⟩:=h
 obtain ⟨ys',q',ht',hc'⟩:=h'
 obtain ⟨rfl,rfl⟩:=ht.one ht'
 rcases hc with ⟨e,rfl,rfl⟩ | ⟨e,rfl,hc⟩ <;> rcases hc' with ⟨e',rfl,rfl⟩ | ⟨e',rfl,hc'⟩
 ·exact ⟨rfl,rfl⟩
 ·exact absurd e e'
 ·exact absurd e' e
 ·refine ⟨rfl,?_⟩
  rcases hc with ⟨f,gs,v,hg,rfl⟩ | ⟨f,rfl⟩ <;> rcases hc' with ⟨f',gs',v',hg',rfl⟩ | ⟨f',rfl⟩
  ·obtain ⟨rfl,rfl⟩:=hg.one hg'
   rfl
  ·exact absurd f f'
  ·exact absurd f' f
  ·rfl
theorem zJO {xs:List OpR} (h:∀ i,i < xs.length -> (atO xs i).s.size <= 16) (i:Nat):(atO xs i).s.size <= 16:=by
 by_cases hi:i < xs.length
 ·exact h i hi
 ·have:atO xs i = OpR.zero:=by unfold atO; simp [List.getD,List.getElem?_eq_none (Nat.le_of_not_lt hi)]
  rw [this]; show 0 <= 16; omega
theorem zBL.kinds {bs:List UInt8} {p0:Nat}:∀ {k:Nat} {xs:List OpR} {p:Nat},zBL bs p0 k xs p -> ∀ i,i < xs.length -> 0 <= (atO xs i).k /\ (atO xs i).k <= 9
 | 0,xs,p,h=>by
  obtain ⟨rfl,_⟩:=h
  exact fun i hi=>by simp at hi
 | k + 1,xs,p,h=>by
  obtain ⟨ys,q,ht,_,hc⟩:=h
  have h2:=ht.kinds
  rcases hc with ⟨_,rfl⟩ | ⟨_,rfl⟩
  ·intro i hi
   by_cases e:i < ys.length
   ·have:atO (ys ++ [Zt (nxt bs q) (nxt bs (adv bs q)) true]) i = atO ys i:=by unfold atO; simp [List.getD,List.getElem?_append,e]
    rw [this]; exact h2 i e
   ·have e2:i = ys.length:=by simp at hi; omega
    have:atO (ys ++ [Zt (nxt bs q) (nxt bs (adv bs q)) true]) i = Zt (nxt bs q) (nxt bs (adv bs q)) true:=by unfold atO; simp [List.getD,e2]
    rw [this]
    show 0 <= ZE _ /\ ZE _ <= 9
    unfold ZE
    split
    ·omega
    ·split <;> omega
  ·exact h2
theorem zJP (bs:List UInt8) (p:Nat) (ys:List OpR) (q:Nat):1 <= (tr0 bs p ys q).2.length /\ (tr0 bs p ys q).2.length <= 1000:=by
 have h:=zDW bs ys (decide (nxt bs p % 2 = 1)) (2 + nxt bs q % 5) (adv bs q) []
 have hp6:(2:Nat) ^ (2 + nxt bs q % 5 + 1) <= 128:=by have:=Nat.pow_le_pow_right (show 0 < 2 by decide) (show 2 + nxt bs q % 5 + 1 <= 7 by omega); omega
 simp only [List.length_nil] at h
 unfold tr0
 omega
theorem zM6 {ys:List OpR} (h:∀ i,i < ys.length -> (atO ys i).s.size <= 16) (bs:List UInt8) (p q:Nat) (i:Nat) (hi:i < (tr0 bs p ys q).2.length):(atN (tr0 bs p ys q).2 i).t.size <= 1000:=by
 have h1:∀ o ∈ (tr0 bs p ys q).2,o.t.size <= 16:=zEl (zJO h) bs _ _ _ [] (fun o ho=>by simp at ho)
 have:atN (tr0 bs p ys q).2 i = (tr0 bs p ys q).2[i]:=by unfold atN; simp [List.getD,hi]
 rw [this]
 have:=h1 _ (List.getElem_mem hi)
 omega
theorem zGs (bs:List UInt8) (p:Nat) (ys:List OpR) (q:Nat):(tr1 bs p ys q).length <= 30000:=by
 have h:=zJP bs p ys q
 unfold tr1
 split
 ·exact zLz _ _ _ (by omega)
 ·omega
theorem zIY {ys:List OpR} (h:∀ i,i < ys.length -> (atO ys i).s.size <= 16) (bs:List UInt8) (p q:Nat):ShN (tr1 bs p ys q):=by
 have h1:∀ o ∈ (tr0 bs p ys q).2,o.t.size <= 16:=zEl (zJO h) bs _ _ _ [] (fun o ho=>by simp at ho)
 unfold tr1
 split
 ·exact zM5 h1 _ _
 ·exact fun o ho=>by have:=h1 o ho; omega
theorem zD6 {ys:List OpR} (h:∀ i,i < ys.length -> (atO ys i).s.size <= 16) (hl:ys.length <= 10) (bs:List UInt8) (p q:Nat):(tb1 bs p ys q).length <= 1048576 /\ Zr (tb1 bs p ys q):=by
 unfold tb1
 split
 ·obtain ⟨h4,h5⟩:=zGG h bs (pl1 bs p ys q)
  exact ⟨by omega,fun i hi=>by have:=h5 i hi; unfold maxLen; omega⟩
 ·exact ⟨by omega,fun i hi=>by have:=h i hi; unfold maxLen; omega⟩
theorem zAE.sized {bs:List UInt8} {p:Nat} {ns:List OpR} {us:List zD} (h:zAE bs p ns us):ns.length <= 1048576 /\ Zr ns /\ us.length <= 30000 /\ Zj us:=by
 obtain ⟨ys,q,ht,hc⟩:=h
 obtain ⟨h1,h2⟩:=ht.len
 have h3:=Nat.mod_lt (nxt bs (adv bs p)) (show 0 < 8 by decide)
 have hsh:=zIY h2 bs p q
 have hln:=zGs bs p ys q
 rcases hc with ⟨_,rfl,rfl⟩ | ⟨_,rfl,hc⟩
 ·refine ⟨by decide,fun i hi=>?_,by rw [zGn]; omega,(zK0 _).sized⟩
  have:i = 0:=by have:i < 1:=hi; omega
  subst this
  show 1 <= maxLen
  unfold maxLen; omega
 ·obtain ⟨h4,h5⟩:=zD6 h2 (by omega) bs p q
  refine ⟨h4,h5,?_⟩
  rcases hc with ⟨_,gs,v,hg,rfl⟩ | ⟨_,rfl⟩
  ·have hgl:=hg.len
   split
   ·refine ⟨by omega,ShN.sized ?_⟩
    rcases hg with ⟨_,_,rfl⟩ | ⟨_,_,rfl⟩
    ·exact zMr _ hsh _ _ _ _
    ·exact zGq
   ·exact ⟨hln,hsh.sized⟩
  ·exact ⟨hln,hsh.sized⟩
end Go.Proofs.YtfboipappaonhaaGreat
