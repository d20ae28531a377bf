import Derived.Deep.RegionHeld
import Derived.BigQuiet
import Derived.Test.YtfboipappaonhaaGreatV00
import Derived.Test.YtfboipappaonhaaGreatV05
import Derived.Test.YtfboipappaonhaaGreatV07
import Derived.Test.YtfboipappaonhaaGreatV10
import Derived.Test.YtfboipappaonhaaGreatV12
import Derived.Test.YtfboipappaonhaaGreatV22
namespace Go.Proofs.YtfboipappaonhaaGreat
set_option linter.unusedSimpArgs false
set_option linter.unusedVariables false
set_option maxHeartbeats 16000000
set_option maxRecDepth 100000
open Go.RowKit
def zCx (e:Value) (l:Int):Prop:=∃ T v f r,e = .iface T v /\ (∀ w,(method 342 T v "loop.example/s0059/impl.level").run Tryz.prog w = .ok (f,r) w) /\ (∀ a w,(callFunc f a).run Tryz.prog w = .ok (.enter f a) w) /\
 ∀ w,Calls Tryz.prog f #[r] w fun x w'=>x = .returned (.int .i64 l) /\ Below w.heap.size w w'
theorem zCG (w:World):Calls Tryz.prog 185 #[.agg #[]] w fun x w'=>x = .returned (.int .i64 1001) /\ Below w.heap.size w w':=by
 go_enter Tryz.func185,Tryz.ntmps185
 go_wp2_with fail
 go_ret
 exact ⟨rfl,by first | exact zC _ _ | exact Below.refl _ _⟩
theorem zA6 (p:OpR) (w:World):Calls Tryz.prog 189 #[.agg #[.string p.s,.int .i64 p.k,.int .i64 p.l,.int .i64 p.sd]] w fun x w'=>x = .returned (.int .i64 p.l) /\ Below w.heap.size w w':=by
 go_enter Tryz.func189,Tryz.ntmps189
 go_wp2_with fail
 go_ret
 exact ⟨rfl,by first | exact zC _ _ | exact Below.refl _ _⟩
theorem zJZ (t:ByteArray):zCx (zG1 t) 1001:=⟨_,_,185,.agg #[],rfl,fun w=>by kernel_rfl,fun a w=>by kernel_rfl,zCG⟩
theorem zH3 (t:ByteArray):zCx (zDY t) 1001:=⟨_,_,185,.agg #[],rfl,fun w=>by kernel_rfl,fun a w=>by kernel_rfl,zCG⟩
theorem zMU (e:Value):zCx (zDZ e) 1001:=⟨_,_,185,.agg #[],rfl,fun w=>by kernel_rfl,fun a w=>by kernel_rfl,zCG⟩
theorem zJa (p:OpR) (e:Value):zCx (zC5 p e) p.l:=⟨_,_,189,.agg #[.string p.s,.int .i64 p.k,.int .i64 p.l,.int .i64 p.sd],rfl,fun w=>by kernel_rfl,fun a w=>by kernel_rfl,zA6 p⟩
theorem zH4 (p:OpR) (e:Value):zCx (zAo p e) p.l:=⟨_,_,189,.agg #[.string p.s,.int .i64 p.k,.int .i64 p.l,.int .i64 p.sd],rfl,fun w=>by kernel_rfl,fun a w=>by kernel_rfl,zA6 p⟩
theorem zJb (p:OpR) (e e':Value):zCx (zCV p e e') p.l:=⟨_,_,189,.agg #[.string p.s,.int .i64 p.k,.int .i64 p.l,.int .i64 p.sd],rfl,fun w=>by kernel_rfl,fun a w=>by kernel_rfl,zA6 p⟩
def zAk (w:World) (g m:Nat):Prop:=w.cell? ⟨g,0,none⟩ = some (.int .i64 (m:Int)) /\ w.frozen? ⟨g,0,none⟩ = false
theorem zAk.below {w w':World} {g m:Nat} (h:zAk w g m) (hb:Below w.heap.size w w'):zAk w' g m:=
 ⟨(hb.cell (p:=⟨g,0,none⟩) (block_lt_of_cell h.1)).trans h.1,(hb.frozen (p:=⟨g,0,none⟩) (block_lt_of_cell h.1)).trans h.2⟩
theorem zAk.set {w:World} {g m:Nat} (h:zAk w g m) (n:Nat):zAk (w.setCell ⟨g,0,none⟩ (.int .i64 (n:Int))) g n:=
 ⟨World.cell?_setCell_same _ _ _ h.1,(World.frozen?_setCell _ _ _ _).trans h.2⟩
theorem zE.setG {w:World} {g:Nat} (v:Value):zE w (w.setCell ⟨g,0,none⟩ v) g:=⟨rfl,rfl,rfl,by simp [World.setCell],fun _ _ hi=>Below.heap_setCell _ _ _ _ hi⟩
def zHA (l least:Int):Nat:=if l < least then 2 else 1
def zDe (l least:Int) (e:Value):Value:=if l < least then zDZ e else e
theorem zBQ {e:Value} {l:Int} (h:zCx e l) (g m:Nat) (least:Int) (w:World) (hg:zAk w g m) (hm:m <= 100000) :
  Calls Tryz.prog 115 #[.pointer (some ⟨g,0,none⟩),e,.int .i64 least] w fun x w'=>x = .returned (zDe l least e) /\ Hid (zAk w' g (m + zHA l least)) /\ Hid (zE w w' g):=by
 obtain ⟨T,v,f,r,rfl,hme,hcf,hcall⟩:=h
 have HC:=zB hcall
 have c0:=hg.1
 have f0:=hg.2
 have hlt:=block_lt_of_cell hg.1
 have HG1:=zB (hg.set (m + 1))
 have e1:((m + 1:Nat):Int) = (m:Int) + 1:=by omega
 have e2:((m + 1 + 1:Nat):Int) = (m:Int) + 1 + 1:=by omega
 rw [e1] at HG1
 clear hcall hg
 go_enter Tryz.func115,Tryz.ntmps115
 go_wp2_with fail
 refine ((zA HC) _).mono ?_
 rintro x w1 ⟨rfl,hb1⟩
 have HK1:=zB ((zE.setG (w:=w) (g:=g) (.int .i64 ((m:Int) + 1))).trans (zE.of_below hb1))
 have HG2:=zB ((zA HG1).below hb1)
 have c1:=(zA HG2).1
 have f1:=(zA HG2).2
 rw [e1] at c1
 clear hb1 HG1 c0 f0 hme hcf
 by_cases hl:l < least
 ·have hl':¬ least <= l:=by omega
  have HN:=zB (show zHA l least = 2 from if_pos hl)
  have HV:=zB (show zDe l least (.iface T v) = zDZ (.iface T v) from if_pos hl)
  have HG3:=zB ((zA HG2).set (m + 1 + 1))
  rw [e2] at HG3
  have HK3:=zB ((zA HK1).trans (zE.setG (w:=w1) (g:=g) (.int .i64 ((m:Int) + 1 + 1))))
  clear HG2 HK1
  go_wp2_with fail
  go_ret
  exact ⟨by rw [zA HV]; rfl,by rw [zA HN]; exact HG3,HK3⟩
 ·have hl':least <= l:=by omega
  have HN:=zB (show zHA l least = 1 from if_neg hl)
  have HV:=zB (show zDe l least (.iface T v) = .iface T v from if_neg hl)
  clear hl
  go_wp2_with fail
  go_ret
  exact ⟨by rw [zA HV]; rfl,by rw [zA HN]; exact HG2,HK1⟩
theorem zBp (p:OpR) (o:zD) (e e':Value):∃ T v,exN p o e e' = .iface T v:=by
 unfold exN
 split
 ·exact ⟨_,_,rfl⟩
 ·split
  ·exact ⟨_,_,rfl⟩
  ·split
   ·exact ⟨_,_,rfl⟩
   ·split
    ·exact ⟨_,_,rfl⟩
    ·split
     ·exact ⟨_,_,rfl⟩
     ·exact ⟨_,_,rfl⟩
theorem zAU (ns:List OpR) (xs:List zD) (i:Nat):∃ T v,exS ns xs i = .iface T v:=by
 rw [zC6]; exact zBp _ _ _ _
theorem zA7 (l least:Int) (T:TypeId) (v:Value):∃ T' v',zDe l least (.iface T v) = .iface T' v':=by
 unfold zDe
 split
 ·exact ⟨_,_,rfl⟩
 ·exact ⟨_,_,rfl⟩
def ZH (T:TypeId) (v:Value) (A:TypeId) (z:Value):Prop:=∀ w,(Instr.typeAssert (.iface T v) 56 A true).run Tryz.prog w = .ok (.tuple #[z,.bool false]) w
def zG:Value:=.agg #[.nilIface]
def zP:Value:=.agg #[.string ⟨#[]⟩,.int .i64 0,.int .i64 0,.int .i64 0,.nilIface]
def zI:Value:=.agg #[.string ⟨#[]⟩,.int .i64 0,.int .i64 0,.int .i64 0,.nilIface,.nilIface]
theorem zNd (v:Value):ZH 119 v 134 zG /\ ZH 119 v 129 zP /\ ZH 119 v 131 zI /\ ZH 119 v 132 zP:=
 ⟨fun w=>by kernel_rfl,fun w=>by kernel_rfl,fun w=>by kernel_rfl,fun w=>by kernel_rfl⟩
theorem zMV (v:Value):ZH 121 v 134 zG /\ ZH 121 v 129 zP /\ ZH 121 v 131 zI /\ ZH 121 v 132 zP:=
 ⟨fun w=>by kernel_rfl,fun w=>by kernel_rfl,fun w=>by kernel_rfl,fun w=>by kernel_rfl⟩
theorem zNe (v:Value):ZH 129 v 134 zG:=fun w=>by kernel_rfl
theorem zLJ (v:Value):ZH 131 v 134 zG /\ ZH 131 v 129 zP:=⟨fun w=>by kernel_rfl,fun w=>by kernel_rfl⟩
theorem zJc (v:Value):ZH 132 v 134 zG /\ ZH 132 v 129 zP /\ ZH 132 v 131 zI:=⟨fun w=>by kernel_rfl,fun w=>by kernel_rfl,fun w=>by kernel_rfl⟩
theorem zLK (v:Value):∀ w,(Instr.typeAssert (.iface 134 v) 56 134 true).run Tryz.prog w = .ok (.tuple #[v,.bool true]) w:=fun w=>by kernel_rfl
theorem zLL (v:Value):∀ w,(Instr.typeAssert (.iface 129 v) 56 129 true).run Tryz.prog w = .ok (.tuple #[v,.bool true]) w:=fun w=>by kernel_rfl
theorem zLM (v:Value):∀ w,(Instr.typeAssert (.iface 131 v) 56 131 true).run Tryz.prog w = .ok (.tuple #[v,.bool true]) w:=fun w=>by kernel_rfl
theorem zJd (v:Value):∀ w,(Instr.typeAssert (.iface 132 v) 56 132 true).run Tryz.prog w = .ok (.tuple #[v,.bool true]) w:=fun w=>by kernel_rfl
def Z0 (w:World) (g m:Nat) (e:Value) (x:Ending) (w':World):Prop:=x = .returned e /\ Hid (zAk w' g m) /\ Hid (zE w w' g)
theorem zH5 {T:TypeId} {v:Value} (hn:ZH T v 134 zG /\ ZH T v 129 zP /\ ZH T v 131 zI /\ ZH T v 132 zP) {l:Int} (h:zCx (.iface T v) l) (g m:Nat) (least:Int) (w:World) (hg:zAk w g m) (hm:m <= 100000) :
  Calls Tryz.prog 66 #[.pointer (some ⟨g,0,none⟩),.iface T v,.int .i64 least] w (Z0 w g (m + zHA l least) (zDe l least (.iface T v))):=by
 obtain ⟨n1,n2,n3,n4⟩:=hn
 unfold ZH zG at n1
 unfold ZH zP at n2 n4
 unfold ZH zI at n3
 have HG:=zB hg
 have HL:=zB h
 clear hg h
 go_enter Tryz.func66,Tryz.ntmps66
 go_wp2_with fail
 refine (zBQ (zA HL) g m least _ (zA HG) hm).mono ?_
 rintro x w1 ⟨rfl,h1,h2⟩
 obtain ⟨T',v',hTv⟩:=zA7 l least T v
 rw [hTv]
 clear n1 n2 n3 n4
 go_wp2_with fail
 go_ret
 exact ⟨by rw [hTv]; rfl,h1,h2⟩
theorem zMW {T:TypeId} {v:Value} (g m:Nat) (least:Int) {e:Value} (w:World) (he:∃ T' v',e = .iface T' v')
  (hc:∀ o,Calls Tryz.prog 66 #[.pointer (some ⟨g,0,none⟩),.iface T v,.int .i64 least] (w.alloc o) (Z0 (w.alloc o) g m e)) :
  Calls Tryz.prog 66 #[.pointer (some ⟨g,0,none⟩),zDZ (.iface T v),.int .i64 least] w (Z0 w g m e):=by
 obtain ⟨T',v',rfl⟩:=he
 have i1:=zLK (.agg #[.iface T v])
 have HC:=zB hc
 clear hc
 unfold zDZ
 go_enter Tryz.func66,Tryz.ntmps66
 go_wp2_with fail
 refine ((zA HC) _).mono ?_
 rintro x w1 ⟨rfl,h1,h2⟩
 have h3:=zB ((zE.of_below (zC _ _)).trans (zA h2))
 clear i1
 go_wp2_with fail
 go_ret
 exact ⟨rfl,h1,h3⟩
end Go.Proofs.YtfboipappaonhaaGreat
namespace Go.Proofs.YtfboipappaonhaaGreat
set_option linter.unusedSimpArgs false
set_option linter.unusedVariables false
set_option maxHeartbeats 16000000
set_option maxRecDepth 100000
open Go.RowKit
open Go.Deep (BT)
def zMX (s:SyR):Bool:=decide (s.1 = 6 /\ s.2.data = opn.data)
def zLN (s:SyR):Bool:=decide (s.1 = 7 /\ s.2.data = zA5.data)
theorem zNM {a b:ByteArray} (h:a.data = b.data):a = b:=by cases a; cases b; simp_all
theorem zMY {s:SyR} (h:zMX s = true):s = (6,opn):=by
 unfold zMX at h
 have:=of_decide_eq_true h
 obtain ⟨a,b⟩:=s
 exact Prod.ext this.1 (zNM this.2)
theorem zMZ {s:SyR} (h:zLN s = true):s = (7,zA5):=by
 unfold zLN at h
 have:=of_decide_eq_true h
 obtain ⟨a,b⟩:=s
 exact Prod.ext this.1 (zNM this.2)
def auS (ns:List OpR) (st:Bool × Nat) (s:SyR):Option (Bool × Nat):=
 if st.1 = false then
  (if s.1 = 1 \/ s.1 = 2 then some (true,st.2) else if s.1 = 3 /\ knB ns s = true then some (false,st.2) else if zMX s = true then some (false,st.2 + 1) else none)
 else
  (if s.1 = 4 /\ knB ns s = true then some (false,st.2) else if s.1 = 5 /\ knB ns s = true then some (true,st.2) else if zLN s = true /\ 0 < st.2 then some (true,st.2 - 1) else none)
def zAl (ns:List OpR):Bool × Nat -> List SyR -> Option (Bool × Nat)
 | st,[]=>some st
 | st,s :: r=>(match auS ns st s with
  | none=>none
  | some st'=>zAl ns st' r)
theorem zBR (ns:List OpR):∀ (a b:List SyR) (st:Bool × Nat),zAl ns st (a ++ b) = (match zAl ns st a with
  | none=>none
  | some st'=>zAl ns st' b)
 | [],b,st=>rfl
 | s :: r,b,st=>by
  simp only [List.cons_append,zAl]
  cases auS ns st s with
  | none=>rfl
  | some st'=>exact zBR ns r b st'
theorem zH6 {ns:List OpR} {d:Nat} {s:SyR} {st:Bool × Nat} (h:auS ns (false,d) s = some st) :
  ((s.1 = 1 \/ s.1 = 2) /\ st = (true,d)) \/ (s.1 = 3 /\ knB ns s = true /\ st = (false,d)) \/ (s = (6,opn) /\ st = (false,d + 1)):=by
 unfold auS at h
 simp only [if_true] at h
 split at h
 ·injection h with h; exact Or.inl ⟨by assumption,h.symm⟩
 ·split at h
  ·rename_i hc; injection h with h; exact Or.inr (Or.inl ⟨hc.1,hc.2,h.symm⟩)
  ·split at h
   ·rename_i hc; injection h with h; exact Or.inr (Or.inr ⟨zMY hc,h.symm⟩)
   ·cases h
theorem zJe {ns:List OpR} {d:Nat} {s:SyR} {st:Bool × Nat} (h:auS ns (true,d) s = some st) :
  (s.1 = 4 /\ knB ns s = true /\ st = (false,d)) \/ (s.1 = 5 /\ knB ns s = true /\ st = (true,d)) \/ (s = (7,zA5) /\ 0 < d /\ st = (true,d - 1)):=by
 unfold auS at h
 simp only [Bool.true_eq_false,if_false] at h
 split at h
 ·rename_i hc; injection h with h; exact Or.inl ⟨hc.1,hc.2,h.symm⟩
 ·split at h
  ·rename_i hc; injection h with h; exact Or.inr (Or.inl ⟨hc.1,hc.2,h.symm⟩)
  ·split at h
   ·rename_i hc; injection h with h; exact Or.inr (Or.inr ⟨zMZ hc.1,hc.2,h.symm⟩)
   ·cases h
theorem zJf {ns:List OpR} {d:Nat} {s:SyR} (h:s.1 = 1 \/ s.1 = 2):auS ns (false,d) s = some (true,d):=by
 unfold auS
 simp only [if_true]
 rw [if_pos h]
theorem zLO {ns:List OpR} {d:Nat} {s:SyR} (h:s.1 = 3) (hk:knB ns s = true):auS ns (false,d) s = some (false,d):=by
 unfold auS
 simp only [if_true]
 rw [if_neg (by omega),if_pos ⟨h,hk⟩]
theorem zJg {ns:List OpR} {d:Nat}:auS ns (false,d) (6,opn) = some (false,d + 1):=by
 unfold auS
 simp [zMX]
theorem zLP {ns:List OpR} {d:Nat} {s:SyR} (h:s.1 = 4) (hk:knB ns s = true):auS ns (true,d) s = some (false,d):=by
 unfold auS
 simp only [Bool.true_eq_false,if_false]
 rw [if_pos ⟨h,hk⟩]
theorem zJh {ns:List OpR} {d:Nat} {s:SyR} (h:s.1 = 5) (hk:knB ns s = true):auS ns (true,d) s = some (true,d):=by
 unfold auS
 simp only [Bool.true_eq_false,if_false]
 rw [if_neg (by omega),if_pos ⟨h,hk⟩]
theorem zH7 {ns:List OpR} {d:Nat}:auS ns (true,d + 1) (7,zA5) = some (true,d):=by
 unfold auS
 simp [zLN]
def eoS:SyR:=(8,ByteArray.empty)
def ZQ (ns:List OpR) (st:Bool × Nat) (ss:List SyR):Prop:=∃ q,ss = q ++ [eoS] /\ zAl ns st q = some (true,0)
theorem zA8 {ns:List OpR} {st:Bool × Nat} (h:ZQ ns st []):False:=by
 obtain ⟨q,h,_⟩:=h
 simp at h
theorem zGX {ns:List OpR} {st:Bool × Nat} {s:SyR} {r:List SyR} (h:ZQ ns st (s :: r)):(s = eoS /\ r = [] /\ st = (true,0)) \/ ∃ st',auS ns st s = some st' /\ ZQ ns st' r:=by
 obtain ⟨q,h,hr⟩:=h
 cases q with
 | nil=>
  simp only [List.nil_append] at h
  injection h with h1 h2
  simp only [zAl,Option.some.injEq] at hr
  exact Or.inl ⟨h1,h2,hr⟩
 | cons a q=>
  rw [List.cons_append] at h
  injection h with h1 h2
  subst h1
  simp only [zAl] at hr
  cases e:auS ns st s with
  | none=>rw [e] at hr; cases hr
  | some st'=>rw [e] at hr; exact Or.inr ⟨st',rfl,q,h2,hr⟩
theorem zA9 {ns:List OpR} {d:Nat} {s:SyR} {r:List SyR} (h:ZQ ns (false,d) (s :: r)) :
  ((s.1 = 1 \/ s.1 = 2) /\ ZQ ns (true,d) r) \/ (s.1 = 3 /\ knB ns s = true /\ ZQ ns (false,d) r) \/ (s = (6,opn) /\ ZQ ns (false,d + 1) r):=by
 rcases zGX h with ⟨_,_,h⟩ | ⟨st',h1,h2⟩
 ·cases h
 ·rcases zH6 h1 with ⟨a,rfl⟩ | ⟨a,b,rfl⟩ | ⟨a,rfl⟩
  ·exact Or.inl ⟨a,h2⟩
  ·exact Or.inr (Or.inl ⟨a,b,h2⟩)
  ·exact Or.inr (Or.inr ⟨a,h2⟩)
theorem zAE {ns:List OpR} {d:Nat} {s:SyR} {r:List SyR} (h:ZQ ns (true,d) (s :: r)) :
  (s = eoS /\ r = [] /\ d = 0) \/ (s.1 = 4 /\ knB ns s = true /\ ZQ ns (false,d) r) \/ (s.1 = 5 /\ knB ns s = true /\ ZQ ns (true,d) r) \/ (s = (7,zA5) /\ 0 < d /\ ZQ ns (true,d - 1) r):=by
 rcases zGX h with ⟨h1,h2,h3⟩ | ⟨st',h1,h2⟩
 ·simp only [Prod.mk.injEq,true_and] at h3
  exact Or.inl ⟨h1,h2,h3⟩
 ·rcases zJe h1 with ⟨a,b,rfl⟩ | ⟨a,b,rfl⟩ | ⟨a,b,rfl⟩
  ·exact Or.inr (Or.inl ⟨a,b,h2⟩)
  ·exact Or.inr (Or.inr (Or.inl ⟨a,b,h2⟩))
  ·exact Or.inr (Or.inr (Or.inr ⟨a,b,h2⟩))
def yM:Option ET -> List SyR
 | none=>[]
 | some T=>ySy T
theorem ZU {ns:List OpR} (hv:zK ns 0):∀ (n:Nat) (least:Int) (md:Option ET) (ss:List SyR) (d:Nat) (x:ET × List SyR),least <= 1001 -> ZQ ns (md.isSome,d) ss -> (∀ L,md = some L -> zh ns L /\ least <= lvT ns L) -> rd ns n least md ss = some x ->
  ZQ ns (true,d) x.2 /\ zh ns x.1 /\ least <= lvT ns x.1 /\ zEV ns least x.2 /\ yM md ++ ss = ySy x.1 ++ x.2
 | 0,_,_,_,_,_,_,_,_,h=>by simp [rd] at h
 | n + 1,least,none,[],d,x,_,hf,_,h=>(zA8 hf).elim
 | n + 1,least,some T,[],d,x,_,hf,_,h=>(zA8 hf).elim
 | n + 1,least,none,s :: r,d,x,hl,hf,hm,h=>by
  simp only [rd] at h
  rcases zA9 hf with ⟨hs,hf'⟩ | ⟨hs,hk,hf'⟩ | ⟨hs,hf'⟩
  ·rw [if_neg (by omega),if_neg (by omega)] at h
   have hlv:lvT ns (.node s.1 0 s.2 .nil .nil) = 1001:=Zz ns _ _ (by omega)
   have:=ZU hv n least (some (.node s.1 0 s.2 .nil .nil)) r d x hl hf' (fun L e=>by
    injection e with e; subst e
    exact ⟨⟨rfl,Or.inl ⟨hs,rfl,rfl⟩⟩,by omega⟩) h
   refine ⟨this.1,this.2.1,this.2.2.1,this.2.2.2.1,?_⟩
   rw [<- this.2.2.2.2]
   simp only [yM,ySy]
   rw [if_neg (by omega),if_neg (by omega),if_neg (by omega),if_neg (by omega)]
   rfl
  ·rw [if_pos hs] at h
   have f:=(opF hv (s:=s) (Or.inl hs) hk)
   have fp:=f.pre hs
   have fh:=f.hi
   split at h
   ·cases h
   ·rename_i hlt
    split at h
    ·cases h
    ·rename_i y hy
     obtain ⟨a1,a2,a3,a4,a5⟩:=ZU hv n _ none r d y (by omega) hf' (fun L e=>by cases e) hy
     have es:((3,s.2):SyR) = s:=Prod.ext hs.symm rfl
     have hlv:lvT ns (.node 3 0 s.2 y.1 .nil) = sLv ns s:=by simp only [lvT,es]
     have:=ZU hv n least (some (.node 3 0 s.2 y.1 .nil)) y.2 d x hl a1 (fun L e=>by
      injection e with e; subst e
      exact ⟨⟨rfl,Or.inr (Or.inr (Or.inl ⟨Or.inl rfl,by rw [es]; exact hk,a2,rfl,by rw [es]; exact a3⟩))⟩,by omega⟩) h
     refine ⟨this.1,this.2.1,this.2.2.1,this.2.2.2.1,?_⟩
     rw [<- this.2.2.2.2]
     simp only [yM,List.nil_append] at a5 ⊢
     rw [a5]
     simp [ySy,es]
  ·subst hs
   simp only at h
   rw [if_neg (by decide),if_pos trivial] at h
   split at h
   ·cases h
   ·rename_i y hy
    obtain ⟨a1,a2,a3,a4,a5⟩:=ZU hv n 0 none r (d + 1) y (by omega) hf' (fun L e=>by cases e) hy
    obtain ⟨T,q⟩:=y
    simp only at a1 a2 a3 a4 a5 h
    cases q with
    | nil=>exact (zA8 a1).elim
    | cons z q=>
     have hz:z = (7,zA5) /\ ZQ ns (true,d) q:=by
      rcases zAE a1 with ⟨_,_,h0⟩ | ⟨h4,hkk,_⟩ | ⟨h5,hkk,_⟩ | ⟨h7,_,h8⟩
      ·omega
      ·have:=a4 z q rfl (Or.inl h4)
       have:=(opF hv (s:=z) (Or.inr (Or.inl h4)) hkk).lo
       omega
      ·have:=a4 z q rfl (Or.inr h5)
       have:=(opF hv (s:=z) (Or.inr (Or.inr h5)) hkk).lo
       omega
      ·exact ⟨h7,h8⟩
     obtain ⟨rfl,hq⟩:=hz
     simp only [List.tail_cons] at h
     have hlv:lvT ns (.node 6 0 ByteArray.empty T .nil) = 1001:=Zz ns _ _ (by omega)
     have:=ZU hv n least (some (.node 6 0 ByteArray.empty T .nil)) q d x hl hq (fun L e=>by
      injection e with e; subst e
      exact ⟨⟨rfl,Or.inr (Or.inl ⟨rfl,rfl,a2,rfl⟩)⟩,by omega⟩) h
     refine ⟨this.1,this.2.1,this.2.2.1,this.2.2.2.1,?_⟩
     rw [<- this.2.2.2.2]
     simp only [yM,List.nil_append] at a5 ⊢
     rw [a5]
     simp [ySy]
 | n + 1,least,some T,s :: r,d,x,hl,hf,hm,h=>by
  obtain ⟨hT,hTl⟩:=hm T rfl
  simp only [rd] at h
  have stop:(¬ (s.1 = 4 /\ least <= sLv ns s)) -> (¬ (s.1 = 5 /\ least <= sLv ns s)) -> ZQ ns (true,d) x.2 /\ zh ns x.1 /\ least <= lvT ns x.1 /\ zEV ns least x.2 /\ yM (some T) ++ s :: r = ySy x.1 ++ x.2:=fun c1 c2=>by
   rw [if_neg c1,if_neg c2] at h
   injection h with h
   subst h
   refine ⟨hf,hT,hTl,fun s' r' e hs=>?_,rfl⟩
   injection e with e1 e2
   subst e1
   omega
  by_cases c1:s.1 = 4 /\ least <= sLv ns s
  ·rw [if_pos c1] at h
   have hf4:knB ns s = true /\ ZQ ns (false,d) r:=by
    rcases zAE hf with ⟨h1,_⟩ | ⟨_,h1,h2⟩ | ⟨h1,_⟩ | ⟨h1,_⟩
    ·rw [h1] at c1; exact absurd c1.1 (by decide)
    ·exact ⟨h1,h2⟩
    ·omega
    ·rw [h1] at c1; exact absurd c1.1 (by decide)
   obtain ⟨hk,hf'⟩:=hf4
   have f:=(opF hv (s:=s) (Or.inr (Or.inl c1.1)) hk)
   have fp:=f.mid c1.1
   have fh:=f.hi
   split at h
   ·cases h
   ·rename_i hlt
    split at h
    ·cases h
    ·rename_i y hy
     obtain ⟨a1,a2,a3,a4,a5⟩:=ZU hv n _ none r d y (by omega) hf' (fun L e=>by cases e) hy
     have es:((4,s.2):SyR) = s:=Prod.ext c1.1.symm rfl
     have hlv:lvT ns (.node 4 0 s.2 T y.1) = sLv ns s:=by simp only [lvT,es]
     have:=ZU hv n least (some (.node 4 0 s.2 T y.1)) y.2 d x hl a1 (fun L e=>by
      injection e with e; subst e
      exact ⟨⟨rfl,Or.inr (Or.inr (Or.inr ⟨rfl,by rw [es]; exact hk,hT,a2,by rw [es]; omega,by rw [es]; exact a3⟩))⟩,by omega⟩) h
     refine ⟨this.1,this.2.1,this.2.2.1,this.2.2.2.1,?_⟩
     rw [<- this.2.2.2.2]
     simp only [yM,List.nil_append] at a5 ⊢
     rw [a5]
     simp [ySy,es]
  ·by_cases c2:s.1 = 5 /\ least <= sLv ns s
   ·rw [if_neg c1,if_pos c2] at h
    have hf4:knB ns s = true /\ ZQ ns (true,d) r:=by
     rcases zAE hf with ⟨h1,_⟩ | ⟨h1,_⟩ | ⟨_,h1,h2⟩ | ⟨h1,_⟩
     ·rw [h1] at c2; exact absurd c2.1 (by decide)
     ·omega
     ·exact ⟨h1,h2⟩
     ·rw [h1] at c2; exact absurd c2.1 (by decide)
    obtain ⟨hk,hf'⟩:=hf4
    have f:=(opF hv (s:=s) (Or.inr (Or.inr c2.1)) hk)
    split at h
    ·cases h
    ·rename_i hlt
     have es:((5,s.2):SyR) = s:=Prod.ext c2.1.symm rfl
     have hlv:lvT ns (.node 5 0 s.2 T .nil) = sLv ns s:=by simp only [lvT,es]
     have:=ZU hv n least (some (.node 5 0 s.2 T .nil)) r d x hl hf' (fun L e=>by
      injection e with e; subst e
      exact ⟨⟨rfl,Or.inr (Or.inr (Or.inl ⟨Or.inr rfl,by rw [es]; exact hk,hT,rfl,by rw [es]; omega⟩))⟩,by omega⟩) h
     refine ⟨this.1,this.2.1,this.2.2.1,this.2.2.2.1,?_⟩
     rw [<- this.2.2.2.2]
     simp [yM,ySy,es]
   ·exact stop c1 c2
theorem zLQ {ns:List OpR} (hv:zK ns 0) {ss:List SyR} (hf:zAl ns (false,0) ss = some (true,0)) (T:ET):(zh ns T /\ ySy T = ss) ↔ RD ns 0 none (ss ++ [eoS]) = some (T,[eoS]):=by
 constructor
 ·rintro ⟨hT,rfl⟩
  have h0:(0:Int) <= lvT ns T:=by
   cases T with
   | nil=>exact hT.elim
   | node bb oo tt ll rr=>
    simp only [lvT]
    by_cases hb:bb = 3 \/ bb = 4 \/ bb = 5
    ·have hkn:knB ns (bb,tt) = true:=by
      rcases hT.2 with ⟨h | h,_⟩ | ⟨h,_⟩ | ⟨_,hk,_⟩ | ⟨_,hk,_⟩
      ·omega
      ·omega
      ·omega
      ·exact hk
      ·exact hk
     have:=(opF hv (s:=(bb,tt)) hb hkn).lo
     omega
    ·rw [Zz ns bb tt hb]; omega
  have hn:¬ (eoS.1 = 4 \/ eoS.1 = 5):=by decide
  rw [zLH hv T hT 0 [eoS] h0 (zBP hn T),zEx (zCF hn)]
 ·intro h
  obtain ⟨_,a2,_,_,a5⟩:=ZU hv _ 0 none (ss ++ [eoS]) 0 (T,[eoS]) (by omega) ⟨ss,rfl,hf⟩ (fun L e=>by cases e) h
  refine ⟨a2,?_⟩
  simp only [yM,List.nil_append] at a5
  exact (List.append_cancel_right a5).symm
theorem zNf {ns:List OpR} (hv:zK ns 0) {ss:List SyR} (hf:zAl ns (false,0) ss = some (true,0)) {x:ET × List SyR} (h:RD ns 0 none (ss ++ [eoS]) = some x):x.2 = [eoS]:=by
 obtain ⟨a1,_,_,a4,_⟩:=ZU hv _ 0 none (ss ++ [eoS]) 0 x (by omega) ⟨ss,rfl,hf⟩ (fun L e=>by cases e) h
 obtain ⟨T,q⟩:=x
 simp only at a1 a4 ⊢
 cases q with
 | nil=>exact (zA8 a1).elim
 | cons z q=>
  rcases zAE a1 with ⟨h1,h2,_⟩ | ⟨h4,hkk,_⟩ | ⟨h5,hkk,_⟩ | ⟨_,h7,_⟩
  ·rw [h1,h2]
  ·have:=a4 z q rfl (Or.inl h4)
   have:=(opF hv (s:=z) (Or.inr (Or.inl h4)) hkk).lo
   omega
  ·have:=a4 z q rfl (Or.inr h5)
   have:=(opF hv (s:=z) (Or.inr (Or.inr h5)) hkk).lo
   omega
  ·omega
theorem zDf {b:Nat} {t:ByteArray} (h:b = 1 \/ b = 2):ySy (.node b 0 t .nil .nil) = [(b,t)]:=by
 simp only [ySy]
 rw [if_neg (by omega),if_neg (by omega),if_neg (by omega),if_neg (by omega)]
theorem zEy {t:ByteArray} {l r:ET}:ySy (.node 6 0 t l r) = (6,opn) :: (ySy l ++ [(7,zA5)]):=by simp [ySy]
theorem zEz {t:ByteArray} {l r:ET}:ySy (.node 3 0 t l r) = (3,t) :: ySy l:=by simp [ySy]
theorem zFV {t:ByteArray} {l r:ET}:ySy (.node 5 0 t l r) = ySy l ++ [(5,t)]:=by simp [ySy]
theorem zHB {t:ByteArray} {l r:ET}:ySy (.node 4 0 t l r) = ySy l ++ ((4,t) :: ySy r):=by simp [ySy]
def Seg (ns:List OpR) (ss:List SyR):Prop:=zAl ns (false,0) ss = some (true,0)
theorem zLR {ns:List OpR}:∀ (T:ET),zh ns T -> tsz T <= (ySy T).length:=by
 intro T
 induction T with
 | nil=>intro h; exact h.elim
 | node b o t l r ihl ihr=>
  rintro ⟨rfl,h⟩
  rcases h with ⟨h12,rfl,rfl⟩ | ⟨rfl,rfl,hl,rfl⟩ | ⟨h35,hk,hl,rfl,hh⟩ | ⟨rfl,hk,hl,hr,h1,h2⟩
  ·rw [zDf h12]; simp [tsz]
  ·have:=ihl hl
   rw [zEy]; simp [tsz]; omega
  ·have:=ihl hl
   rcases h35 with rfl | rfl
   ·rw [zEz]; simp [tsz]; omega
   ·rw [zFV]; simp [tsz]; omega
  ·have:=ihl hl
   have:=ihr hr
   rw [zHB]; simp [tsz]; omega
end Go.Proofs.YtfboipappaonhaaGreat
namespace Go.Proofs.YtfboipappaonhaaGreat
set_option linter.unusedSimpArgs false
set_option maxHeartbeats 16000000
set_option maxRecDepth 100000
open Go.RowKit
def zOB (xs:List OpR) (t:ByteArray) (k:Int):Prop:=∃ j,j < xs.length /\ (atO xs j).s = t /\ (atO xs j).k = k
def ZB (xs:List OpR) (t:ByteArray) (k:Int):Bool:=(List.range xs.length).any fun j=>(atO xs j).s.data == t.data && (atO xs j).k == k
theorem Zv (xs:List OpR) (t:ByteArray) (k:Int):ZB xs t k = true ↔ zOB xs t k:=by
 have e:∀ a b:ByteArray,(a.data = b.data) ↔ a = b:=fun a b=>⟨fun h=>by cases a; cases b; simp_all,fun h=>by rw [h]⟩
 simp [ZB,zOB,List.any_eq_true,e]
def zm (xs:List OpR) (last:Bool) (t:zN) (bh:Bool) (op:Nat):Int:=
 if bh = false then
  if t.k = 1 \/ t.k = 2 \/ t.k = 4 then 0 else if t.k = 3 /\ ZB xs t.t 1 = true then 1 else -1
 else
  if t.k = 3 /\ ZB xs t.t 2 = true then 2 else if t.k = 3 /\ ZB xs t.t 3 = true then 3
  else if t.k = 5 /\ 0 < op then 0 else if t.k = 7 /\ op = 0 /\ last = true then 0 else -1
def zBI (xs:List OpR) (t:zN) (bh:Bool):Bool:=
 if bh = false then (if t.k = 1 \/ t.k = 2 then true else false) else (if t.k = 3 /\ ZB xs t.t 2 = true then false else true)
def zBA (t:zN) (op:Nat):Nat:=if t.k = 4 then op + 1 else if t.k = 5 then op - 1 else op
def zAm (xs:List OpR) (ts:List zN):Nat -> Bool
 | 0=>false
 | i + 1=>zBI xs (atT ts i) (zAm xs ts i)
def zAf (ts:List zN):Nat -> Nat
 | 0=>0
 | i + 1=>zBA (atT ts i) (zAf ts i)
def zx (xs:List OpR) (ts:List zN) (i:Nat):Int:=zm xs (decide (i + 1 = ts.length)) (atT ts i) (zAm xs ts i) (zAf ts i)
def zAZ (xs:List OpR) (ts:List zN) (k:Nat):List Int:=(List.range k).map (zx xs ts)
theorem zHC (xs:List OpR) (ts:List zN) (k:Nat):zAZ xs ts (k + 1) = zAZ xs ts k ++ [zx xs ts k]:=by
 simp [zAZ,List.range_succ]
theorem zH8 (xs:List OpR) (ts:List zN) (k:Nat):(zAZ xs ts k).length = k:=by simp [zAZ]
def zBS (xs:List OpR) (ts:List zN) (k:Nat):Prop:=∀ i,i < k -> 0 <= zx xs ts i
def zMa (xs:List OpR) (ok:Prop) (ts:List zN) (us:List Int) (c:Int):Prop:=
 (¬ ok /\ us = [] /\ c = 0) \/
 (ok /\ ((∃ i,i < ts.length /\ zBS xs ts i /\ zx xs ts i < 0 /\ us = [] /\ c = (i:Int)) \/
  (zBS xs ts ts.length /\ (((0 < ts.length /\ (atT ts (ts.length - 1)).k = 7) /\ us = zAZ xs ts ts.length /\ c = -1) \/ (¬ (0 < ts.length /\ (atT ts (ts.length - 1)).k = 7) /\ us = [] /\ c = (ts.length:Int))))))
def zCm (xs:List OpR):Prop:=∀ t,¬ (ZB xs t 2 = true /\ ZB xs t 3 = true)
theorem zH9 {xs:List OpR} (h:¬ Pr 3 xs):zCm xs:=by
 rintro t ⟨h2,h3⟩
 obtain ⟨i,hi,e1,e2⟩:=(Zv _ _ _).1 h2
 obtain ⟨j,hj,f1,f2⟩:=(Zv _ _ _).1 h3
 have hne:i ≠ j:=fun e=>by subst e; omega
 apply h
 rcases Nat.lt_trichotomy i j with e | e | e
 ·exact ⟨j,i,e,hj,by simp [cl]; exact ⟨by rw [f1,e1],by omega⟩⟩
 ·exact absurd e hne
 ·exact ⟨i,j,e,hi,by simp [cl]; exact ⟨by rw [f1,e1],by omega⟩⟩
end Go.Proofs.YtfboipappaonhaaGreat
namespace Go.Proofs.YtfboipappaonhaaGreat
set_option maxHeartbeats 16000000
set_option maxRecDepth 100000
open Go.RowKit
def zAO (xs:List zN):Nat -> List UInt8
 | 0=>[]
 | k + 1=>zAO xs k ++ (atT xs k).g.data.toList ++ (atT xs k).t.data.toList
theorem zDg (xs:List zN):∀ k,(zAO xs k).length = ZW xs k
 | 0=>rfl
 | k + 1=>by
  have:=zDg xs k
  simp only [zAO,ZW,zNT,List.length_append,this]
  simp
  omega
theorem zFW (xs:List zN):∀ k n,k <= n -> ZW xs k <= ZW xs n
 | k,0,h=>by
  have:k = 0:=by omega
  subst this; exact Nat.le_refl _
 | k,n + 1,h=>by
  by_cases e:k = n + 1
  ·subst e; exact Nat.le_refl _
  ·have:=zFW xs k n (by omega)
   simp only [ZW]
   omega
theorem zAF {w:World} {base n size:Nat} {e:TypeId} {v:Value} {xs:List Value} (h:w.ownsRow base e size v n xs) (hv:v ≠ .slice none 0 0):∃ g cap,v = .slice (some ⟨g,0,none⟩) n cap:=by
 obtain ⟨_,h | ⟨g,cap,cur,hv',_⟩⟩:=h
 ·exact absurd h.1 hv
 ·exact ⟨g,cap,hv'⟩
theorem zIA {w:World} {base g cap n:Nat} {e:TypeId} {l:List UInt8} (h:w.ownsRow base e 1 (.slice (some ⟨g,0,none⟩) n cap) n (cellsB l)):∀ j u,(cellsB l)[j]? = some u -> w.cell? ((⟨g,0,none⟩:Addr).add j) = some u:=
 h.cells rfl
theorem zBq {w w':World} (h:Below w.heap.size w w') (row:Option Nat):w.grownBy w' row:=⟨h.os,h.tape,h.output,h.size,fun i hi _=>h.block i hi⟩
end Go.Proofs.YtfboipappaonhaaGreat
