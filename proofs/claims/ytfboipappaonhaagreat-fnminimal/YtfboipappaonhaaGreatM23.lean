import Derived.Deep.RegionHeld
import Derived.BigQuiet
import Derived.Test.YtfboipappaonhaaGreatM00
import Derived.Test.YtfboipappaonhaaGreatM10
import Derived.Test.YtfboipappaonhaaGreatM12
import Derived.Test.YtfboipappaonhaaGreatM22
namespace Go.Proofs.YtfboipappaonhaaGreat
set_option linter.unusedSimpArgs false
set_option linter.unusedVariables false
set_option maxHeartbeats 16000000
set_option maxRecDepth 100000
open Go.RowKit
open Go.Deep (BT)
def ZS (ns:List OpR):ET -> Prop
 | .nil=>False
 | .node b o t l r=>o = 0 /\ (((b = 1 \/ b = 2) /\ l = .nil /\ r = .nil) \/ (b = 6 /\ t = ByteArray.empty /\ ZS ns l /\ r = .nil) \/ ((b = 3 \/ b = 5) /\ knB ns (b,t) = true /\ ZS ns l /\ r = .nil) \/ (b = 4 /\ knB ns (b,t) = true /\ ZS ns l /\ ZS ns r))
theorem zl.well {ns:List OpR}:∀ {T:ET},zl ns T -> ZS ns T
 | .nil,h=>h
 | .node b o t l r,⟨h0,h⟩=>by
  refine ⟨h0,?_⟩
  rcases h with h | ⟨h1,h2,hl,h3⟩ | ⟨h1,h2,hl,h3,_⟩ | ⟨h1,h2,hl,hr,_⟩
  ·exact Or.inl h
  ·exact Or.inr (Or.inl ⟨h1,h2,hl.well,h3⟩)
  ·exact Or.inr (Or.inr (Or.inl ⟨h1,h2,hl.well,h3⟩))
  ·exact Or.inr (Or.inr (Or.inr ⟨h1,h2,hl.well,hr.well⟩))
theorem ZS.sh {ns:List OpR}:∀ {T:ET},ZS ns T -> Sh T
 | .nil,h=>h.elim
 | .node b o t l r,⟨h0,h⟩=>by
  refine ⟨h0,?_⟩
  rcases h with ⟨h | h,rfl,rfl⟩ | ⟨rfl,_,hl,rfl⟩ | ⟨h | h,_,hl,rfl⟩ | ⟨rfl,_,hl,hr⟩
  ·subst h; exact Or.inl ⟨by decide,rfl,rfl⟩
  ·subst h; exact Or.inl ⟨by decide,rfl,rfl⟩
  ·exact Or.inr (Or.inl ⟨by decide,hl.sh,rfl⟩)
  ·subst h; exact Or.inr (Or.inl ⟨by decide,hl.sh,rfl⟩)
  ·subst h; exact Or.inr (Or.inl ⟨by decide,hl.sh,rfl⟩)
  ·exact Or.inr (Or.inr ⟨by decide,hl.sh,hr.sh⟩)
theorem zJX {ns:List OpR} {b:Nat} {t:ByteArray} (h:knB ns (b,t) = true):(opA ns (rt b t)).s = t:=by
 obtain ⟨j,hj,hf,hk,ho⟩:=zDe h
 rw [ho]
 exact (Ze hf).2.1
theorem zKC {ns:List OpR} {xs:List zD} (htx:∀ i,i < xs.length -> Zk (atN xs i)) (hkn:zAY ns xs):∀ (T:ET) (s:Nat),Sh T -> zBR xs T s -> s + tsz T <= xs.length -> ZS ns T:=by
 intro T
 induction T with
 | nil=>intro s h; exact h.elim
 | node b o t l r ihl ihr=>
  rintro s ⟨h0,hsh⟩ ⟨h1,h2,h3⟩ hz
  simp only [tsz] at hz
  have hi:s + tsz l + tsz r < xs.length:=by omega
  have ht:=htx _ hi
  have hk:=hkn _ hi
  rw [h3] at ht hk
  have hk':zq (tN b t l r s) -> knB ns (b,t) = true:=fun hop=>by
   have:=hk hop
   unfold knB
   cases e:fnd ns t ((b:Int) - 2) with
   | none=>exact absurd e this
   | some j=>rfl
  refine ⟨h0,?_⟩
  rcases ht.2 with ⟨e,_⟩ | ⟨e,_⟩ | ⟨e,e2⟩ | ⟨e,_⟩
  ·have e':b = 1:=by simp only [tN] at e; omega
   subst e'
   rcases hsh with ⟨_,hl,hr⟩ | ⟨hk,_⟩ | ⟨hk,_⟩
   ·exact Or.inl ⟨Or.inl rfl,hl,hr⟩
   ·exact absurd hk (by decide)
   ·exact absurd hk (by decide)
  ·have e':b = 2:=by simp only [tN] at e; omega
   subst e'
   rcases hsh with ⟨_,hl,hr⟩ | ⟨hk,_⟩ | ⟨hk,_⟩
   ·exact Or.inl ⟨Or.inr rfl,hl,hr⟩
   ·exact absurd hk (by decide)
   ·exact absurd hk (by decide)
  ·have e':b = 6:=by simp only [tN] at e; omega
   subst e'
   rcases hsh with ⟨hk,_⟩ | ⟨_,hl,hr⟩ | ⟨hk,_⟩
   ·exact absurd hk (by decide)
   ·subst hr
    refine Or.inr (Or.inl ⟨rfl,?_,ihl s hl h1 (by omega),rfl⟩)
    have:t.size = 0:=e2
    exact ByteArray.size_eq_zero_iff.1 this
   ·exact absurd hk (by decide)
  ·rcases e with e | e | e
   ·have e':b = 3:=by simp only [tN] at e; omega
    subst e'
    rcases hsh with ⟨hk,_⟩ | ⟨_,hl,hr⟩ | ⟨hk,_⟩
    ·exact absurd hk (by decide)
    ·subst hr
     exact Or.inr (Or.inr (Or.inl ⟨Or.inl rfl,hk' ⟨by simp [tN],by simp [tN]⟩,ihl s hl h1 (by omega),rfl⟩))
    ·exact absurd hk (by decide)
   ·have e':b = 4:=by simp only [tN] at e; omega
    subst e'
    rcases hsh with ⟨hk,_⟩ | ⟨hk,_⟩ | ⟨_,hl,hr⟩
    ·exact absurd hk (by decide)
    ·exact absurd hk (by decide)
    ·exact Or.inr (Or.inr (Or.inr ⟨rfl,hk' ⟨by simp [tN],by simp [tN]⟩,ihl s hl h1 (by omega),ihr _ hr h2 (by omega)⟩))
   ·have e':b = 5:=by simp only [tN] at e; omega
    subst e'
    rcases hsh with ⟨hk,_⟩ | ⟨_,hl,hr⟩ | ⟨hk,_⟩
    ·exact absurd hk (by decide)
    ·subst hr
     exact Or.inr (Or.inr (Or.inl ⟨Or.inr rfl,hk' ⟨by simp [tN],by simp [tN]⟩,ihl s hl h1 (by omega),rfl⟩))
    ·exact absurd hk (by decide)
theorem zEU {ns:List OpR} {xs:List zD} (h:zu xs) (hkn:zAY ns xs):∃ T,ZS ns T /\ tsz T = xs.length /\ xs = nd T 0:=by
 obtain ⟨T,hs,hz,hx⟩:=zHv h
 refine ⟨T,zKC h.2.2.2 hkn T 0 hs (by rw [hx]; exact Zu T) (by omega),hz,hx⟩
theorem zK8 {ns:List OpR} (hv:zO ns 0):∀ (T:ET) (l:Int),ZS ns T -> l <= 1001 -> zl ns (grT ns T l) /\ l <= lvT ns (grT ns T l):=by
 intro T
 induction T with
 | nil=>intro l h; exact h.elim
 | node b o t l r ihl ihr=>
  rintro least ⟨h0,h⟩ hle
  simp only [grT]
  split
  ·rename_i h6
   subst h6
   rcases h with ⟨h | h,_⟩ | ⟨_,_,hl,_⟩ | ⟨h | h,_⟩ | ⟨h,_⟩
   ·omega
   ·omega
   ·exact ihl _ hl hle
   ·omega
   ·omega
   ·omega
  ·rename_i h6
   have:zl ns (.node b 0 t (grT ns l (zT ns (rt b t) false)) (grT ns r (zT ns (rt b t) true))):=by
    refine ⟨rfl,?_⟩
    rcases h with ⟨h,rfl,rfl⟩ | ⟨h,_⟩ | ⟨h,hk,hl,rfl⟩ | ⟨h,hk,hl,hr⟩
    ·exact Or.inl ⟨h,rfl,rfl⟩
    ·exact absurd h h6
    ·have f:=opF hv (s:=(b,t)) (by omega) hk
     have f1:=f.hi
     have f2:=f.pre
     have f3:=f.post
     have hh:zT ns (rt b t) false <= 1001:=by
      show sH ns (b,t) false <= 1001
      rcases h with h | h
      ·have:=f2 h; omega
      ·have:=f3 h; omega
     obtain ⟨g,hg⟩:=ihl _ hl hh
     exact Or.inr (Or.inr (Or.inl ⟨h,hk,g,rfl,hg⟩))
    ·have f:=opF hv (s:=(b,t)) (by omega) hk
     have f1:=f.hi
     have f2:=f.mid h
     have hh:zT ns (rt b t) false <= 1001:=by show sH ns (b,t) false <= 1001; omega
     have hh2:zT ns (rt b t) true <= 1001:=by show sH ns (b,t) true <= 1001; omega
     obtain ⟨g,hg⟩:=ihl _ hl hh
     obtain ⟨g2,hg2⟩:=ihr _ hr hh2
     exact Or.inr (Or.inr (Or.inr ⟨h,hk,g,g2,hg,hg2⟩))
   unfold clT
   split
   ·refine ⟨⟨rfl,Or.inr (Or.inl ⟨rfl,rfl,this,rfl⟩)⟩,?_⟩
    simp only [lvT]
    rw [Z2 ns 6 _ (by omega)]
    exact hle
   ·rename_i hn
    refine ⟨this,?_⟩
    simp only [lvT]
    show least <= ZI ns (rt b t)
    omega
end Go.Proofs.YtfboipappaonhaaGreat
namespace Go.Proofs.YtfboipappaonhaaGreat
set_option linter.unusedSimpArgs false
set_option linter.unusedVariables false
set_option maxHeartbeats 16000000
set_option maxRecDepth 100000
open Go.RowKit
def zC4 (e:Value) (l:Int):Prop:=∃ T v f r,e = .iface T v /\ (∀ w,(method 342 T v "loop.example/s0059/impl.level").run Tryz.prog w = .ok (f,r) w) /\ (∀ a w,(callFunc f a).run Tryz.prog w = .ok (.enter f a) w) /\
 ∀ w,Calls Tryz.prog f #[r] w fun x w'=>x = .returned (.int .i64 l) /\ Below w.heap.size w w'
theorem zCS (w:World):Calls Tryz.prog 185 #[.agg #[]] w fun x w'=>x = .returned (.int .i64 1001) /\ Below w.heap.size w w':=by
 go_enter Tryz.func185,Tryz.ntmps185
 go_wp2_with fail
 go_ret
 exact ⟨rfl,by first | exact zC _ _ | exact Below.refl _ _⟩
theorem zBS (p:OpR) (w:World):Calls Tryz.prog 189 #[.agg #[.string p.s,.int .i64 p.k,.int .i64 p.l,.int .i64 p.sd]] w fun x w'=>x = .returned (.int .i64 p.l) /\ Below w.heap.size w w':=by
 go_enter Tryz.func189,Tryz.ntmps189
 go_wp2_with fail
 go_ret
 exact ⟨rfl,by first | exact zC _ _ | exact Below.refl _ _⟩
theorem zJY (t:ByteArray):zC4 (zIZ t) 1001:=⟨_,_,185,.agg #[],rfl,fun w=>by kernel_rfl,fun a w=>by kernel_rfl,zCS⟩
theorem zHx (t:ByteArray):zC4 (zFJ t) 1001:=⟨_,_,185,.agg #[],rfl,fun w=>by kernel_rfl,fun a w=>by kernel_rfl,zCS⟩
theorem zL9 (e:Value):zC4 (zEd e) 1001:=⟨_,_,185,.agg #[],rfl,fun w=>by kernel_rfl,fun a w=>by kernel_rfl,zCS⟩
theorem zJZ (p:OpR) (e:Value):zC4 (zD7 p e) p.l:=⟨_,_,189,.agg #[.string p.s,.int .i64 p.k,.int .i64 p.l,.int .i64 p.sd],rfl,fun w=>by kernel_rfl,fun a w=>by kernel_rfl,zBS p⟩
theorem zHy (p:OpR) (e:Value):zC4 (zBk p e) p.l:=⟨_,_,189,.agg #[.string p.s,.int .i64 p.k,.int .i64 p.l,.int .i64 p.sd],rfl,fun w=>by kernel_rfl,fun a w=>by kernel_rfl,zBS p⟩
theorem zJa (p:OpR) (e e':Value):zC4 (zDC p e e') p.l:=⟨_,_,189,.agg #[.string p.s,.int .i64 p.k,.int .i64 p.l,.int .i64 p.sd],rfl,fun w=>by kernel_rfl,fun a w=>by kernel_rfl,zBS p⟩
def zA4 (w:World) (g m:Nat):Prop:=w.cell? ⟨g,0,none⟩ = some (.int .i64 (m:Int)) /\ w.frozen? ⟨g,0,none⟩ = false
theorem zA4.below {w w':World} {g m:Nat} (h:zA4 w g m) (hb:Below w.heap.size w w'):zA4 w' g m:=
 ⟨(hb.cell (p:=⟨g,0,none⟩) (block_lt_of_cell h.1)).trans h.1,(hb.frozen (p:=⟨g,0,none⟩) (block_lt_of_cell h.1)).trans h.2⟩
theorem zA4.set {w:World} {g m:Nat} (h:zA4 w g m) (n:Nat):zA4 (w.setCell ⟨g,0,none⟩ (.int .i64 (n:Int))) g n:=
 ⟨World.cell?_setCell_same _ _ _ h.1,(World.frozen?_setCell _ _ _ _).trans h.2⟩
theorem zE.setG {w:World} {g:Nat} (v:Value):zE w (w.setCell ⟨g,0,none⟩ v) g:=⟨rfl,rfl,rfl,by simp [World.setCell],fun _ _ hi=>Below.heap_setCell _ _ _ _ hi⟩
def zG2 (l least:Int):Nat:=if l < least then 2 else 1
def zDg (l least:Int) (e:Value):Value:=if l < least then zEd e else e
theorem zBn {e:Value} {l:Int} (h:zC4 e l) (g m:Nat) (least:Int) (w:World) (hg:zA4 w g m) (hm:m <= 100000) :
  Calls Tryz.prog 115 #[.pointer (some ⟨g,0,none⟩),e,.int .i64 least] w fun x w'=>x = .returned (zDg l least e) /\ Hid (zA4 w' g (m + zG2 l least)) /\ Hid (zE w w' g):=by
 obtain ⟨T,v,f,r,rfl,hme,hcf,hcall⟩:=h
 have HC:=zB hcall
 have c0:=hg.1
 have f0:=hg.2
 have hlt:=block_lt_of_cell hg.1
 have HG1:=zB (hg.set (m + 1))
 have e1:((m + 1:Nat):Int) = (m:Int) + 1:=by omega
 have e2:((m + 1 + 1:Nat):Int) = (m:Int) + 1 + 1:=by omega
 rw [e1] at HG1
 clear hcall hg
 go_enter Tryz.func115,Tryz.ntmps115
 go_wp2_with fail
 refine ((zA HC) _).mono ?_
 rintro x w1 ⟨rfl,hb1⟩
 have HK1:=zB ((zE.setG (w:=w) (g:=g) (.int .i64 ((m:Int) + 1))).trans (zE.of_below hb1))
 have HG2:=zB ((zA HG1).below hb1)
 have c1:=(zA HG2).1
 have f1:=(zA HG2).2
 rw [e1] at c1
 clear hb1 HG1 c0 f0 hme hcf
 by_cases hl:l < least
 ·have hl':¬ least <= l:=by omega
  have HN:=zB (show zG2 l least = 2 from if_pos hl)
  have HV:=zB (show zDg l least (.iface T v) = zEd (.iface T v) from if_pos hl)
  have HG3:=zB ((zA HG2).set (m + 1 + 1))
  rw [e2] at HG3
  have HK3:=zB ((zA HK1).trans (zE.setG (w:=w1) (g:=g) (.int .i64 ((m:Int) + 1 + 1))))
  clear HG2 HK1
  go_wp2_with fail
  go_ret
  exact ⟨by rw [zA HV]; rfl,by rw [zA HN]; exact HG3,HK3⟩
 ·have hl':least <= l:=by omega
  have HN:=zB (show zG2 l least = 1 from if_neg hl)
  have HV:=zB (show zDg l least (.iface T v) = .iface T v from if_neg hl)
  clear hl
  go_wp2_with fail
  go_ret
  exact ⟨by rw [zA HV]; rfl,by rw [zA HN]; exact HG2,HK1⟩
theorem zB7 (p:OpR) (o:zD) (e e':Value):∃ T v,exN p o e e' = .iface T v:=by
 unfold exN
 split
 ·exact ⟨_,_,rfl⟩
 ·split
  ·exact ⟨_,_,rfl⟩
  ·split
   ·exact ⟨_,_,rfl⟩
   ·split
    ·exact ⟨_,_,rfl⟩
    ·split
     ·exact ⟨_,_,rfl⟩
     ·exact ⟨_,_,rfl⟩
theorem zAm (ns:List OpR) (xs:List zD) (i:Nat):∃ T v,exS ns xs i = .iface T v:=by
 rw [zDD]; exact zB7 _ _ _ _
theorem zBT (l least:Int) (T:TypeId) (v:Value):∃ T' v',zDg l least (.iface T v) = .iface T' v':=by
 unfold zDg
 split
 ·exact ⟨_,_,rfl⟩
 ·exact ⟨_,_,rfl⟩
def zAn (T:TypeId) (v:Value) (A:TypeId) (z:Value):Prop:=∀ w,(Instr.typeAssert (.iface T v) 56 A true).run Tryz.prog w = .ok (.tuple #[z,.bool false]) w
def zG:Value:=.agg #[.nilIface]
def zP:Value:=.agg #[.string ⟨#[]⟩,.int .i64 0,.int .i64 0,.int .i64 0,.nilIface]
def zI:Value:=.agg #[.string ⟨#[]⟩,.int .i64 0,.int .i64 0,.int .i64 0,.nilIface,.nilIface]
theorem zNB (v:Value):zAn 119 v 134 zG /\ zAn 119 v 129 zP /\ zAn 119 v 131 zI /\ zAn 119 v 132 zP:=
 ⟨fun w=>by kernel_rfl,fun w=>by kernel_rfl,fun w=>by kernel_rfl,fun w=>by kernel_rfl⟩
theorem zMA (v:Value):zAn 121 v 134 zG /\ zAn 121 v 129 zP /\ zAn 121 v 131 zI /\ zAn 121 v 132 zP:=
 ⟨fun w=>by kernel_rfl,fun w=>by kernel_rfl,fun w=>by kernel_rfl,fun w=>by kernel_rfl⟩
theorem zNC (v:Value):zAn 129 v 134 zG:=fun w=>by kernel_rfl
theorem zND (v:Value):zAn 131 v 134 zG /\ zAn 131 v 129 zP:=⟨fun w=>by kernel_rfl,fun w=>by kernel_rfl⟩
theorem zMB (v:Value):zAn 132 v 134 zG /\ zAn 132 v 129 zP /\ zAn 132 v 131 zI:=⟨fun w=>by kernel_rfl,fun w=>by kernel_rfl,fun w=>by kernel_rfl⟩
theorem zNE (v:Value):∀ w,(Instr.typeAssert (.iface 134 v) 56 134 true).run Tryz.prog w = .ok (.tuple #[v,.bool true]) w:=fun w=>by kernel_rfl
theorem zNF (v:Value):∀ w,(Instr.typeAssert (.iface 129 v) 56 129 true).run Tryz.prog w = .ok (.tuple #[v,.bool true]) w:=fun w=>by kernel_rfl
theorem zNG (v:Value):∀ w,(Instr.typeAssert (.iface 131 v) 56 131 true).run Tryz.prog w = .ok (.tuple #[v,.bool true]) w:=fun w=>by kernel_rfl
theorem zMC (v:Value):∀ w,(Instr.typeAssert (.iface 132 v) 56 132 true).run Tryz.prog w = .ok (.tuple #[v,.bool true]) w:=fun w=>by kernel_rfl
def zAC (w:World) (g m:Nat) (e:Value) (x:Ending) (w':World):Prop:=x = .returned e /\ Hid (zA4 w' g m) /\ Hid (zE w w' g)
theorem zHz {T:TypeId} {v:Value} (hn:zAn T v 134 zG /\ zAn T v 129 zP /\ zAn T v 131 zI /\ zAn T v 132 zP) {l:Int} (h:zC4 (.iface T v) l) (g m:Nat) (least:Int) (w:World) (hg:zA4 w g m) (hm:m <= 100000) :
  Calls Tryz.prog 66 #[.pointer (some ⟨g,0,none⟩),.iface T v,.int .i64 least] w (zAC w g (m + zG2 l least) (zDg l least (.iface T v))):=by
 obtain ⟨n1,n2,n3,n4⟩:=hn
 unfold zAn zG at n1
 unfold zAn zP at n2 n4
 unfold zAn zI at n3
 have HG:=zB hg
 have HL:=zB h
 clear hg h
 go_enter Tryz.func66,Tryz.ntmps66
 go_wp2_with fail
 refine (zBn (zA HL) g m least _ (zA HG) hm).mono ?_
 rintro x w1 ⟨rfl,h1,h2⟩
 obtain ⟨T',v',hTv⟩:=zBT l least T v
 rw [hTv]
 clear n1 n2 n3 n4
 go_wp2_with fail
 go_ret
 exact ⟨by rw [hTv]; rfl,h1,h2⟩
theorem zMD {T:TypeId} {v:Value} (g m:Nat) (least:Int) {e:Value} (w:World) (he:∃ T' v',e = .iface T' v')
  (hc:∀ o,Calls Tryz.prog 66 #[.pointer (some ⟨g,0,none⟩),.iface T v,.int .i64 least] (w.alloc o) (zAC (w.alloc o) g m e)) :
  Calls Tryz.prog 66 #[.pointer (some ⟨g,0,none⟩),zEd (.iface T v),.int .i64 least] w (zAC w g m e):=by
 obtain ⟨T',v',rfl⟩:=he
 have i1:=zNE (.agg #[.iface T v])
 have HC:=zB hc
 clear hc
 unfold zEd
 go_enter Tryz.func66,Tryz.ntmps66
 go_wp2_with fail
 refine ((zA HC) _).mono ?_
 rintro x w1 ⟨rfl,h1,h2⟩
 have h3:=zB ((zE.of_below (zC _ _)).trans (zA h2))
 clear i1
 go_wp2_with fail
 go_ret
 exact ⟨rfl,h1,h3⟩
end Go.Proofs.YtfboipappaonhaaGreat
namespace Go.Proofs.YtfboipappaonhaaGreat
set_option linter.unusedSimpArgs false
set_option linter.unusedVariables false
set_option maxHeartbeats 16000000
set_option maxRecDepth 100000
open Go.RowKit
open Go.Deep (BT)
def zKD (s:SyR):Bool:=decide (s.1 = 6 /\ s.2.data = opn.data)
def zK9 (s:SyR):Bool:=decide (s.1 = 7 /\ s.2.data = zAl.data)
theorem zMt {a b:ByteArray} (h:a.data = b.data):a = b:=by cases a; cases b; simp_all
theorem zME {s:SyR} (h:zKD s = true):s = (6,opn):=by
 unfold zKD at h
 have:=of_decide_eq_true h
 obtain ⟨a,b⟩:=s
 exact Prod.ext this.1 (zMt this.2)
theorem zMF {s:SyR} (h:zK9 s = true):s = (7,zAl):=by
 unfold zK9 at h
 have:=of_decide_eq_true h
 obtain ⟨a,b⟩:=s
 exact Prod.ext this.1 (zMt this.2)
def auS (ns:List OpR) (st:Bool × Nat) (s:SyR):Option (Bool × Nat):=
 if st.1 = false then
  (if s.1 = 1 \/ s.1 = 2 then some (true,st.2) else if s.1 = 3 /\ knB ns s = true then some (false,st.2) else if zKD s = true then some (false,st.2 + 1) else none)
 else
  (if s.1 = 4 /\ knB ns s = true then some (false,st.2) else if s.1 = 5 /\ knB ns s = true then some (true,st.2) else if zK9 s = true /\ 0 < st.2 then some (true,st.2 - 1) else none)
def zAo (ns:List OpR):Bool × Nat -> List SyR -> Option (Bool × Nat)
 | st,[]=>some st
 | st,s :: r=>(match auS ns st s with
  | none=>none
  | some st'=>zAo ns st' r)
theorem zAz (ns:List OpR):∀ (a b:List SyR) (st:Bool × Nat),zAo ns st (a ++ b) = (match zAo ns st a with
  | none=>none
  | some st'=>zAo ns st' b)
 | [],b,st=>rfl
 | s :: r,b,st=>by
  simp only [List.cons_append,zAo]
  cases auS ns st s with
  | none=>rfl
  | some st'=>exact zAz ns r b st'
theorem zH0 {ns:List OpR} {d:Nat} {s:SyR} {st:Bool × Nat} (h:auS ns (false,d) s = some st) :
  ((s.1 = 1 \/ s.1 = 2) /\ st = (true,d)) \/ (s.1 = 3 /\ knB ns s = true /\ st = (false,d)) \/ (s = (6,opn) /\ st = (false,d + 1)):=by
 unfold auS at h
 simp only [if_true] at h
 split at h
 ·injection h with h; exact Or.inl ⟨by assumption,h.symm⟩
 ·split at h
  ·rename_i hc; injection h with h; exact Or.inr (Or.inl ⟨hc.1,hc.2,h.symm⟩)
  ·split at h
   ·rename_i hc; injection h with h; exact Or.inr (Or.inr ⟨zME hc,h.symm⟩)
   ·cases h
theorem zJb {ns:List OpR} {d:Nat} {s:SyR} {st:Bool × Nat} (h:auS ns (true,d) s = some st) :
  (s.1 = 4 /\ knB ns s = true /\ st = (false,d)) \/ (s.1 = 5 /\ knB ns s = true /\ st = (true,d)) \/ (s = (7,zAl) /\ 0 < d /\ st = (true,d - 1)):=by
 unfold auS at h
 simp only [Bool.true_eq_false,if_false] at h
 split at h
 ·rename_i hc; injection h with h; exact Or.inl ⟨hc.1,hc.2,h.symm⟩
 ·split at h
  ·rename_i hc; injection h with h; exact Or.inr (Or.inl ⟨hc.1,hc.2,h.symm⟩)
  ·split at h
   ·rename_i hc; injection h with h; exact Or.inr (Or.inr ⟨zMF hc.1,hc.2,h.symm⟩)
   ·cases h
theorem zJc {ns:List OpR} {d:Nat} {s:SyR} (h:s.1 = 1 \/ s.1 = 2):auS ns (false,d) s = some (true,d):=by
 unfold auS
 simp only [if_true]
 rw [if_pos h]
theorem zLA {ns:List OpR} {d:Nat} {s:SyR} (h:s.1 = 3) (hk:knB ns s = true):auS ns (false,d) s = some (false,d):=by
 unfold auS
 simp only [if_true]
 rw [if_neg (by omega),if_pos ⟨h,hk⟩]
theorem zJd {ns:List OpR} {d:Nat}:auS ns (false,d) (6,opn) = some (false,d + 1):=by
 unfold auS
 simp [zKD]
theorem zLB {ns:List OpR} {d:Nat} {s:SyR} (h:s.1 = 4) (hk:knB ns s = true):auS ns (true,d) s = some (false,d):=by
 unfold auS
 simp only [Bool.true_eq_false,if_false]
 rw [if_pos ⟨h,hk⟩]
theorem zJe {ns:List OpR} {d:Nat} {s:SyR} (h:s.1 = 5) (hk:knB ns s = true):auS ns (true,d) s = some (true,d):=by
 unfold auS
 simp only [Bool.true_eq_false,if_false]
 rw [if_neg (by omega),if_pos ⟨h,hk⟩]
theorem zH1 {ns:List OpR} {d:Nat}:auS ns (true,d + 1) (7,zAl) = some (true,d):=by
 unfold auS
 simp [zK9]
def eoS:SyR:=(8,ByteArray.empty)
def Zi (ns:List OpR) (st:Bool × Nat) (ss:List SyR):Prop:=∃ q,ss = q ++ [eoS] /\ zAo ns st q = some (true,0)
theorem zBU {ns:List OpR} {st:Bool × Nat} (h:Zi ns st []):False:=by
 obtain ⟨q,h,_⟩:=h
 simp at h
theorem zGN {ns:List OpR} {st:Bool × Nat} {s:SyR} {r:List SyR} (h:Zi ns st (s :: r)):(s = eoS /\ r = [] /\ st = (true,0)) \/ ∃ st',auS ns st s = some st' /\ Zi ns st' r:=by
 obtain ⟨q,h,hr⟩:=h
 cases q with
 | nil=>
  simp only [List.nil_append] at h
  injection h with h1 h2
  simp only [zAo,Option.some.injEq] at hr
  exact Or.inl ⟨h1,h2,hr⟩
 | cons a q=>
  rw [List.cons_append] at h
  injection h with h1 h2
  subst h1
  simp only [zAo] at hr
  cases e:auS ns st s with
  | none=>rw [e] at hr; cases hr
  | some st'=>rw [e] at hr; exact Or.inr ⟨st',rfl,q,h2,hr⟩
theorem zBV {ns:List OpR} {d:Nat} {s:SyR} {r:List SyR} (h:Zi ns (false,d) (s :: r)) :
  ((s.1 = 1 \/ s.1 = 2) /\ Zi ns (true,d) r) \/ (s.1 = 3 /\ knB ns s = true /\ Zi ns (false,d) r) \/ (s = (6,opn) /\ Zi ns (false,d + 1) r):=by
 rcases zGN h with ⟨_,_,h⟩ | ⟨st',h1,h2⟩
 ·cases h
 ·rcases zH0 h1 with ⟨a,rfl⟩ | ⟨a,b,rfl⟩ | ⟨a,rfl⟩
  ·exact Or.inl ⟨a,h2⟩
  ·exact Or.inr (Or.inl ⟨a,b,h2⟩)
  ·exact Or.inr (Or.inr ⟨a,h2⟩)
theorem zAT {ns:List OpR} {d:Nat} {s:SyR} {r:List SyR} (h:Zi ns (true,d) (s :: r)) :
  (s = eoS /\ r = [] /\ d = 0) \/ (s.1 = 4 /\ knB ns s = true /\ Zi ns (false,d) r) \/ (s.1 = 5 /\ knB ns s = true /\ Zi ns (true,d) r) \/ (s = (7,zAl) /\ 0 < d /\ Zi ns (true,d - 1) r):=by
 rcases zGN h with ⟨h1,h2,h3⟩ | ⟨st',h1,h2⟩
 ·simp only [Prod.mk.injEq,true_and] at h3
  exact Or.inl ⟨h1,h2,h3⟩
 ·rcases zJb h1 with ⟨a,b,rfl⟩ | ⟨a,b,rfl⟩ | ⟨a,b,rfl⟩
  ·exact Or.inr (Or.inl ⟨a,b,h2⟩)
  ·exact Or.inr (Or.inr (Or.inl ⟨a,b,h2⟩))
  ·exact Or.inr (Or.inr (Or.inr ⟨a,b,h2⟩))
def yM:Option ET -> List SyR
 | none=>[]
 | some T=>ySy T
theorem Zg {ns:List OpR} (hv:zO ns 0):∀ (n:Nat) (least:Int) (md:Option ET) (ss:List SyR) (d:Nat) (x:ET × List SyR),least <= 1001 -> Zi ns (md.isSome,d) ss -> (∀ L,md = some L -> zl ns L /\ least <= lvT ns L) -> rd ns n least md ss = some x ->
  Zi ns (true,d) x.2 /\ zl ns x.1 /\ least <= lvT ns x.1 /\ zES ns least x.2 /\ yM md ++ ss = ySy x.1 ++ x.2
 | 0,_,_,_,_,_,_,_,_,h=>by simp [rd] at h
 | n + 1,least,none,[],d,x,_,hf,_,h=>(zBU hf).elim
 | n + 1,least,some T,[],d,x,_,hf,_,h=>(zBU hf).elim
 | n + 1,least,none,s :: r,d,x,hl,hf,hm,h=>by
  simp only [rd] at h
  rcases zBV hf with ⟨hs,hf'⟩ | ⟨hs,hk,hf'⟩ | ⟨hs,hf'⟩
  ·rw [if_neg (by omega),if_neg (by omega)] at h
   have hlv:lvT ns (.node s.1 0 s.2 .nil .nil) = 1001:=Z2 ns _ _ (by omega)
   have:=Zg hv n least (some (.node s.1 0 s.2 .nil .nil)) r d x hl hf' (fun L e=>by
    injection e with e; subst e
    exact ⟨⟨rfl,Or.inl ⟨hs,rfl,rfl⟩⟩,by omega⟩) h
   refine ⟨this.1,this.2.1,this.2.2.1,this.2.2.2.1,?_⟩
   rw [<- this.2.2.2.2]
   simp only [yM,ySy]
   rw [if_neg (by omega),if_neg (by omega),if_neg (by omega),if_neg (by omega)]
   rfl
  ·rw [if_pos hs] at h
   have f:=(opF hv (s:=s) (Or.inl hs) hk)
   have fp:=f.pre hs
   have fh:=f.hi
   split at h
   ·cases h
   ·rename_i hlt
    split at h
    ·cases h
    ·rename_i y hy
     obtain ⟨a1,a2,a3,a4,a5⟩:=Zg hv n _ none r d y (by omega) hf' (fun L e=>by cases e) hy
     have es:((3,s.2):SyR) = s:=Prod.ext hs.symm rfl
     have hlv:lvT ns (.node 3 0 s.2 y.1 .nil) = sLv ns s:=by simp only [lvT,es]
     have:=Zg hv n least (some (.node 3 0 s.2 y.1 .nil)) y.2 d x hl a1 (fun L e=>by
      injection e with e; subst e
      exact ⟨⟨rfl,Or.inr (Or.inr (Or.inl ⟨Or.inl rfl,by rw [es]; exact hk,a2,rfl,by rw [es]; exact a3⟩))⟩,by omega⟩) h
     refine ⟨this.1,this.2.1,this.2.2.1,this.2.2.2.1,?_⟩
     rw [<- this.2.2.2.2]
     simp only [yM,List.nil_append] at a5 ⊢
     rw [a5]
     simp [ySy,es]
  ·subst hs
   simp only at h
   rw [if_neg (by decide),if_pos trivial] at h
   split at h
   ·cases h
   ·rename_i y hy
    obtain ⟨a1,a2,a3,a4,a5⟩:=Zg hv n 0 none r (d + 1) y (by omega) hf' (fun L e=>by cases e) hy
    obtain ⟨T,q⟩:=y
    simp only at a1 a2 a3 a4 a5 h
    cases q with
    | nil=>exact (zBU a1).elim
    | cons z q=>
     have hz:z = (7,zAl) /\ Zi ns (true,d) q:=by
      rcases zAT a1 with ⟨_,_,h0⟩ | ⟨h4,hkk,_⟩ | ⟨h5,hkk,_⟩ | ⟨h7,_,h8⟩
      ·omega
      ·have:=a4 z q rfl (Or.inl h4)
       have:=(opF hv (s:=z) (Or.inr (Or.inl h4)) hkk).lo
       omega
      ·have:=a4 z q rfl (Or.inr h5)
       have:=(opF hv (s:=z) (Or.inr (Or.inr h5)) hkk).lo
       omega
      ·exact ⟨h7,h8⟩
     obtain ⟨rfl,hq⟩:=hz
     simp only [List.tail_cons] at h
     have hlv:lvT ns (.node 6 0 ByteArray.empty T .nil) = 1001:=Z2 ns _ _ (by omega)
     have:=Zg hv n least (some (.node 6 0 ByteArray.empty T .nil)) q d x hl hq (fun L e=>by
      injection e with e; subst e
      exact ⟨⟨rfl,Or.inr (Or.inl ⟨rfl,rfl,a2,rfl⟩)⟩,by omega⟩) h
     refine ⟨this.1,this.2.1,this.2.2.1,this.2.2.2.1,?_⟩
     rw [<- this.2.2.2.2]
     simp only [yM,List.nil_append] at a5 ⊢
     rw [a5]
     simp [ySy]
 | n + 1,least,some T,s :: r,d,x,hl,hf,hm,h=>by
  obtain ⟨hT,hTl⟩:=hm T rfl
  simp only [rd] at h
  have stop:(¬ (s.1 = 4 /\ least <= sLv ns s)) -> (¬ (s.1 = 5 /\ least <= sLv ns s)) -> Zi ns (true,d) x.2 /\ zl ns x.1 /\ least <= lvT ns x.1 /\ zES ns least x.2 /\ yM (some T) ++ s :: r = ySy x.1 ++ x.2:=fun c1 c2=>by
   rw [if_neg c1,if_neg c2] at h
   injection h with h
   subst h
   refine ⟨hf,hT,hTl,fun s' r' e hs=>?_,rfl⟩
   injection e with e1 e2
   subst e1
   omega
  by_cases c1:s.1 = 4 /\ least <= sLv ns s
  ·rw [if_pos c1] at h
   have hf4:knB ns s = true /\ Zi ns (false,d) r:=by
    rcases zAT hf with ⟨h1,_⟩ | ⟨_,h1,h2⟩ | ⟨h1,_⟩ | ⟨h1,_⟩
    ·rw [h1] at c1; exact absurd c1.1 (by decide)
    ·exact ⟨h1,h2⟩
    ·omega
    ·rw [h1] at c1; exact absurd c1.1 (by decide)
   obtain ⟨hk,hf'⟩:=hf4
   have f:=(opF hv (s:=s) (Or.inr (Or.inl c1.1)) hk)
   have fp:=f.mid c1.1
   have fh:=f.hi
   split at h
   ·cases h
   ·rename_i hlt
    split at h
    ·cases h
    ·rename_i y hy
     obtain ⟨a1,a2,a3,a4,a5⟩:=Zg hv n _ none r d y (by omega) hf' (fun L e=>by cases e) hy
     have es:((4,s.2):SyR) = s:=Prod.ext c1.1.symm rfl
     have hlv:lvT ns (.node 4 0 s.2 T y.1) = sLv ns s:=by simp only [lvT,es]
     have:=Zg hv n least (some (.node 4 0 s.2 T y.1)) y.2 d x hl a1 (fun L e=>by
      injection e with e; subst e
      exact ⟨⟨rfl,Or.inr (Or.inr (Or.inr ⟨rfl,by rw [es]; exact hk,hT,a2,by rw [es]; omega,by rw [es]; exact a3⟩))⟩,by omega⟩) h
     refine ⟨this.1,this.2.1,this.2.2.1,this.2.2.2.1,?_⟩
     rw [<- this.2.2.2.2]
     simp only [yM,List.nil_append] at a5 ⊢
     rw [a5]
     simp [ySy,es]
  ·by_cases c2:s.1 = 5 /\ least <= sLv ns s
   ·rw [if_neg c1,if_pos c2] at h
    have hf4:knB ns s = true /\ Zi ns (true,d) r:=by
     rcases zAT hf with ⟨h1,_⟩ | ⟨h1,_⟩ | ⟨_,h1,h2⟩ | ⟨h1,_⟩
     ·rw [h1] at c2; exact absurd c2.1 (by decide)
     ·omega
     ·exact ⟨h1,h2⟩
     ·rw [h1] at c2; exact absurd c2.1 (by decide)
    obtain ⟨hk,hf'⟩:=hf4
    have f:=(opF hv (s:=s) (Or.inr (Or.inr c2.1)) hk)
    split at h
    ·cases h
    ·rename_i hlt
     have es:((5,s.2):SyR) = s:=Prod.ext c2.1.symm rfl
     have hlv:lvT ns (.node 5 0 s.2 T .nil) = sLv ns s:=by simp only [lvT,es]
     have:=Zg hv n least (some (.node 5 0 s.2 T .nil)) r d x hl hf' (fun L e=>by
      injection e with e; subst e
      exact ⟨⟨rfl,Or.inr (Or.inr (Or.inl ⟨Or.inr rfl,by rw [es]; exact hk,hT,rfl,by rw [es]; omega⟩))⟩,by omega⟩) h
     refine ⟨this.1,this.2.1,this.2.2.1,this.2.2.2.1,?_⟩
     rw [<- this.2.2.2.2]
     simp [yM,ySy,es]
   ·exact stop c1 c2
theorem zNH {ns:List OpR} (hv:zO ns 0) {ss:List SyR} (hf:zAo ns (false,0) ss = some (true,0)) (T:ET):(zl ns T /\ ySy T = ss) ↔ RD ns 0 none (ss ++ [eoS]) = some (T,[eoS]):=by
 constructor
 ·rintro ⟨hT,rfl⟩
  have h0:(0:Int) <= lvT ns T:=by
   cases T with
   | nil=>exact hT.elim
   | node bb oo tt ll rr=>
    simp only [lvT]
    by_cases hb:bb = 3 \/ bb = 4 \/ bb = 5
    ·have hkn:knB ns (bb,tt) = true:=by
      rcases hT.2 with ⟨h | h,_⟩ | ⟨h,_⟩ | ⟨_,hk,_⟩ | ⟨_,hk,_⟩
      ·omega
      ·omega
      ·omega
      ·exact hk
      ·exact hk
     have:=(opF hv (s:=(bb,tt)) hb hkn).lo
     omega
    ·rw [Z2 ns bb tt hb]; omega
  have hn:¬ (eoS.1 = 4 \/ eoS.1 = 5):=by decide
  rw [zK7 hv T hT 0 [eoS] h0 (zBm hn T),zEq (zCR hn)]
 ·intro h
  obtain ⟨_,a2,_,_,a5⟩:=Zg hv _ 0 none (ss ++ [eoS]) 0 (T,[eoS]) (by omega) ⟨ss,rfl,hf⟩ (fun L e=>by cases e) h
  refine ⟨a2,?_⟩
  simp only [yM,List.nil_append] at a5
  exact (List.append_cancel_right a5).symm
theorem zNI {ns:List OpR} (hv:zO ns 0) {ss:List SyR} (hf:zAo ns (false,0) ss = some (true,0)) {x:ET × List SyR} (h:RD ns 0 none (ss ++ [eoS]) = some x):x.2 = [eoS]:=by
 obtain ⟨a1,_,_,a4,_⟩:=Zg hv _ 0 none (ss ++ [eoS]) 0 x (by omega) ⟨ss,rfl,hf⟩ (fun L e=>by cases e) h
 obtain ⟨T,q⟩:=x
 simp only at a1 a4 ⊢
 cases q with
 | nil=>exact (zBU a1).elim
 | cons z q=>
  rcases zAT a1 with ⟨h1,h2,_⟩ | ⟨h4,hkk,_⟩ | ⟨h5,hkk,_⟩ | ⟨_,h7,_⟩
  ·rw [h1,h2]
  ·have:=a4 z q rfl (Or.inl h4)
   have:=(opF hv (s:=z) (Or.inr (Or.inl h4)) hkk).lo
   omega
  ·have:=a4 z q rfl (Or.inr h5)
   have:=(opF hv (s:=z) (Or.inr (Or.inr h5)) hkk).lo
   omega
  ·omega
theorem zCf {b:Nat} {t:ByteArray} (h:b = 1 \/ b = 2):ySy (.node b 0 t .nil .nil) = [(b,t)]:=by
 simp only [ySy]
 rw [if_neg (by omega),if_neg (by omega),if_neg (by omega),if_neg (by omega)]
theorem zDh {t:ByteArray} {l r:ET}:ySy (.node 6 0 t l r) = (6,opn) :: (ySy l ++ [(7,zAl)]):=by simp [ySy]
theorem zCt {t:ByteArray} {l r:ET}:ySy (.node 3 0 t l r) = (3,t) :: ySy l:=by simp [ySy]
theorem zCg {t:ByteArray} {l r:ET}:ySy (.node 5 0 t l r) = ySy l ++ [(5,t)]:=by simp [ySy]
theorem zEr {t:ByteArray} {l r:ET}:ySy (.node 4 0 t l r) = ySy l ++ ((4,t) :: ySy r):=by simp [ySy]
def Seg (ns:List OpR) (ss:List SyR):Prop:=zAo ns (false,0) ss = some (true,0)
theorem zIl {ns:List OpR}:∀ (T:ET),zl ns T -> tsz T <= (ySy T).length:=by
 intro T
 induction T with
 | nil=>intro h; exact h.elim
 | node b o t l r ihl ihr=>
  rintro ⟨rfl,h⟩
  rcases h with ⟨h12,rfl,rfl⟩ | ⟨rfl,rfl,hl,rfl⟩ | ⟨h35,hk,hl,rfl,hh⟩ | ⟨rfl,hk,hl,hr,h1,h2⟩
  ·rw [zCf h12]; simp [tsz]
  ·have:=ihl hl
   rw [zDh]; simp [tsz]; omega
  ·have:=ihl hl
   rcases h35 with rfl | rfl
   ·rw [zCt]; simp [tsz]; omega
   ·rw [zCg]; simp [tsz]; omega
  ·have:=ihl hl
   have:=ihr hr
   rw [zEr]; simp [tsz]; omega
end Go.Proofs.YtfboipappaonhaaGreat
