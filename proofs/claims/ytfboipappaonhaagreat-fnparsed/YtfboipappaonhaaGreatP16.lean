import Derived.Maps.OwnSet
import Derived.DeepKeys4
import Derived.Maps.Views
import Derived.Test.YtfboipappaonhaaGreatP00
import Derived.Test.YtfboipappaonhaaGreatP06
import Derived.Test.YtfboipappaonhaaGreatP14
import Derived.Test.YtfboipappaonhaaGreatP15
namespace Go.Proofs.YtfboipappaonhaaGreat
set_option maxHeartbeats 16000000
set_option maxRecDepth 100000
open Go.RowKit Go.Maps
theorem zMJ:laidOutB Tryz.prog = true:=by kernel_rfl
theorem zO6:(161:TypeId) < Tryz.prog.types.size:=of_decide_eq_true (by kernel_rfl)
theorem zOs:(match Tryz.prog.underlying 161 with | some (.array _ _) | some (.struct _)=>true | _=>false) = true:=by kernel_rfl
theorem zGh:Keyed Tryz.prog 161:=Keyed.of_law (deep_law_laid zMJ (m:=3) (by omega) zO6 (by kernel_rfl) zOs)
theorem zMK:Keyed Tryz.prog 3:=int_keyed Tryz.underlying3
theorem zML:Tryz.prog.keyType 161 = true:=by kernel_rfl
theorem zHB:Tryz.prog.types.size + 1 = (Tryz.prog.types.size - 1) + 1 + 1:=by
 have h:decide (1 <= Tryz.prog.types.size) = true:=by kernel_rfl
 have:=of_decide_eq_true h
 omega
theorem zEq:Tryz.prog.cellsOf 161 = 2:=by kernel_rfl
theorem zHx:Tryz.prog.cellsOf 9 = 1:=by kernel_rfl
theorem zHy:Tryz.prog.cellsOf 3 = 1:=by kernel_rfl
def klO (s:ByteArray) (k:Int):Lit:=.string (keyBytes [.string s.data.toList,.int .i64 k])
theorem zOt {s:ByteArray} (hs:s.size <= maxLen) (d:Nat):Tryz.prog.keyLits (d + 1) 9 [.string s] = some [.string s.data.toList]:=by
 unfold Program.keyLits
 rw [Tryz.underlying9]
 exact if_pos hs
theorem zOu {k:Int} (hk:(Lit.int .i64 k).wf = true) (d:Nat):Tryz.prog.keyLits (d + 1) 3 [.int .i64 k] = some [.int .i64 k]:=by
 unfold Program.keyLits
 rw [Tryz.underlying3]
 exact if_pos ⟨rfl,hk⟩
theorem zOv {s:ByteArray} {k:Int} (hs:s.size <= maxLen) (hk:(Lit.int .i64 k).wf = true) (d:Nat) :
  Tryz.prog.keyLits (d + 1 + 1) 161 [.string s,.int .i64 k] = some [.string s.data.toList,.int .i64 k]:=by
 conv=>lhs; unfold Program.keyLits
 rw [Tryz.underlying161]
 simp [zEq,zHx,zHy,zOt hs d,zOu hk d]
theorem zHz {s:ByteArray} {k:Int} (hs:s.size <= maxLen) (hk:(Lit.int .i64 k).wf = true):keyOf Tryz.prog 161 (.agg #[.string s,.int .i64 k]) = some (klO s k):=by
 unfold keyOf
 rw [Tryz.underlying161]
 have hf:(Value.agg #[.string s,.int .i64 k]).formed Tryz.prog 161 = true:=by simp [Value.formed,Tryz.underlying161,zEq]
 have hl:=zOv hs hk (Tryz.prog.types.size - 1)
 rw [<- zHB] at hl
 simp only [zML,hf,Bool.and_self,if_true]
 show (Tryz.prog.keyLits (Tryz.prog.types.size + 1) 161 [.string s,.int .i64 k]).map _ = _
 rw [hl]
 rfl
theorem zH0 {s t:ByteArray} {k k':Int} (hs:s.size <= maxLen) (ht:t.size <= maxLen) (hk:(Lit.int .i64 k).wf = true) (hk':(Lit.int .i64 k').wf = true) (h:klO s k = klO t k'):s = t /\ k = k':=by
 have a:=zHz hs hk
 have b:=zHz ht hk'
 rw [<- h] at b
 have:=zGh.inj a b
 simpa using this
theorem zNf {l:Int} (h:(Lit.int .i64 l).wf = true):keyOf Tryz.prog 3 (.int .i64 l) = some (.int .i64 l):=keyOf_int_mk Tryz.underlying3 h
def zAI (s:ByteArray) (k l sd:Int):DataW Unit:=.agg [.lit (.string s.data.toList),.lit (.int .i64 k),.lit (.int .i64 l),.lit (.int .i64 sd)]
def Zy (v:Value):Option (DataW Unit × List MemPlace):=
 match v with
 | .agg cs=>match cs.toList with
  | [.string s,.int .i64 k,.int .i64 l,.int .i64 sd]=>some (zAI s k l sd,[])
  | _=>none
 | _=>none
theorem zCf (s:ByteArray) (k l sd:Int):Zy (.agg #[.string s,.int .i64 k,.int .i64 l,.int .i64 sd]) = some (zAI s k l sd,[]):=rfl
theorem zC1 {v:Value} {z:DataW Unit × List MemPlace} (h:Zy v = some z):∃ s k l sd,v = .agg #[.string s,.int .i64 k,.int .i64 l,.int .i64 sd]:=by
 unfold Zy at h
 split at h
 ·rename_i cs
  split at h
  ·rename_i a b c d e
   obtain ⟨cs⟩:=cs
   simp only at e
   subst e
   exact ⟨_,_,_,_,rfl⟩
  ·cases h
 ·cases h
theorem zK7 {s s':ByteArray} {k k' l l' sd sd':Int} (h:zAI s k l sd = zAI s' k' l' sd'):s = s' /\ k = k' /\ l = l' /\ sd = sd':=by
 unfold zAI at h
 simp only [DataW.agg.injEq,List.cons.injEq,DataW.lit.injEq,Lit.string.injEq,Lit.int.injEq,true_and,and_true] at h
 obtain ⟨h1,h2,h3,h4⟩:=h
 refine ⟨?_,h2,h3,h4⟩
 obtain ⟨⟨a⟩⟩:=s
 obtain ⟨⟨b⟩⟩:=s'
 simp only at h1
 rw [h1]
theorem zJm {v:Value} {s:ByteArray} {k l sd:Int} {ps:List MemPlace} (h:Zy v = some (zAI s k l sd,ps)):v = .agg #[.string s,.int .i64 k,.int .i64 l,.int .i64 sd]:=by
 obtain ⟨s',k',l',sd',rfl⟩:=zC1 h
 rw [zCf] at h
 simp only [Option.some.injEq,Prod.mk.injEq] at h
 obtain ⟨rfl,rfl,rfl,rfl⟩:=zK7 h.1
 rfl
theorem zMM (w:World):(zeroValue 123).run Tryz.prog w = .ok (.agg #[.string ⟨#[]⟩,.int .i64 0,.int .i64 0,.int .i64 0]) w:=by kernel_rfl
theorem zKZ (w:World):(zeroValue 3).run Tryz.prog w = .ok (.int .i64 0) w:=by kernel_rfl
end Go.Proofs.YtfboipappaonhaaGreat
namespace Go.Proofs.YtfboipappaonhaaGreat
set_option linter.unusedSimpArgs false
set_option linter.unusedVariables false
set_option maxHeartbeats 16000000
set_option maxRecDepth 100000
open Go.RowKit Go.Maps
def zFX (v:Value):Option (DataW Value × List MemPlace):=some (.held v,[])
def klS (t:ByteArray):Lit:=.string t.data.toList
theorem zNg {s t:ByteArray} (h:klS s = klS t):s = t:=by
 unfold klS at h
 injection h with h
 cases s; cases t
 simp at h
 rw [h]
theorem zOQ {t:ByteArray} (h:t.size <= maxLen):keyOf Tryz.prog 9 (.string t) = some (klS t):=WideMaps.keyOf_string_mk Tryz.underlying9 h
def zB6 (w:World) (b n:Nat) (G:ByteArray -> Option Value):Prop:=
 ∃ D:DataW Value,w.ownsMap Tryz.prog 9 zFX b n D /\ ∀ t,t.size <= maxLen -> Maps.has D (klS t) = (G t).isSome /\ (∀ v,G t = some v -> ∀ z,D.atKey (klS t) z = .held v) /\ (G t = none -> ∀ z,D.atKey (klS t) z = z)
theorem zB6.kept {w w':World} {b n:Nat} {G:ByteArray -> Option Value} {row:Option Nat} (h:zB6 w b n G) (hg:w.grownBy w' row) (hne:some b ≠ row):zB6 w' b n G:=by
 obtain ⟨D,hD,h⟩:=h
 exact ⟨D,hD.kept hg hne,h⟩
theorem zB6.made (w:World):zB6 (w.alloc (.map #[] 0)) w.heap.size 0 (fun _=>none):=
 ⟨.map [],World.ownsMap_made w Tryz.prog 9 zFX,fun t _=>⟨rfl,fun v h=>(by cases h),fun _ z=>rfl⟩⟩
theorem zB6.look {w:World} {b n:Nat} {G:ByteArray -> Option Value} {ty e:TypeId} (h:zB6 w b n G) (ht:Tryz.prog.underlying ty = some (.map 9 e)) {z:Value} (hz:(zeroValue e).run Tryz.prog w = .ok z w) {t:ByteArray} (hs:t.size <= maxLen) :
  (Instr.lookup ty (.map (some b)) (.string t) true).run Tryz.prog w = .ok (.tuple #[(G t).getD z,.bool (G t).isSome]) w:=by
 obtain ⟨D,hD,h⟩:=h
 obtain ⟨v,ps,hrun,hv⟩:=hD.look_ok (string_keyed Tryz.underlying9) ht hz (zd:=.held z) (zp:=[]) rfl (zOQ hs)
 rw [(h t hs).1] at hrun
 have e:v = (G t).getD z:=by
  cases hg:G t with
  | none=>
   rw [(h t hs).2.2 hg] at hv
   simp only [zFX,Option.some.injEq,Prod.mk.injEq,DataW.held.injEq] at hv
   exact hv.1
  | some u=>
   rw [(h t hs).2.1 u hg] at hv
   simp only [zFX,Option.some.injEq,Prod.mk.injEq,DataW.held.injEq] at hv
   exact hv.1
 rw [<- e]
 exact hrun
theorem zB6.put {G:ByteArray -> Option Value} {D:DataW Value} (hm:IsMap D) (h:∀ t,t.size <= maxLen -> Maps.has D (klS t) = (G t).isSome /\ (∀ v,G t = some v -> ∀ z,D.atKey (klS t) z = .held v) /\ (G t = none -> ∀ z,D.atKey (klS t) z = z)) {t:ByteArray} (hs:t.size <= maxLen) (v:Value) :
  ∀ t',t'.size <= maxLen -> Maps.has (D.put (klS t) (.held v)) (klS t') = (if t'.data = t.data then some v else G t').isSome /\ (∀ u,(if t'.data = t.data then some v else G t') = some u -> ∀ z,(D.put (klS t) (.held v)).atKey (klS t') z = .held u) /\ ((if t'.data = t.data then some v else G t') = none -> ∀ z,(D.put (klS t) (.held v)).atKey (klS t') z = z):=by
 intro t' hs'
 by_cases e:t'.data = t.data
 ·have e':t' = t:=by cases t; cases t'; simp at e; rw [e]
  subst e'
  have hk:=(string_keyed Tryz.underlying9).key (zOQ hs')
  rw [if_pos rfl,has_put_same hm hk]
  refine ⟨rfl,fun u hu z=>?_,fun hu=>by cases hu⟩
  injection hu with hu
  rw [atKey_put_same hm hk,hu]
 ·have hne:klS t' ≠ klS t:=fun x=>e (by rw [zNg x])
  rw [if_neg e,has_put_other hne]
  refine ⟨(h t' hs').1,fun u hu z=>?_,fun hu z=>?_⟩
  ·rw [atKey_put_other hne]
   exact (h t' hs').2.1 u hu z
  ·rw [atKey_put_other hne]
   exact (h t' hs').2.2 hu z
theorem zB6.update {w:World} {b n:Nat} {G:ByteArray -> Option Value} {ty e:TypeId} (h:zB6 w b n G) (ht:Tryz.prog.underlying ty = some (.map 9 e)) (hn:n < maxLen) {t:ByteArray} (hs:t.size <= maxLen) (v:Value) :
  ∃ w',(Instr.mapUpdate ty (.map (some b)) (.string t) v).run Tryz.prog w = .ok () w' /\ zB6 w' b (n + 1) (fun t'=>if t'.data = t.data then some v else G t') /\ zE w w' b:=by
 obtain ⟨D,hD,h⟩:=h
 obtain ⟨w',hrun,h1,h2⟩:=hD.update (string_keyed Tryz.underlying9) ht hn (zOQ hs) (val:=v) (d:=.held v) (ps:=[]) rfl
 exact ⟨w',hrun,⟨_,h1,zB6.put hD.isMap h hs v⟩,⟨h2.os,h2.tape,h2.output,h2.size,fun i hi hne=>h2.block i hi (fun x=>hne (by injection x))⟩⟩
def Zb (w:World) (p:Nat) (g o n c:Nat) (i:Nat) (bf bb:Nat):Prop:=
 w.cell? ⟨p,0,none⟩ = some (.slice (some ⟨g,o,none⟩) n c) /\ w.cell? ⟨p,1,none⟩ = some (.int .i64 (i:Int)) /\ w.cell? ⟨p,2,none⟩ = some (.map (some bf)) /\ w.cell? ⟨p,3,none⟩ = some (.map (some bb)) /\ w.frozen? ⟨p,1,none⟩ = false
theorem Zb.below {w w':World} {p g o n c i bf bb:Nat} (h:Zb w p g o n c i bf bb) (hb:Below w.heap.size w w'):Zb w' p g o n c i bf bb:=
 have hlt:=block_lt_of_cell h.1
 ⟨(hb.cell (p:=⟨p,0,none⟩) hlt).trans h.1,(hb.cell (p:=⟨p,1,none⟩) hlt).trans h.2.1,(hb.cell (p:=⟨p,2,none⟩) hlt).trans h.2.2.1,(hb.cell (p:=⟨p,3,none⟩) hlt).trans h.2.2.2.1,(hb.frozen (p:=⟨p,1,none⟩) hlt).trans h.2.2.2.2⟩
theorem Zb.set {w:World} {p g o n c i bf bb:Nat} (h:Zb w p g o n c i bf bb) (j:Nat):Zb (w.setCell ⟨p,1,none⟩ (.int .i64 (j:Int))) p g o n c j bf bb:=
 ⟨(World.cell?_setCell_other _ _ _ _ (by simp)).trans h.1,World.cell?_setCell_same _ _ _ h.2.1,(World.cell?_setCell_other _ _ _ _ (by simp)).trans h.2.2.1,(World.cell?_setCell_other _ _ _ _ (by simp)).trans h.2.2.2.1,(World.frozen?_setCell _ _ _ _).trans h.2.2.2.2⟩
theorem zE.setP {w:World} {p:Nat} (v:Value):zE w (w.setCell ⟨p,1,none⟩ v) p:=⟨rfl,rfl,rfl,by simp [World.setCell],fun _ _ hi=>Below.heap_setCell _ _ _ _ hi⟩
def zH1:Ending:=.panicked [{ v:=.iface 146 (.agg #[.int .i64 5,.int .i64 0]),recovered:=false }]
def zMN (w:World) (l hole:Int) (p g o n c i bf bb:Nat) (x:Ending) (w':World):Prop:=
 Hid (zE w w' p) /\ ((l < hole /\ x = zH1) \/ (hole <= l /\ x = .returned (.tuple #[]) /\ Hid (Zb w' p g o n c (i + 1) bf bb)))
theorem zI1 {e:Value} {l:Int} (h:zFA e l) (p g o n c i bf bb:Nat) (hole:Int) (w:World) (hp:Zb w p g o n c i bf bb) (hi:i <= 100000) :
  Calls Tryz.prog 134 #[.pointer (some ⟨p,0,none⟩),e,.int .i64 hole] w (zMN w l hole p g o n c i bf bb):=by
 obtain ⟨T,v,f,r,rfl,hme,hcf,hcall⟩:=h
 have HC:=zB hcall
 have HP:=zB hp
 clear hcall hp
 go_enter Tryz.func134,Tryz.ntmps134
 go_wp2_with fail
 refine ((zA HC) _).mono ?_
 rintro x w1 ⟨rfl,hb1⟩
 replace HP:=zB ((zA HP).below hb1)
 have HK:=zB (zE.of_below (g:=p) hb1)
 clear hb1
 by_cases hl:l < hole
 ·have HL:=zB hl
  go_wp2_with fail
  exact ⟨rfl,HK,Or.inl ⟨zA HL,rfl⟩⟩
 ·have hl':hole <= l:=by omega
  have HL:=zB hl'
  have c1:=(zA HP).2.1
  have c4:=(zA HP).2.2.2.2
  have e1:((i + 1:Nat):Int) = (i:Int) + 1:=by omega
  have HP2:=zB ((zA HP).set (i + 1))
  rw [e1] at HP2
  have HK2:=zB ((zA HK).trans (zE.setP (p:=p) (.int .i64 ((i:Int) + 1))))
  clear HP HK
  go_wp2_with fail
  go_end0
  exact ⟨HK2,Or.inr ⟨zA HL,rfl,HP2⟩⟩
end Go.Proofs.YtfboipappaonhaaGreat
namespace Go.Proofs.YtfboipappaonhaaGreat
set_option linter.unusedSimpArgs false
set_option linter.unusedVariables false
set_option maxHeartbeats 16000000
set_option maxRecDepth 100000
open Go.RowKit
def zEr (ns:List OpR) (least:Int) (s:SyR) (r:List SyR):Option (ET × List SyR):=
 if s.1 = 3 then (if sLv ns s < least then none else (match RD ns (sH ns s false) none r with
  | none=>none
  | some x=>some (.node 3 0 s.2 x.1 .nil,x.2)))
 else if s.1 = 6 then (match RD ns 0 none r with
  | none=>none
  | some x=>some (.node 6 0 ByteArray.empty x.1 .nil,x.2.tail))
 else some (.node s.1 0 s.2 .nil .nil,r)
theorem zOR (ns:List OpR) (least:Int) (s:SyR) (r:List SyR):RD ns least none (s :: r) = (match zEr ns least s r with
  | none=>none
  | some x=>RD ns least (some x.1) x.2):=by
 rw [zFU]
 unfold zEr
 by_cases h3:s.1 = 3
 ·rw [if_pos h3,if_pos h3]
  by_cases hl:sLv ns s < least
  ·rw [if_pos hl,if_pos hl]
  ·rw [if_neg hl,if_neg hl]
   cases RD ns (sH ns s false) none r with
   | none=>rfl
   | some x=>rfl
 ·rw [if_neg h3,if_neg h3]
  by_cases h6:s.1 = 6
  ·rw [if_pos h6,if_pos h6]
   cases RD ns 0 none r with
   | none=>rfl
   | some x=>rfl
  ·rw [if_neg h6,if_neg h6]
theorem zEO {ns:List OpR} (hv:zM ns 0) {s:SyR} (hs:s.1 = 3 \/ s.1 = 4 \/ s.1 = 5) (hk:knB ns s = true):sH ns s false <= 1001 /\ (s.1 = 4 -> sH ns s true <= 1001):=by
 have f:=opF hv hs hk
 have fh:=f.hi
 rcases hs with h | h | h
 ·have:=(f.pre h).1
  exact ⟨by omega,fun x=>by omega⟩
 ·rcases f.mid h with ⟨_,a,c⟩ | ⟨_,a,c⟩ | ⟨_,a,c⟩ <;> exact ⟨by omega,fun _=>by omega⟩
 ·have:=(f.post h).1
  exact ⟨by omega,fun x=>by omega⟩
theorem zHC {ns:List OpR} (hv:zM ns 0) {r:List SyR} {d:Nat} {y:ET × List SyR} (hf:Zl ns (false,d + 1) r) (hy:RD ns 0 none r = some y) :
  ∃ q,y.2 = (7,zA7) :: q /\ Zl ns (true,d) q /\ zX ns y.1 /\ r = ySy y.1 ++ (7,zA7) :: q:=by
 obtain ⟨a1,a2,a3,a4,a5⟩:=Zh hv _ 0 none r (d + 1) y (by omega) hf (fun L e=>by cases e) hy
 obtain ⟨T,q⟩:=y
 simp only [yM,List.nil_append] at a1 a2 a3 a4 a5
 cases q with
 | nil=>exact (zBz a1).elim
 | cons z q=>
  have hz:z = (7,zA7) /\ Zl ns (true,d) q:=by
   rcases zAt a1 with ⟨_,_,h0⟩ | ⟨h4,hkk,_⟩ | ⟨h5,hkk,_⟩ | ⟨h7,_,h8⟩
   ·omega
   ·have:=a4 z q rfl (Or.inl h4)
    have:=(opF hv (s:=z) (Or.inr (Or.inl h4)) hkk).lo
    omega
   ·have:=a4 z q rfl (Or.inr h5)
    have:=(opF hv (s:=z) (Or.inr (Or.inr h5)) hkk).lo
    omega
   ·exact ⟨h7,h8⟩
  obtain ⟨rfl,hq⟩:=hz
  exact ⟨q,rfl,hq,a2,a5⟩
theorem zHD {ns:List OpR} (hv:zM ns 0) {least:Int} {s:SyR} {r:List SyR} {d:Nat} {x:ET × List SyR} (hl:least <= 1001) (hf:Zl ns (false,d) (s :: r)) (h:zEr ns least s r = some x) :
  Zl ns (true,d) x.2 /\ zX ns x.1 /\ least <= lvT ns x.1 /\ s :: r = ySy x.1 ++ x.2:=by
 unfold zEr at h
 rcases zB0 hf with ⟨hs,hf'⟩ | ⟨hs,hk,hf'⟩ | ⟨rfl,hf'⟩
 ·rw [if_neg (by omega),if_neg (by omega)] at h
  injection h with h
  subst h
  have hlv:lvT ns (.node s.1 0 s.2 .nil .nil) = 1001:=zAs ns _ _ (by omega)
  refine ⟨hf',⟨rfl,Or.inl ⟨hs,rfl,rfl⟩⟩,by rw [hlv]; exact hl,?_⟩
  rw [zAS hs]
  rfl
 ·rw [if_pos hs] at h
  by_cases hlt:sLv ns s < least
  ·rw [if_pos hlt] at h; cases h
  ·rw [if_neg hlt] at h
   cases hy:RD ns (sH ns s false) none r with
   | none=>rw [hy] at h; cases h
   | some y=>
    rw [hy] at h
    injection h with h
    subst h
    obtain ⟨a1,a2,a3,_,a5⟩:=Zh hv _ _ none r d y (zEO hv (Or.inl hs) hk).1 hf' (fun L e=>by cases e) hy
    obtain ⟨s1,s2⟩:=s
    simp only at hs
    subst hs
    refine ⟨a1,⟨rfl,Or.inr (Or.inr (Or.inl ⟨Or.inl rfl,hk,a2,rfl,a3⟩))⟩,by simp only [lvT]; omega,?_⟩
    rw [zAh]
    simp only [yM,List.nil_append] at a5
    rw [a5]
    rfl
 ·rw [if_neg (by decide),if_pos rfl] at h
  cases hy:RD ns 0 none r with
  | none=>rw [hy] at h; cases h
  | some y=>
   rw [hy] at h
   injection h with h
   subst h
   obtain ⟨q,e1,e2,e3,e4⟩:=zHC hv hf' hy
   have hlv:lvT ns (.node 6 0 ByteArray.empty y.1 .nil) = 1001:=zAs ns _ _ (by omega)
   rw [e1]
   refine ⟨e2,⟨rfl,Or.inr (Or.inl ⟨rfl,rfl,e3,rfl⟩)⟩,by rw [hlv]; exact hl,?_⟩
   rw [zBA,e4]
   simp
theorem zDu {ns:List OpR} {ts:List zI} {i m:Nat} {a r:List SyR} (h:sgs ns ts i m = a ++ r):r = sgs ns ts (i + m - r.length) r.length /\ r.length <= m:=by
 have hl:=congrArg List.length h
 rw [zAA,List.length_append] at hl
 have e:m = a.length + r.length:=hl
 rw [e,zEL] at h
 have h2:=List.append_inj' h (by rw [zAA])
 refine ⟨?_,by omega⟩
 have e3:i + m - r.length = i + a.length:=by omega
 rw [e3]
 exact h2.2.symm
theorem zKa {ns:List OpR} {a b:Bool} {d d':Nat} {ss:List SyR} (h:Zl ns (a,d) ss) (h':Zl ns (b,d') ss):a = b:=by
 cases ss with
 | nil=>exact (zBz h).elim
 | cons s r=>
  have key:∀ {d d':Nat},Zl ns (false,d) (s :: r) -> Zl ns (true,d') (s :: r) -> False:=by
   intro d d' h h'
   have h1:s.1 = 1 \/ s.1 = 2 \/ s.1 = 3 \/ s.1 = 6:=by
    rcases zB0 h with ⟨hs,_⟩ | ⟨hs,_⟩ | ⟨hs,_⟩
    ·omega
    ·omega
    ·rw [hs]; decide
   have h2:s.1 = 4 \/ s.1 = 5 \/ s.1 = 7 \/ s.1 = 8:=by
    rcases zAt h' with ⟨x,_⟩ | ⟨x,_⟩ | ⟨x,_⟩ | ⟨x,_⟩
    ·rw [x]; decide
    ·omega
    ·omega
    ·rw [x]; decide
   omega
  cases a <;> cases b
  ·rfl
  ·exact (key h h').elim
  ·exact (key h' h).elim
  ·rfl
end Go.Proofs.YtfboipappaonhaaGreat
namespace Go.Proofs.YtfboipappaonhaaGreat
set_option linter.unusedSimpArgs false
set_option linter.unusedVariables false
set_option maxHeartbeats 16000000
set_option maxRecDepth 100000
open Go.RowKit Go.Maps
def zEP (ns:List OpR) (w:World) (p g o n c bf bb:Nat) (res:Option (ET × List SyR)) (x:Ending) (w':World):Prop:=
 Hid (zE w w' p) /\ ((res = none /\ x = zH1) \/ ∃ T r,res = some (T,r) /\ x = .returned (exT ns T) /\ Hid (zX ns T) /\ Hid (Zb w' p g o n c (n - r.length) bf bb))
theorem zCg {ns:List OpR} {T:ET} (h:zX ns T):∃ Ty v,exT ns T = .iface Ty v:=by
 cases T with
 | nil=>exact h.elim
 | node b o t l r=>exact zK4 _ _ _ _
def OpC (w:World) (a:Nat) (q:OpR):Prop:=
 w.cell? ⟨a,0,none⟩ = some (.string q.s) /\ w.cell? ⟨a,1,none⟩ = some (.int .i64 q.k) /\ w.cell? ⟨a,2,none⟩ = some (.int .i64 q.l) /\ w.cell? ⟨a,3,none⟩ = some (.int .i64 q.sd)
theorem OpC.kept {w w':World} {a p:Nat} {q:OpR} (h:OpC w a q) (hk:zE w w' p) (hne:a ≠ p):OpC w' a q:=
 have hlt:=block_lt_of_cell h.1
 ⟨(hk.cell hlt hne 0).trans h.1,(hk.cell hlt hne 1).trans h.2.1,(hk.cell hlt hne 2).trans h.2.2.1,(hk.cell hlt hne 3).trans h.2.2.2⟩
def zHE (ns:List OpR) (w0:World) (p g o n c bf bb i:Nat) (least:Int) (ss:List SyR):Prop:=
 ∀ w,zE w0 w p -> Zb w p g o n c i bf bb -> Calls Tryz.prog 86 #[.pointer (some ⟨p,0,none⟩),.int .i64 least] w (zEP ns w p g o n c bf bb (RD ns least none ss))
theorem zJn {ns:List OpR} (hv:zM ns 0) (p g o n c bf bb i d:Nat) (ss:List SyR) (least:Int) (w:World) (hr:zHE ns w p g o n c bf bb i 0 ss) (hp:Zb w p g o n c i bf bb) (hn:n <= 100000) (hss:ss.length <= n) (hf:Zl ns (false,d + 1) ss) (res:Option (ET × List SyR)) (hres:res = (match RD ns 0 none ss with
   | none=>none
   | some x=>some (.node 6 0 ByteArray.empty x.1 .nil,x.2.tail))) :
  Calls Tryz.prog 82 #[.pointer (some ⟨p,0,none⟩),.int .i64 least] w (zEP ns w p g o n c bf bb res):=by
 have HX:=hr w (zE.refl _ _) hp
 have HF:=zB hf
 have HV:=zB hv
 have HRES:=zB hres
 clear hr hp hf hv hres
 go_enter Tryz.func82,Tryz.ntmps82
 go_wp2_with fail
 refine HX.mono ?_
 clear HX
 rintro x w1 ⟨HK,⟨h0,rfl⟩ | ⟨T,r,h1,rfl,HG,HP⟩⟩
 ·rw [h0] at HRES
  exact ⟨rfl,HK,Or.inl ⟨zA HRES,rfl⟩⟩
 ·have HR1:=zB h1
  obtain ⟨q,hq⟩:∃ q,r = (7,zA7) :: q:=by
   obtain ⟨q,e,_⟩:=zHC (zA HV) (zA HF) h1
   exact ⟨q,e⟩
  have hlen:r.length <= ss.length:=zAl ns _ _ _ _ _ h1
  have hrl:r.length = q.length + 1:=by rw [hq]; rfl
  obtain ⟨m,hm⟩:∃ m,m = n - r.length:=⟨_,rfl⟩
  rw [<- hm] at HP
  have c1:=(zA HP).2.1
  have c4:=(zA HP).2.2.2.2
  have e1:((m + 1:Nat):Int) = (m:Int) + 1:=by omega
  have HP2:=zB ((zA HP).set (m + 1))
  rw [e1] at HP2
  have HK2:=zB ((zA HK).trans (zE.setP (p:=p) (.int .i64 ((m:Int) + 1))))
  have HM:=zB (show m + 1 = n - q.length by omega)
  have HQ:=zB hq
  obtain ⟨Ty,v,he⟩:=zCg (zA HG)
  have HE:=zB (show exT ns (.node 6 0 ByteArray.empty T .nil) = zL1 (.iface Ty v) by rw [<- he]; rfl)
  rw [he]
  have hmm:m <= 100000:=by omega
  clear HP HK hq hlen h1 hrl hm he
  go_wp2_with fail
  go_ret
  refine ⟨HK2,Or.inr ⟨.node 6 0 ByteArray.empty T .nil,q,?_,by rw [zA HE]; rfl,zB ⟨rfl,Or.inr (Or.inl ⟨rfl,rfl,zA HG,rfl⟩)⟩,?_⟩⟩
  ·rw [zA HRES,zA HR1,zA HQ]; rfl
  ·rw [<- zA HM]; exact HP2
theorem zMO {ns:List OpR} (p g o n c bf bb i:Nat) (t:ByteArray) (ss:List SyR) (least:Int) (w:World) (ba bp bh:Nat) (na:ba ≠ p) (nb:bp ≠ p) (nh:bh ≠ p) (hk:knB ns (3,t) = true)
  (hr:zHE ns w p g o n c bf bb i (sH ns (3,t) false) ss) (hp:Zb w p g o n c i bf bb) (h1:OpC w ba (opA ns (rt 3 t))) (h2:w.cell? ⟨bp,0,none⟩ = some (.pointer (some ⟨p,0,none⟩))) (h3:w.cell? ⟨bh,0,none⟩ = some (.int .i64 (sH ns (3,t) false)))
  (res:Option (ET × List SyR)) (hres:res = (if sLv ns (3,t) < least then none else (match RD ns (sH ns (3,t) false) none ss with
   | none=>none
   | some x=>some (.node 3 0 t x.1 .nil,x.2)))) (hgd:∀ T r,res = some (T,r) -> zX ns T) :
  Calls Tryz.prog 132 #[.int .i64 least,.pointer (some ⟨ba,0,none⟩),.pointer (some ⟨bp,0,none⟩),.pointer (some ⟨bh,0,none⟩)] w (zEP ns w p g o n c bf bb res):=by
 have HX:=hr w.drew (zE.of_below ((Below.refl _ _).drew)) (hp.below ((Below.refl _ _).drew))
 obtain ⟨a0,a1,a2,a3⟩:=h1
 rw [zC0 (ns:=ns) (b:=3) (t:=t) (Or.inl rfl) hk] at hres
 have HRES:=zB hres
 have HGD:=zB hgd
 clear hres hgd
 have HL:=zB (zC0 (ns:=ns) (b:=3) (t:=t) (Or.inl rfl) hk)
 have HE:=zB (show ∀ T,exT ns (.node 3 0 t T .nil) = zK2 (opA ns (rt 3 t)) (exT ns T) from fun T=>rfl)
 generalize opA ns (rt 3 t) = q at a0 a1 a2 a3 HL HE HRES
 generalize sH ns (3,t) false = hl at h3 HX HRES
 clear hr hp
 by_cases hlt:q.l < least
 ·have HN:=zB hlt
  go_enter Tryz.func132,Tryz.ntmps132
  go_wp2_with fail
  exact ⟨rfl,zB (zE.refl _ _),Or.inl ⟨by rw [zA HRES,if_pos (zA HN)],rfl⟩⟩
 ·have hge:least <= q.l:=by omega
  have HN:=zB hlt
  clear hlt
  go_enter Tryz.func132,Tryz.ntmps132
  go_wp2_with fail
  go_region_held (fun w'=>(w'.cell? ⟨ba,0,none⟩ = some (.string q.s) /\ w'.cell? ⟨ba,1,none⟩ = some (.int .i64 q.k) /\ w'.cell? ⟨ba,2,none⟩ = some (.int .i64 q.l) /\ w'.cell? ⟨ba,3,none⟩ = some (.int .i64 q.sd)) /\ w'.cell? ⟨bp,0,none⟩ = some (.pointer (some ⟨p,0,none⟩)) /\ w'.cell? ⟨bh,0,none⟩ = some (.int .i64 hl)) (first | (go_keep; done) | exact ⟨(show OpC w ba q from ⟨a0,a1,a2,a3⟩).kept (zA HKC) na,((zA HKC).cell (block_lt_of_cell h2) nb 0).trans h2,((zA HKC).cell (block_lt_of_cell h3) nh 0).trans h3⟩)
   (first | (go_at_call 86; (refine HX.mono ?_; rintro x w1 ⟨HK,⟨h0,rfl⟩ | ⟨T,r,h1,rfl,HG,HP⟩⟩; (focus (have hn:res = none:=(by rw [zA HRES,h0]; simp); exact ⟨rfl,zB ((zE.of_below ((Below.refl _ _).drew)).trans (zA HK)),Or.inl ⟨hn,rfl⟩⟩)); have HKC:=zB ((zE.of_below (g:=p) ((Below.refl w.heap.size w).drew)).trans (zA HK)); have HR1:=zB h1; obtain ⟨Ty,v,he⟩:=zCg (zA HG); have HEX:=zB he; rw [he]; clear h1 he HX HK)))
  have HX2:=zB (show exT ns (.node 3 0 t T .nil) = zK2 q (.iface Ty v) by rw [zA HE,zA HEX])
  have HR2:=zB (show res = some (.node 3 0 t T .nil,r) by
   have:=zA HN
   rw [zA HRES,if_neg (by omega),zA HR1])
  clear HE HEX HRES HR1
  go_wp2_with fail
  go_ret
  exact ⟨HKC,Or.inr ⟨_,_,zA HR2,by rw [zA HX2]; rfl,zB ((zA HGD) _ _ (zA HR2)),HP⟩⟩
def zOF (ns:List OpR) (w:World) (p g o n c bf bb:Nat) (res:Option (ET × List SyR)) (x:Ending) (w':World):Prop:=
 Hid (zE w w' p) /\ ((res = none /\ x = zH1) \/ ∃ T r,res = some (T,r) /\ x = .returned (.tuple #[exT ns T,.bool true]) /\ Hid (zX ns T) /\ Hid (Zb w' p g o n c (n - r.length) bf bb))
theorem zNh {ns:List OpR} (e:Value) (t:ByteArray) (least:Int) (w:World) (ba bp bh bs:Nat) (hk:knB ns (4,t) = true) (h1:OpC w ba (opA ns (rt 4 t))) (hl:sLv ns (4,t) < least) :
  Calls Tryz.prog 133 #[e,.int .i64 least,.pointer (some ⟨ba,0,none⟩),.pointer (some ⟨bp,0,none⟩),.pointer (some ⟨bh,0,none⟩),.pointer (some ⟨bs,0,none⟩)] w fun x w'=>x = .returned (.tuple #[.nilIface,.bool false]) /\ w' = w:=by
 obtain ⟨a0,a1,a2,a3⟩:=h1
 rw [zC0 (ns:=ns) (b:=4) (t:=t) (Or.inr (Or.inl rfl)) hk] at hl
 generalize opA ns (rt 4 t) = q at a0 a1 a2 a3 hl
 go_enter Tryz.func133,Tryz.ntmps133
 go_wp2_with fail
 exact bodyPost_ret (v:=.tuple #[.nilIface,.bool false]) (by simp [results,Tryz.results133,go_sem]) rfl ⟨rfl,rfl⟩
theorem zMP {ns:List OpR} (e:Value) (t:ByteArray) (least:Int) (w:World) (ba bp bh:Nat) (hk:knB ns (5,t) = true) (h1:OpC w ba (opA ns (rt 5 t))) (hl:sLv ns (5,t) < least) :
  Calls Tryz.prog 135 #[e,.int .i64 least,.pointer (some ⟨ba,0,none⟩),.pointer (some ⟨bp,0,none⟩),.pointer (some ⟨bh,0,none⟩)] w fun x w'=>x = .returned (.tuple #[.nilIface,.bool false]) /\ w' = w:=by
 obtain ⟨a0,a1,a2,a3⟩:=h1
 rw [zC0 (ns:=ns) (b:=5) (t:=t) (Or.inr (Or.inr rfl)) hk] at hl
 generalize opA ns (rt 5 t) = q at a0 a1 a2 a3 hl
 go_enter Tryz.func135,Tryz.ntmps135
 go_wp2_with fail
 exact bodyPost_ret (v:=.tuple #[.nilIface,.bool false]) (by simp [results,Tryz.results135,go_sem]) rfl ⟨rfl,rfl⟩
theorem zK8 {ns:List OpR} (p g o n c bf bb i:Nat) (t:ByteArray) (r:List SyR) (L:ET) (least:Int) (w:World) (ba bp bh:Nat) (na:ba ≠ p) (nb:bp ≠ p) (nh:bh ≠ p) (hk:knB ns (5,t) = true) (hL:zX ns L) (hi:i + 1 + r.length = n) (hn:n <= 100000)
  (hp:Zb w p g o n c i bf bb) (h1:OpC w ba (opA ns (rt 5 t))) (h2:w.cell? ⟨bp,0,none⟩ = some (.pointer (some ⟨p,0,none⟩))) (h3:w.cell? ⟨bh,0,none⟩ = some (.int .i64 (sH ns (5,t) false))) (hl:least <= sLv ns (5,t))
  (res:Option (ET × List SyR)) (hres:res = (if lvT ns L < sH ns (5,t) false then none else some (.node 5 0 t L .nil,r))) (hgd:∀ T r,res = some (T,r) -> zX ns T) :
  Calls Tryz.prog 135 #[exT ns L,.int .i64 least,.pointer (some ⟨ba,0,none⟩),.pointer (some ⟨bp,0,none⟩),.pointer (some ⟨bh,0,none⟩)] w (zOF ns w p g o n c bf bb res):=by
 have HT:=zI1 (zIz ns L hL) p g o n c i bf bb (sH ns (5,t) false) w hp (by omega)
 have HO:=zB h1
 obtain ⟨a0,a1,a2,a3⟩:=h1
 rw [zC0 (ns:=ns) (b:=5) (t:=t) (Or.inr (Or.inr rfl)) hk] at hl
 have HRES:=zB hres
 have HGD:=zB hgd
 clear hres hgd
 have HE:=zB (show exT ns (.node 5 0 t L .nil) = zFz (opA ns (rt 5 t)) (exT ns L) from rfl)
 generalize opA ns (rt 5 t) = q at a0 a1 a2 a3 hl HE HO
 generalize sH ns (5,t) false = hh at h3 HT HRES
 obtain ⟨Ty,v,he⟩:=zCg hL
 rw [he] at HT HE ⊢
 have HI:=zB hi
 clear hp hi he
 go_enter Tryz.func135,Tryz.ntmps135
 go_wp2_with fail
 refine HT.mono ?_
 rintro x w1 ⟨HK,⟨h0,rfl⟩ | ⟨h0,rfl,HP⟩⟩
 ·exact ⟨rfl,HK,Or.inl ⟨by rw [zA HRES,if_pos h0],rfl⟩⟩
 ·have HR2:=zB (show res = some (.node 5 0 t L .nil,r) by rw [zA HRES,if_neg (by omega)])
  obtain ⟨b0,b1,b2,b3⟩:=(zA HO).kept (zA HK) na
  have HM:=zB (show i + 1 = n - r.length by have:=zA HI; omega)
  clear HT HRES h0 a0 a1 a2 a3
  go_wp2_with fail
  refine bodyPost_ret (v:=.tuple #[zFz q (.iface Ty v),.bool true]) (by simp [results,Tryz.results135,go_sem,zFz]) rfl ?_
  exact ⟨HK,Or.inr ⟨_,_,zA HR2,by rw [zA HE],zB ((zA HGD) _ _ (zA HR2)),by rw [<- zA HM]; exact HP⟩⟩
theorem zMQ {ns:List OpR} (p g o n c bf bb i:Nat) (t:ByteArray) (r:List SyR) (L:ET) (least:Int) (w:World) (ba bp bh bs:Nat) (na:ba ≠ p) (nb:bp ≠ p) (nh:bh ≠ p) (nq:bs ≠ p) (hk:knB ns (4,t) = true) (hL:zX ns L) (hi:i <= 100000)
  (hr:zHE ns w p g o n c bf bb (i + 1) (sH ns (4,t) true) r)
  (hp:Zb w p g o n c i bf bb) (h1:OpC w ba (opA ns (rt 4 t))) (h2:w.cell? ⟨bp,0,none⟩ = some (.pointer (some ⟨p,0,none⟩))) (h3:w.cell? ⟨bh,0,none⟩ = some (.int .i64 (sH ns (4,t) false))) (h4:w.cell? ⟨bs,0,none⟩ = some (.int .i64 (sH ns (4,t) true))) (hl:least <= sLv ns (4,t))
  (res:Option (ET × List SyR)) (hres:res = (if lvT ns L < sH ns (4,t) false then none else (match RD ns (sH ns (4,t) true) none r with
   | none=>none
   | some x=>some (.node 4 0 t L x.1,x.2)))) (hgd:∀ T r,res = some (T,r) -> zX ns T) :
  Calls Tryz.prog 133 #[exT ns L,.int .i64 least,.pointer (some ⟨ba,0,none⟩),.pointer (some ⟨bp,0,none⟩),.pointer (some ⟨bh,0,none⟩),.pointer (some ⟨bs,0,none⟩)] w (zOF ns w p g o n c bf bb res):=by
 have HT:=zI1 (zIz ns L hL) p g o n c i bf bb (sH ns (4,t) false) w hp (by omega)
 have HO:=zB h1
 obtain ⟨a0,a1,a2,a3⟩:=h1
 rw [zC0 (ns:=ns) (b:=4) (t:=t) (Or.inr (Or.inl rfl)) hk] at hl
 have HRES:=zB hres
 have HGD:=zB hgd
 have HRD:=zB hr
 clear hres hgd hr
 have HE:=zB (show ∀ T,exT ns (.node 4 0 t L T) = zIo (opA ns (rt 4 t)) (exT ns L) (exT ns T) from fun T=>rfl)
 generalize opA ns (rt 4 t) = q at a0 a1 a2 a3 hl HE HO
 generalize sH ns (4,t) false = hh at h3 HT HRES
 generalize sH ns (4,t) true = hs at h4 HRD HRES
 obtain ⟨Ty,v,he⟩:=zCg hL
 rw [he] at HT HE ⊢
 clear hp he
 go_enter Tryz.func133,Tryz.ntmps133
 go_wp2_with fail
 refine HT.mono ?_
 rintro x w1 ⟨HK,⟨h0,rfl⟩ | ⟨h0,rfl,HP⟩⟩
 ·exact ⟨rfl,HK,Or.inl ⟨by rw [zA HRES,if_pos h0],rfl⟩⟩
 ·have hdr:=zE.of_below (g:=p) ((Below.refl w1.heap.size w1).drew)
  have HX:=(zA HRD) w1.drew ((zA HK).trans hdr) ((zA HP).below ((Below.refl w1.heap.size w1).drew))
  have HK1:=zB ((zA HK).trans hdr)
  obtain ⟨b0,b1,b2,b3⟩:=(zA HO).kept (zA HK) na
  have d2:=((zA HK).cell (block_lt_of_cell h2) nb 0).trans h2
  have d4:=((zA HK).cell (block_lt_of_cell h4) nq 0).trans h4
  have HN:=zB (show ¬ lvT ns L < hh by omega)
  clear HT HRD h0 a0 a1 a2 a3 HP hdr h2 h3 h4 HK HO
  go_wp2_with fail
  go_region_held (fun w'=>(w'.cell? ⟨ba,0,none⟩ = some (.string q.s) /\ w'.cell? ⟨ba,1,none⟩ = some (.int .i64 q.k) /\ w'.cell? ⟨ba,2,none⟩ = some (.int .i64 q.l) /\ w'.cell? ⟨ba,3,none⟩ = some (.int .i64 q.sd)) /\ w'.cell? ⟨bp,0,none⟩ = some (.pointer (some ⟨p,0,none⟩)) /\ w'.cell? ⟨bs,0,none⟩ = some (.int .i64 hs)) (first | (go_keep; done) | exact ⟨(show OpC w1 ba q from ⟨b0,b1,b2,b3⟩).kept (zA HKD) na,((zA HKD).cell (block_lt_of_cell d2) nb 0).trans d2,((zA HKD).cell (block_lt_of_cell d4) nq 0).trans d4⟩)
   (first | (go_at_call 86; refine HX.mono ?_; rintro x w2 ⟨HK2,⟨h0,rfl⟩ | ⟨T,r2,h1,rfl,HG,HP⟩⟩; (focus (have hn:res = none:=(by rw [zA HRES,h0]; simp); exact ⟨rfl,zB ((zA HK1).trans (zA HK2)),Or.inl ⟨hn,rfl⟩⟩)); have HKC:=zB ((zA HK1).trans (zA HK2)); have HKD:=zB ((zE.of_below (g:=p) ((Below.refl w1.heap.size w1).drew)).trans (zA HK2)); have HR1:=zB h1; obtain ⟨Ty2,v2,he2⟩:=zCg (zA HG); have HEX:=zB he2; rw [he2]; clear h1 he2 HX HK2 HK1))
  have HX2:=zB (show exT ns (.node 4 0 t L T) = zIo q (.iface Ty v) (.iface Ty2 v2) by rw [zA HE,zA HEX])
  have HR2:=zB (show res = some (.node 4 0 t L T,r2) by have:=zA HN; rw [zA HRES,if_neg (by omega),zA HR1])
  clear HE HEX HRES HR1
  go_wp2_with fail
  refine bodyPost_ret (v:=.tuple #[zIo q (.iface Ty v) (.iface Ty2 v2),.bool true]) (by simp [results,Tryz.results133,go_sem,zIo]) rfl ?_
  exact ⟨HKC,Or.inr ⟨_,_,zA HR2,by rw [zA HX2],zB ((zA HGD) _ _ (zA HR2)),HP⟩⟩
end Go.Proofs.YtfboipappaonhaaGreat
