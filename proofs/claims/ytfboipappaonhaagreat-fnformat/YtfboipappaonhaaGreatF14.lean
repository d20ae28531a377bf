import Derived.Maps.OwnSet
import Derived.DeepKeys4
import Derived.Maps.Views
import Derived.Test.YtfboipappaonhaaGreatF00
import Derived.Test.YtfboipappaonhaaGreatF05
import Derived.Test.YtfboipappaonhaaGreatF10
import Derived.Test.YtfboipappaonhaaGreatF11
import Derived.Test.YtfboipappaonhaaGreatF13
namespace Go.Proofs.YtfboipappaonhaaGreat
set_option linter.unusedSimpArgs false
set_option linter.unusedVariables false
set_option maxHeartbeats 16000000
set_option maxRecDepth 100000
open Go.RowKit
def hT:ET->Nat
 | .nil=>0
 | .node _ _ _ l r=>1+max (hT l) (hT r)
theorem zKH:∀ T:ET,hT T<=tsz T
 | .nil=>Nat.le_refl _
 | .node _ _ _ l r=>by
  have:=zKH l
  have:=zKH r
  simp only [hT,tsz]
  omega
def zCJ (e:Value) (h:Nat):Prop:=∃ T v f r,e = .iface T v/\(∀ w,(method 342 T v "loop.example/s0059/impl.height").run Tryz.prog w = .ok (f,r) w)/\(∀ a w,(callFunc f a).run Tryz.prog w = .ok (.enter f a) w) /\
 ∀ w,Calls Tryz.prog f #[r] w fun x w'=>x = .returned (.int .i64 (h:Int))/\Below w.heap.size w w'
theorem zGA (t:ByteArray) (w:World):Calls Tryz.prog 186 #[.agg #[.string t]] w fun x w'=>x = .returned (.int .i64 ((1:Nat):Int))/\Below w.heap.size w w':=by
 go_enter Tryz.func186,Tryz.ntmps186
 go_wp2_with fail
 go_ret
 exact ⟨rfl,by first | exact zC _ _ | exact Below.refl _ _⟩
theorem zCn {e:Value} {h:Nat} (he:zCJ e h) (hh:h<=100000) (w:World):Calls Tryz.prog 190 #[.agg #[e]] w fun x w'=>x = .returned (.int .i64 ((1+h:Nat):Int))/\Below w.heap.size w w':=by
 obtain ⟨T,v,f,r,rfl,hme,hcf,hcall⟩:=he
 have HC:=zB hcall
 have e1:((1+h:Nat):Int)=1+(h:Int):=by omega
 clear hcall
 go_enter Tryz.func190,Tryz.ntmps190
 go_wp2_with fail
 refine ((zA HC) _).mono ?_
 rintro x w1 ⟨rfl,hb1⟩
 go_wp2_with fail
 go_ret
 rw [e1]
 exact ⟨rfl,(zC _ _).trans (hb1.mono (by simp))⟩
theorem zJA {e e':Value} {h h':Nat} (p:OpR) (he:zCJ e h) (he':zCJ e' h') (hh:h<=100000) (hh':h'<=100000) (w:World):Calls Tryz.prog 194 #[.agg #[.string p.s,.int .i64 p.k,.int .i64 p.l,.int .i64 p.sd,e,e']] w fun x w'=>x = .returned (.int .i64 ((1+max h h':Nat):Int))/\Below w.heap.size w w':=by
 obtain ⟨T,v,f,r,rfl,hme,hcf,hcall⟩:=he
 obtain ⟨T',v',f',r',rfl,hme',hcf',hcall'⟩:=he'
 have HC:=zB hcall
 have HC':=zB hcall'
 clear hcall hcall'
 go_enter Tryz.func194,Tryz.ntmps194
 go_wp2_with fail
 have HBC:=zB ((zC w (.cells #[.string p.s,.int .i64 p.k,.int .i64 p.l,.int .i64 p.sd,.iface T v,.iface T' v'] 131)).drew)
 have HSC:=zB (show Cs [(w.heap.size,4,.iface T v),(w.heap.size,5,.iface T' v')] ((w.alloc (.cells #[.string p.s,.int .i64 p.k,.int .i64 p.l,.int .i64 p.sd,.iface T v,.iface T' v'] 131)).drew) from by
  intro x hx
  simp only [List.mem_cons,List.not_mem_nil,or_false] at hx
  rcases hx with rfl | rfl
  ·simp [go_sem]
  ·simp [go_sem])
 go_region_held (fun w'=>w'.cell? ⟨w.heap.size,4,none⟩=some (.iface T v)/\w'.cell? ⟨w.heap.size,5,none⟩=some (.iface T' v')) (first | (go_keep; done) | exact ⟨(zA HSC) (w.heap.size,4,.iface T v) (by simp),(zA HSC) (w.heap.size,5,.iface T' v') (by simp)⟩)
  (first | ((with_reducible refine ((zA HC) _).mono ?_); rintro x w1 ⟨rfl,hb1⟩; replace HSC:=zB ((zA HSC).below hb1); replace HBC:=zB ((zA HBC).trans (hb1.mono (zA HBC).size)); clear hb1 HC) | ((with_reducible refine ((zA HC') _).mono ?_); rintro x w1 ⟨rfl,hb1⟩; replace HSC:=zB ((zA HSC).below hb1); replace HBC:=zB ((zA HBC).trans (hb1.mono (zA HBC).size)); clear hb1 HC'))
 have e1:IntKind.i64.wrap (1+max (h:Int) (h':Int))=((1+max h h':Nat):Int):=by
  rw [IntKind.wrap_i64]
  omega
 rw [e1]
 go_wp2_with fail
 go_ret
 exact ⟨rfl,zA HBC⟩
theorem zO3 (t:ByteArray):zCJ (zIu t) 1:=⟨_,_,186,.agg #[.string t],rfl,fun w=>by kernel_rfl,fun a w=>by kernel_rfl,zGA t⟩
theorem zNi (t:ByteArray):zCJ (zE5 t) 1:=⟨_,_,186,.agg #[.string t],rfl,fun w=>by kernel_rfl,fun a w=>by kernel_rfl,zGA t⟩
theorem zO4 {e:Value} {h:Nat} (he:zCJ e h) (hh:h<=100000):zCJ (zE6 e) (1+h):=⟨_,_,190,.agg #[e],rfl,fun w=>by kernel_rfl,fun a w=>by kernel_rfl,zCn he hh⟩
theorem zO5 (p:OpR) {e:Value} {h:Nat} (he:zCJ e h) (hh:h<=100000):zCJ (zEd p e) (1+h):=⟨_,_,190,.agg #[e],rfl,fun w=>by kernel_rfl,fun a w=>by kernel_rfl,zCn he hh⟩
theorem zNj (p:OpR) {e:Value} {h:Nat} (he:zCJ e h) (hh:h<=100000):zCJ (zBw p e) (1+h):=⟨_,_,190,.agg #[e],rfl,fun w=>by kernel_rfl,fun a w=>by kernel_rfl,zCn he hh⟩
theorem zO6 (p:OpR) {e e':Value} {h h':Nat} (he:zCJ e h) (he':zCJ e' h') (hh:h<=100000) (hh':h'<=100000):zCJ (zDt p e e') (1+max h h'):=⟨_,_,194,_,rfl,fun w=>by kernel_rfl,fun a w=>by kernel_rfl,zJA p he he' hh hh'⟩
theorem zDa {ns:List OpR} {b:Nat} {t:ByteArray} (hb:b=3\/b=4\/b=5) (hk:knB ns (b,t)=true):sLv ns (b,t)=(opA ns (rt b t)).l:=by
 unfold knB at hk
 unfold sLv Zd opA
 have hbk:3<=(rt b t).k/\(rt b t).k<=5:=by simp only [rt]; omega
 simp only [if_pos hbk]
 have e:fnd ns (rt b t).t ((rt b t).k-2)=fnd ns t ((b:Int)-2):=rfl
 rw [e]
 cases h:fnd ns t ((b:Int)-2) with
 | none=>simp only [h] at hk; cases hk
 | some j=>rfl
theorem zNk (ns:List OpR):∀ T:ET,zf ns T->hT T<=100000->zCJ (exT ns T) (hT T):=by
 intro T
 induction T with
 | nil=>intro h; exact h.elim
 | node b o t l r ihl ihr=>
  intro hg hh
  simp only [hT] at hh
  rcases hg with ⟨rfl,⟨hb,rfl,rfl⟩ | ⟨rfl,rfl,hl,rfl⟩ | ⟨hb,hk,hl,rfl,_⟩ | ⟨rfl,hk,hl,hr,_⟩⟩
  ·rcases hb with rfl | rfl
   ·exact zO3 t
   ·exact zNi t
  ·have:=zO4 (ihl hl (by omega)) (by omega)
   have e:hT (.node 6 0 ByteArray.empty l .nil)=1+hT l:=by simp [hT]
   rw [e]; exact this
  ·have e:∀ b,hT (.node b 0 t l .nil)=1+hT l:=fun b=>by simp [hT]
   rw [e]
   rcases hb with rfl | rfl
   ·exact zO5 _ (ihl hl (by omega)) (by omega)
   ·exact zNj _ (ihl hl (by omega)) (by omega)
  ·exact zO6 _ (ihl hl (by omega)) (ihr hr (by omega)) (by omega) (by omega)
theorem zKI (ns:List OpR):∀ T:ET,zf ns T->zES (exT ns T) (lvT ns T):=by
 intro T hg
 cases T with
 | nil=>exact hg.elim
 | node b o t l r=>
  rcases hg with ⟨rfl,⟨hb,rfl,rfl⟩ | ⟨rfl,rfl,hl,rfl⟩ | ⟨hb,hk,hl,rfl,_⟩ | ⟨rfl,hk,hl,hr,_⟩⟩
  ·have e:lvT ns (.node b 0 t .nil .nil)=1001:=zAW ns b t (by omega)
   rw [e]
   rcases hb with rfl | rfl
   ·exact zLo t
   ·exact zJ8 t
  ·have e:lvT ns (.node 6 0 ByteArray.empty l .nil)=1001:=zAW ns 6 _ (by omega)
   rw [e]
   exact zOs _
  ·have e:lvT ns (.node b 0 t l .nil)=(opA ns (rt b t)).l:=zDa (by omega) hk
   rw [e]
   rcases hb with rfl | rfl
   ·exact zLp _ _
   ·exact zJ9 _ _
  ·have e:lvT ns (.node 4 0 t l r)=(opA ns (rt 4 t)).l:=zDa (by omega) hk
   rw [e]
   exact zLq _ _ _
theorem zKJ {ns:List OpR} {b:Nat} {t:ByteArray} (hk:knB ns (b,t)=true):(opA ns (rt b t)).s=t:=by
 obtain ⟨j,_,hj,_,e⟩:=zE8 hk
 rw [e]
 exact (Z2 hj).2.1
theorem zNl (ns:List OpR):∀ T:ET,zf ns T->zC4 (exT ns T) (nd T):=by
 intro T
 induction T with
 | nil=>intro h; exact h.elim
 | node b o t l r ihl ihr=>
  intro hg
  rcases hg with ⟨rfl,⟨hb,rfl,rfl⟩ | ⟨rfl,rfl,hl,rfl⟩ | ⟨hb,hk,hl,rfl,_⟩ | ⟨rfl,hk,hl,hr,_⟩⟩
  ·rcases hb with rfl | rfl
   ·exact zOv t
   ·exact zNc t
  ·have e:nd (.node 6 0 ByteArray.empty l .nil)=zC5 (nd l) 6 ByteArray.empty:=by
    funext s
    simp [nd,zC5,tN,zi,zU,tsz]
   rw [e]
   exact zOw (ihl hl)
  ·have hs:=zKJ hk
   rcases hb with rfl | rfl
   ·have e:nd (.node 3 0 t l .nil)=zC5 (nd l) 3 (opA ns (rt 3 t)).s:=by
     funext s
     simp [nd,zC5,tN,zi,zU,tsz,hs]
    rw [e]
    exact zOx (ihl hl) _
   ·have e:nd (.node 5 0 t l .nil)=zC5 (nd l) 5 (opA ns (rt 5 t)).s:=by
     funext s
     simp [nd,zC5,tN,zi,zU,tsz,hs]
    rw [e]
    exact zNd (ihl hl) _
  ·have hs:=zKJ hk
   have e:nd (.node 4 0 t l r)=zKB (nd l) (nd r) (opA ns (rt 4 t)).s:=by
    funext s
    simp [nd,zKB,tN,zi,zU,tsz,hs]
   rw [e]
   exact zOy (ihl hl) (ihr hr) _
end Go.Proofs.YtfboipappaonhaaGreat
namespace Go.Proofs.YtfboipappaonhaaGreat
set_option maxHeartbeats 16000000
set_option maxRecDepth 100000
open Go.RowKit Go.Maps
theorem zNm:laidOutB Tryz.prog=true:=by kernel_rfl
theorem zQ3:(161:TypeId)<Tryz.prog.types.size:=of_decide_eq_true (by kernel_rfl)
theorem zQm:(match Tryz.prog.underlying 161 with | some (.array _ _) | some (.struct _)=>true | _=>false)=true:=by kernel_rfl
theorem zHt:Keyed Tryz.prog 161:=Keyed.of_law (deep_law_laid zNm (m:=3) (by omega) zQ3 (by kernel_rfl) zQm)
theorem zNn:Keyed Tryz.prog 3:=int_keyed Tryz.underlying3
theorem zNo:Tryz.prog.keyType 161=true:=by kernel_rfl
theorem zIN:Tryz.prog.types.size+1=(Tryz.prog.types.size-1)+1+1:=by
 have h:decide (1<=Tryz.prog.types.size)=true:=by kernel_rfl
 have:=of_decide_eq_true h
 omega
theorem zFk:Tryz.prog.cellsOf 161=2:=by kernel_rfl
theorem zJB:Tryz.prog.cellsOf 9=1:=by kernel_rfl
theorem zJC:Tryz.prog.cellsOf 3=1:=by kernel_rfl
def klO (s:ByteArray) (k:Int):Lit:=.string (keyBytes [.string s.data.toList,.int .i64 k])
theorem zQn {s:ByteArray} (hs:s.size<=maxLen) (d:Nat):Tryz.prog.keyLits (d+1) 9 [.string s]=some [.string s.data.toList]:=by
 unfold Program.keyLits
 rw [Tryz.underlying9]
 exact if_pos hs
theorem zQo {k:Int} (hk:(Lit.int .i64 k).wf=true) (d:Nat):Tryz.prog.keyLits (d+1) 3 [.int .i64 k]=some [.int .i64 k]:=by
 unfold Program.keyLits
 rw [Tryz.underlying3]
 exact if_pos ⟨rfl,hk⟩
theorem zQp {s:ByteArray} {k:Int} (hs:s.size<=maxLen) (hk:(Lit.int .i64 k).wf=true) (d:Nat) :
  Tryz.prog.keyLits (d+1+1) 161 [.string s,.int .i64 k]=some [.string s.data.toList,.int .i64 k]:=by
 conv=>lhs; unfold Program.keyLits
 rw [Tryz.underlying161]
 simp [zFk,zJB,zJC,zQn hs d,zQo hk d]
theorem zJD {s:ByteArray} {k:Int} (hs:s.size<=maxLen) (hk:(Lit.int .i64 k).wf=true):keyOf Tryz.prog 161 (.agg #[.string s,.int .i64 k])=some (klO s k):=by
 unfold keyOf
 rw [Tryz.underlying161]
 have hf:(Value.agg #[.string s,.int .i64 k]).formed Tryz.prog 161=true:=by simp [Value.formed,Tryz.underlying161,zFk]
 have hl:=zQp hs hk (Tryz.prog.types.size-1)
 rw [<- zIN] at hl
 simp only [zNo,hf,Bool.and_self,if_true]
 show (Tryz.prog.keyLits (Tryz.prog.types.size+1) 161 [.string s,.int .i64 k]).map _=_
 rw [hl]
 rfl
theorem zJE {s t:ByteArray} {k k':Int} (hs:s.size<=maxLen) (ht:t.size<=maxLen) (hk:(Lit.int .i64 k).wf=true) (hk':(Lit.int .i64 k').wf=true) (h:klO s k=klO t k'):s=t/\k=k':=by
 have a:=zJD hs hk
 have b:=zJD ht hk'
 rw [<- h] at b
 have:=zHt.inj a b
 simpa using this
theorem zO7 {l:Int} (h:(Lit.int .i64 l).wf=true):keyOf Tryz.prog 3 (.int .i64 l)=some (.int .i64 l):=keyOf_int_mk Tryz.underlying3 h
def zAa (s:ByteArray) (k l sd:Int):DataW Unit:=.agg [.lit (.string s.data.toList),.lit (.int .i64 k),.lit (.int .i64 l),.lit (.int .i64 sd)]
def Z7 (v:Value):Option (DataW Unit×List MemPlace):=
 match v with
 | .agg cs=>match cs.toList with
  | [.string s,.int .i64 k,.int .i64 l,.int .i64 sd]=>some (zAa s k l sd,[])
  | _=>none
 | _=>none
theorem zC7 (s:ByteArray) (k l sd:Int):Z7 (.agg #[.string s,.int .i64 k,.int .i64 l,.int .i64 sd])=some (zAa s k l sd,[]):=rfl
theorem zDb {v:Value} {z:DataW Unit×List MemPlace} (h:Z7 v=some z):∃ s k l sd,v = .agg #[.string s,.int .i64 k,.int .i64 l,.int .i64 sd]:=by
 unfold Z7 at h
 split at h
 ·rename_i cs
  split at h
  ·rename_i a b c d e
   obtain ⟨cs⟩:=cs
   simp only at e
   subst e
   exact ⟨_,_,_,_,rfl⟩
  ·cases h
 ·cases h
theorem zMU {s s':ByteArray} {k k' l l' sd sd':Int} (h:zAa s k l sd=zAa s' k' l' sd'):s=s'/\k=k'/\l=l'/\sd=sd':=by
 unfold zAa at h
 simp only [DataW.agg.injEq,List.cons.injEq,DataW.lit.injEq,Lit.string.injEq,Lit.int.injEq,true_and,and_true] at h
 obtain ⟨h1,h2,h3,h4⟩:=h
 refine ⟨?_,h2,h3,h4⟩
 obtain ⟨⟨a⟩⟩:=s
 obtain ⟨⟨b⟩⟩:=s'
 simp only at h1
 rw [h1]
theorem zK6 {v:Value} {s:ByteArray} {k l sd:Int} {ps:List MemPlace} (h:Z7 v=some (zAa s k l sd,ps)):v = .agg #[.string s,.int .i64 k,.int .i64 l,.int .i64 sd]:=by
 obtain ⟨s',k',l',sd',rfl⟩:=zDb h
 rw [zC7] at h
 simp only [Option.some.injEq,Prod.mk.injEq] at h
 obtain ⟨rfl,rfl,rfl,rfl⟩:=zMU h.1
 rfl
theorem zNp (w:World):(zeroValue 123).run Tryz.prog w = .ok (.agg #[.string ⟨#[]⟩,.int .i64 0,.int .i64 0,.int .i64 0]) w:=by kernel_rfl
theorem zLw (w:World):(zeroValue 3).run Tryz.prog w = .ok (.int .i64 0) w:=by kernel_rfl
end Go.Proofs.YtfboipappaonhaaGreat
namespace Go.Proofs.YtfboipappaonhaaGreat
set_option linter.unusedSimpArgs false
set_option linter.unusedVariables false
set_option maxHeartbeats 16000000
set_option maxRecDepth 100000
open Go.RowKit Go.Maps
def zGc (v:Value):Option (DataW Value×List MemPlace):=some (.held v,[])
def klS (t:ByteArray):Lit:=.string t.data.toList
theorem zO8 {s t:ByteArray} (h:klS s=klS t):s=t:=by
 unfold klS at h
 injection h with h
 cases s; cases t
 simp at h
 rw [h]
theorem zP9 {t:ByteArray} (h:t.size<=maxLen):keyOf Tryz.prog 9 (.string t)=some (klS t):=WideMaps.keyOf_string_mk Tryz.underlying9 h
def zCK (w:World) (b n:Nat) (G:ByteArray->Option Value):Prop:=
 ∃ D:DataW Value,w.ownsMap Tryz.prog 9 zGc b n D/\∀ t,t.size<=maxLen->Maps.has D (klS t)=(G t).isSome/\(∀ v,G t=some v->∀ z,D.atKey (klS t) z = .held v)/\(G t=none->∀ z,D.atKey (klS t) z=z)
theorem zCK.kept {w w':World} {b n:Nat} {G:ByteArray->Option Value} {row:Option Nat} (h:zCK w b n G) (hg:w.grownBy w' row) (hne:some b≠row):zCK w' b n G:=by
 obtain ⟨D,hD,h⟩:=h
 exact ⟨D,hD.kept hg hne,h⟩
theorem zCK.made (w:World):zCK (w.alloc (.map #[] 0)) w.heap.size 0 (fun _=>none):=
 ⟨.map [],World.ownsMap_made w Tryz.prog 9 zGc,fun t _=>⟨rfl,fun v h=>(by cases h),fun _ z=>rfl⟩⟩
theorem zCK.look {w:World} {b n:Nat} {G:ByteArray->Option Value} {ty e:TypeId} (h:zCK w b n G) (ht:Tryz.prog.underlying ty=some (.map 9 e)) {z:Value} (hz:(zeroValue e).run Tryz.prog w = .ok z w) {t:ByteArray} (hs:t.size<=maxLen) :
  (Instr.lookup ty (.map (some b)) (.string t) true).run Tryz.prog w = .ok (.tuple #[(G t).getD z,.bool (G t).isSome]) w:=by
 obtain ⟨D,hD,h⟩:=h
 obtain ⟨v,ps,hrun,hv⟩:=hD.look_ok (string_keyed Tryz.underlying9) ht hz (zd:=.held z) (zp:=[]) rfl (zP9 hs)
 rw [(h t hs).1] at hrun
 have e:v=(G t).getD z:=by
  cases hg:G t with
  | none=>
   rw [(h t hs).2.2 hg] at hv
   simp only [zGc,Option.some.injEq,Prod.mk.injEq,DataW.held.injEq] at hv
   exact hv.1
  | some u=>
   rw [(h t hs).2.1 u hg] at hv
   simp only [zGc,Option.some.injEq,Prod.mk.injEq,DataW.held.injEq] at hv
   exact hv.1
 rw [<- e]
 exact hrun
theorem zCK.put {G:ByteArray->Option Value} {D:DataW Value} (hm:IsMap D) (h:∀ t,t.size<=maxLen->Maps.has D (klS t)=(G t).isSome/\(∀ v,G t=some v->∀ z,D.atKey (klS t) z = .held v)/\(G t=none->∀ z,D.atKey (klS t) z=z)) {t:ByteArray} (hs:t.size<=maxLen) (v:Value) :
  ∀ t',t'.size<=maxLen->Maps.has (D.put (klS t) (.held v)) (klS t')=(if t'.data=t.data then some v else G t').isSome/\(∀ u,(if t'.data=t.data then some v else G t')=some u->∀ z,(D.put (klS t) (.held v)).atKey (klS t') z = .held u)/\((if t'.data=t.data then some v else G t')=none->∀ z,(D.put (klS t) (.held v)).atKey (klS t') z=z):=by
 intro t' hs'
 by_cases e:t'.data=t.data
 ·have e':t'=t:=by cases t; cases t'; simp at e; rw [e]
  subst e'
  have hk:=(string_keyed Tryz.underlying9).key (zP9 hs')
  rw [if_pos rfl,has_put_same hm hk]
  refine ⟨rfl,fun u hu z=>?_,fun hu=>by cases hu⟩
  injection hu with hu
  rw [atKey_put_same hm hk,hu]
 ·have hne:klS t'≠klS t:=fun x=>e (by rw [zO8 x])
  rw [if_neg e,has_put_other hne]
  refine ⟨(h t' hs').1,fun u hu z=>?_,fun hu z=>?_⟩
  ·rw [atKey_put_other hne]
   exact (h t' hs').2.1 u hu z
  ·rw [atKey_put_other hne]
   exact (h t' hs').2.2 hu z
theorem zCK.update {w:World} {b n:Nat} {G:ByteArray->Option Value} {ty e:TypeId} (h:zCK w b n G) (ht:Tryz.prog.underlying ty=some (.map 9 e)) (hn:n<maxLen) {t:ByteArray} (hs:t.size<=maxLen) (v:Value) :
  ∃ w',(Instr.mapUpdate ty (.map (some b)) (.string t) v).run Tryz.prog w = .ok () w'/\zCK w' b (n+1) (fun t'=>if t'.data=t.data then some v else G t')/\zE w w' b:=by
 obtain ⟨D,hD,h⟩:=h
 obtain ⟨w',hrun,h1,h2⟩:=hD.update (string_keyed Tryz.underlying9) ht hn (zP9 hs) (val:=v) (d:=.held v) (ps:=[]) rfl
 exact ⟨w',hrun,⟨_,h1,zCK.put hD.isMap h hs v⟩,⟨h2.os,h2.tape,h2.output,h2.size,fun i hi hne=>h2.block i hi (fun x=>hne (by injection x))⟩⟩
def Zi (w:World) (p:Nat) (g o n c:Nat) (i:Nat) (bf bb:Nat):Prop:=
 w.cell? ⟨p,0,none⟩=some (.slice (some ⟨g,o,none⟩) n c)/\w.cell? ⟨p,1,none⟩=some (.int .i64 (i:Int))/\w.cell? ⟨p,2,none⟩=some (.map (some bf))/\w.cell? ⟨p,3,none⟩=some (.map (some bb))/\w.frozen? ⟨p,1,none⟩=false
theorem Zi.below {w w':World} {p g o n c i bf bb:Nat} (h:Zi w p g o n c i bf bb) (hb:Below w.heap.size w w'):Zi w' p g o n c i bf bb:=
 have hlt:=block_lt_of_cell h.1
 ⟨(hb.cell (p:=⟨p,0,none⟩) hlt).trans h.1,(hb.cell (p:=⟨p,1,none⟩) hlt).trans h.2.1,(hb.cell (p:=⟨p,2,none⟩) hlt).trans h.2.2.1,(hb.cell (p:=⟨p,3,none⟩) hlt).trans h.2.2.2.1,(hb.frozen (p:=⟨p,1,none⟩) hlt).trans h.2.2.2.2⟩
theorem Zi.set {w:World} {p g o n c i bf bb:Nat} (h:Zi w p g o n c i bf bb) (j:Nat):Zi (w.setCell ⟨p,1,none⟩ (.int .i64 (j:Int))) p g o n c j bf bb:=
 ⟨(World.cell?_setCell_other _ _ _ _ (by simp)).trans h.1,World.cell?_setCell_same _ _ _ h.2.1,(World.cell?_setCell_other _ _ _ _ (by simp)).trans h.2.2.1,(World.cell?_setCell_other _ _ _ _ (by simp)).trans h.2.2.2.1,(World.frozen?_setCell _ _ _ _).trans h.2.2.2.2⟩
theorem zE.setP {w:World} {p:Nat} (v:Value):zE w (w.setCell ⟨p,1,none⟩ v) p:=⟨rfl,rfl,rfl,by simp [World.setCell],fun _ _ hi=>Below.heap_setCell _ _ _ _ hi⟩
def zJF:Ending:=.panicked [{ v:=.iface 146 (.agg #[.int .i64 5,.int .i64 0]),recovered:=false }]
def zNq (w:World) (l hole:Int) (p g o n c i bf bb:Nat) (x:Ending) (w':World):Prop:=
 Hid (zE w w' p)/\((l<hole/\x=zJF)\/(hole<=l/\x = .returned (.tuple #[])/\Hid (Zi w' p g o n c (i+1) bf bb)))
theorem zKK {e:Value} {l:Int} (h:zES e l) (p g o n c i bf bb:Nat) (hole:Int) (w:World) (hp:Zi w p g o n c i bf bb) (hi:i<=100000) :
  Calls Tryz.prog 134 #[.pointer (some ⟨p,0,none⟩),e,.int .i64 hole] w (zNq w l hole p g o n c i bf bb):=by
 obtain ⟨T,v,f,r,rfl,hme,hcf,hcall⟩:=h
 have HC:=zB hcall
 have HP:=zB hp
 clear hcall hp
 go_enter Tryz.func134,Tryz.ntmps134
 go_wp2_with fail
 refine ((zA HC) _).mono ?_
 rintro x w1 ⟨rfl,hb1⟩
 replace HP:=zB ((zA HP).below hb1)
 have HK:=zB (zE.of_below (g:=p) hb1)
 clear hb1
 by_cases hl:l<hole
 ·have HL:=zB hl
  go_wp2_with fail
  exact ⟨rfl,HK,Or.inl ⟨zA HL,rfl⟩⟩
 ·have hl':hole<=l:=by omega
  have HL:=zB hl'
  have c1:=(zA HP).2.1
  have c4:=(zA HP).2.2.2.2
  have e1:((i+1:Nat):Int)=(i:Int)+1:=by omega
  have HP2:=zB ((zA HP).set (i+1))
  rw [e1] at HP2
  have HK2:=zB ((zA HK).trans (zE.setP (p:=p) (.int .i64 ((i:Int)+1))))
  clear HP HK
  go_wp2_with fail
  go_end0
  exact ⟨HK2,Or.inr ⟨zA HL,rfl,HP2⟩⟩
end Go.Proofs.YtfboipappaonhaaGreat
namespace Go.Proofs.YtfboipappaonhaaGreat
set_option linter.unusedSimpArgs false
set_option linter.unusedVariables false
set_option maxHeartbeats 16000000
set_option maxRecDepth 100000
open Go.RowKit
def zFl (ns:List OpR) (least:Int) (s:SyR) (r:List SyR):Option (ET×List SyR):=
 if s.1=3 then (if sLv ns s<least then none else (match RD ns (sH ns s false) none r with
  | none=>none
  | some x=>some (.node 3 0 s.2 x.1 .nil,x.2)))
 else if s.1=6 then (match RD ns 0 none r with
  | none=>none
  | some x=>some (.node 6 0 ByteArray.empty x.1 .nil,x.2.tail))
 else some (.node s.1 0 s.2 .nil .nil,r)
theorem zQA (ns:List OpR) (least:Int) (s:SyR) (r:List SyR):RD ns least none (s::r)=(match zFl ns least s r with
  | none=>none
  | some x=>RD ns least (some x.1) x.2):=by
 rw [zGZ]
 unfold zFl
 by_cases h3:s.1=3
 ·rw [if_pos h3,if_pos h3]
  by_cases hl:sLv ns s<least
  ·rw [if_pos hl,if_pos hl]
  ·rw [if_neg hl,if_neg hl]
   cases RD ns (sH ns s false) none r with
   | none=>rfl
   | some x=>rfl
 ·rw [if_neg h3,if_neg h3]
  by_cases h6:s.1=6
  ·rw [if_pos h6,if_pos h6]
   cases RD ns 0 none r with
   | none=>rfl
   | some x=>rfl
  ·rw [if_neg h6,if_neg h6]
theorem zFF {ns:List OpR} (hv:zM ns 0) {s:SyR} (hs:s.1=3\/s.1=4\/s.1=5) (hk:knB ns s=true):sH ns s false<=1001/\(s.1=4->sH ns s true<=1001):=by
 have f:=opF hv hs hk
 have fh:=f.hi
 rcases hs with h | h | h
 ·have:=(f.pre h).1
  exact ⟨by omega,fun x=>by omega⟩
 ·rcases f.mid h with ⟨_,a,c⟩ | ⟨_,a,c⟩ | ⟨_,a,c⟩ <;> exact ⟨by omega,fun _=>by omega⟩
 ·have:=(f.post h).1
  exact ⟨by omega,fun x=>by omega⟩
theorem zIO {ns:List OpR} (hv:zM ns 0) {r:List SyR} {d:Nat} {y:ET×List SyR} (hf:Zt ns (false,d+1) r) (hy:RD ns 0 none r=some y) :
  ∃ q,y.2=(7,zA1)::q/\Zt ns (true,d) q/\zf ns y.1/\r=ySy y.1++(7,zA1)::q:=by
 obtain ⟨a1,a2,a3,a4,a5⟩:=Ze hv _ 0 none r (d+1) y (by omega) hf (fun L e=>by cases e) hy
 obtain ⟨T,q⟩:=y
 simp only [yM,List.nil_append] at a1 a2 a3 a4 a5
 cases q with
 | nil=>exact (zCD a1).elim
 | cons z q=>
  have hz:z=(7,zA1)/\Zt ns (true,d) q:=by
   rcases zBA a1 with ⟨_,_,h0⟩ | ⟨h4,hkk,_⟩ | ⟨h5,hkk,_⟩ | ⟨h7,_,h8⟩
   ·omega
   ·have:=a4 z q rfl (Or.inl h4)
    have:=(opF hv (s:=z) (Or.inr (Or.inl h4)) hkk).lo
    omega
   ·have:=a4 z q rfl (Or.inr h5)
    have:=(opF hv (s:=z) (Or.inr (Or.inr h5)) hkk).lo
    omega
   ·exact ⟨h7,h8⟩
  obtain ⟨rfl,hq⟩:=hz
  exact ⟨q,rfl,hq,a2,a5⟩
theorem zIP {ns:List OpR} (hv:zM ns 0) {least:Int} {s:SyR} {r:List SyR} {d:Nat} {x:ET×List SyR} (hl:least<=1001) (hf:Zt ns (false,d) (s::r)) (h:zFl ns least s r=some x) :
  Zt ns (true,d) x.2/\zf ns x.1/\least<=lvT ns x.1/\s::r=ySy x.1++x.2:=by
 unfold zFl at h
 rcases zCE hf with ⟨hs,hf'⟩ | ⟨hs,hk,hf'⟩ | ⟨rfl,hf'⟩
 ·rw [if_neg (by omega),if_neg (by omega)] at h
  injection h with h
  subst h
  have hlv:lvT ns (.node s.1 0 s.2 .nil .nil)=1001:=zAW ns _ _ (by omega)
  refine ⟨hf',⟨rfl,Or.inl ⟨hs,rfl,rfl⟩⟩,by rw [hlv]; exact hl,?_⟩
  rw [zAV hs]
  rfl
 ·rw [if_pos hs] at h
  by_cases hlt:sLv ns s<least
  ·rw [if_pos hlt] at h; cases h
  ·rw [if_neg hlt] at h
   cases hy:RD ns (sH ns s false) none r with
   | none=>rw [hy] at h; cases h
   | some y=>
    rw [hy] at h
    injection h with h
    subst h
    obtain ⟨a1,a2,a3,_,a5⟩:=Ze hv _ _ none r d y (zFF hv (Or.inl hs) hk).1 hf' (fun L e=>by cases e) hy
    obtain ⟨s1,s2⟩:=s
    simp only at hs
    subst hs
    refine ⟨a1,⟨rfl,Or.inr (Or.inr (Or.inl ⟨Or.inl rfl,hk,a2,rfl,a3⟩))⟩,by simp only [lvT]; omega,?_⟩
    rw [zAZ]
    simp only [yM,List.nil_append] at a5
    rw [a5]
    rfl
 ·rw [if_neg (by decide),if_pos rfl] at h
  cases hy:RD ns 0 none r with
  | none=>rw [hy] at h; cases h
  | some y=>
   rw [hy] at h
   injection h with h
   subst h
   obtain ⟨q,e1,e2,e3,e4⟩:=zIO hv hf' hy
   have hlv:lvT ns (.node 6 0 ByteArray.empty y.1 .nil)=1001:=zAW ns _ _ (by omega)
   rw [e1]
   refine ⟨e2,⟨rfl,Or.inr (Or.inl ⟨rfl,rfl,e3,rfl⟩)⟩,by rw [hlv]; exact hl,?_⟩
   rw [zAy,e4]
   simp
theorem zEh {ns:List OpR} {ts:List zK} {i m:Nat} {a r:List SyR} (h:sgs ns ts i m=a++r):r=sgs ns ts (i+m-r.length) r.length/\r.length<=m:=by
 have hl:=congrArg List.length h
 rw [zAD,List.length_append] at hl
 have e:m=a.length+r.length:=hl
 rw [e,zFD] at h
 have h2:=List.append_inj' h (by rw [zAD])
 refine ⟨?_,by omega⟩
 have e3:i+m-r.length=i+a.length:=by omega
 rw [e3]
 exact h2.2.symm
theorem zLx {ns:List OpR} {a b:Bool} {d d':Nat} {ss:List SyR} (h:Zt ns (a,d) ss) (h':Zt ns (b,d') ss):a=b:=by
 cases ss with
 | nil=>exact (zCD h).elim
 | cons s r=>
  have key:∀ {d d':Nat},Zt ns (false,d) (s::r)->Zt ns (true,d') (s::r)->False:=by
   intro d d' h h'
   have h1:s.1=1\/s.1=2\/s.1=3\/s.1=6:=by
    rcases zCE h with ⟨hs,_⟩ | ⟨hs,_⟩ | ⟨hs,_⟩
    ·omega
    ·omega
    ·rw [hs]; decide
   have h2:s.1=4\/s.1=5\/s.1=7\/s.1=8:=by
    rcases zBA h' with ⟨x,_⟩ | ⟨x,_⟩ | ⟨x,_⟩ | ⟨x,_⟩
    ·rw [x]; decide
    ·omega
    ·omega
    ·rw [x]; decide
   omega
  cases a <;> cases b
  ·rfl
  ·exact (key h h').elim
  ·exact (key h' h).elim
  ·rfl
end Go.Proofs.YtfboipappaonhaaGreat
namespace Go.Proofs.YtfboipappaonhaaGreat
set_option linter.unusedSimpArgs false
set_option linter.unusedVariables false
set_option maxHeartbeats 16000000
set_option maxRecDepth 100000
open Go.RowKit Go.Maps
def zFG (ns:List OpR) (w:World) (p g o n c bf bb:Nat) (res:Option (ET×List SyR)) (x:Ending) (w':World):Prop:=
 Hid (zE w w' p)/\((res=none/\x=zJF)\/∃ T r,res=some (T,r)/\x = .returned (exT ns T)/\Hid (zf ns T)/\Hid (Zi w' p g o n c (n-r.length) bf bb))
theorem zC8 {ns:List OpR} {T:ET} (h:zf ns T):∃ Ty v,exT ns T = .iface Ty v:=by
 cases T with
 | nil=>exact h.elim
 | node b o t l r=>exact zC3 _ _ _ _
def OpC (w:World) (a:Nat) (q:OpR):Prop:=
 w.cell? ⟨a,0,none⟩=some (.string q.s)/\w.cell? ⟨a,1,none⟩=some (.int .i64 q.k)/\w.cell? ⟨a,2,none⟩=some (.int .i64 q.l)/\w.cell? ⟨a,3,none⟩=some (.int .i64 q.sd)
theorem OpC.kept {w w':World} {a p:Nat} {q:OpR} (h:OpC w a q) (hk:zE w w' p) (hne:a≠p):OpC w' a q:=
 have hlt:=block_lt_of_cell h.1
 ⟨(hk.cell hlt hne 0).trans h.1,(hk.cell hlt hne 1).trans h.2.1,(hk.cell hlt hne 2).trans h.2.2.1,(hk.cell hlt hne 3).trans h.2.2.2⟩
def zIQ (ns:List OpR) (w0:World) (p g o n c bf bb i:Nat) (least:Int) (ss:List SyR):Prop:=
 ∀ w,zE w0 w p->Zi w p g o n c i bf bb->Calls Tryz.prog 86 #[.pointer (some ⟨p,0,none⟩),.int .i64 least] w (zFG ns w p g o n c bf bb (RD ns least none ss))
theorem zK7 {ns:List OpR} (hv:zM ns 0) (p g o n c bf bb i d:Nat) (ss:List SyR) (least:Int) (w:World) (hr:zIQ ns w p g o n c bf bb i 0 ss) (hp:Zi w p g o n c i bf bb) (hn:n<=100000) (hss:ss.length<=n) (hf:Zt ns (false,d+1) ss) (res:Option (ET×List SyR)) (hres:res=(match RD ns 0 none ss with
   | none=>none
   | some x=>some (.node 6 0 ByteArray.empty x.1 .nil,x.2.tail))) :
  Calls Tryz.prog 82 #[.pointer (some ⟨p,0,none⟩),.int .i64 least] w (zFG ns w p g o n c bf bb res):=by
 have HX:=hr w (zE.refl _ _) hp
 have HF:=zB hf
 have HV:=zB hv
 have HRES:=zB hres
 clear hr hp hf hv hres
 go_enter Tryz.func82,Tryz.ntmps82
 go_wp2_with fail
 refine HX.mono ?_
 clear HX
 rintro x w1 ⟨HK,⟨h0,rfl⟩ | ⟨T,r,h1,rfl,HG,HP⟩⟩
 ·rw [h0] at HRES
  exact ⟨rfl,HK,Or.inl ⟨zA HRES,rfl⟩⟩
 ·have HR1:=zB h1
  obtain ⟨q,hq⟩:∃ q,r=(7,zA1)::q:=by
   obtain ⟨q,e,_⟩:=zIO (zA HV) (zA HF) h1
   exact ⟨q,e⟩
  have hlen:r.length<=ss.length:=zA2 ns _ _ _ _ _ h1
  have hrl:r.length=q.length+1:=by rw [hq]; rfl
  obtain ⟨m,hm⟩:∃ m,m=n-r.length:=⟨_,rfl⟩
  rw [<- hm] at HP
  have c1:=(zA HP).2.1
  have c4:=(zA HP).2.2.2.2
  have e1:((m+1:Nat):Int)=(m:Int)+1:=by omega
  have HP2:=zB ((zA HP).set (m+1))
  rw [e1] at HP2
  have HK2:=zB ((zA HK).trans (zE.setP (p:=p) (.int .i64 ((m:Int)+1))))
  have HM:=zB (show m+1=n-q.length by omega)
  have HQ:=zB hq
  obtain ⟨Ty,v,he⟩:=zC8 (zA HG)
  have HE:=zB (show exT ns (.node 6 0 ByteArray.empty T .nil)=zE6 (.iface Ty v) by rw [<- he]; rfl)
  rw [he]
  have hmm:m<=100000:=by omega
  clear HP HK hq hlen h1 hrl hm he
  go_wp2_with fail
  go_ret
  refine ⟨HK2,Or.inr ⟨.node 6 0 ByteArray.empty T .nil,q,?_,by rw [zA HE]; rfl,zB ⟨rfl,Or.inr (Or.inl ⟨rfl,rfl,zA HG,rfl⟩)⟩,?_⟩⟩
  ·rw [zA HRES,zA HR1,zA HQ]; rfl
  ·rw [<- zA HM]; exact HP2
theorem zNr {ns:List OpR} (p g o n c bf bb i:Nat) (t:ByteArray) (ss:List SyR) (least:Int) (w:World) (ba bp bh:Nat) (na:ba≠p) (nb:bp≠p) (nh:bh≠p) (hk:knB ns (3,t)=true)
  (hr:zIQ ns w p g o n c bf bb i (sH ns (3,t) false) ss) (hp:Zi w p g o n c i bf bb) (h1:OpC w ba (opA ns (rt 3 t))) (h2:w.cell? ⟨bp,0,none⟩=some (.pointer (some ⟨p,0,none⟩))) (h3:w.cell? ⟨bh,0,none⟩=some (.int .i64 (sH ns (3,t) false)))
  (res:Option (ET×List SyR)) (hres:res=(if sLv ns (3,t)<least then none else (match RD ns (sH ns (3,t) false) none ss with
   | none=>none
   | some x=>some (.node 3 0 t x.1 .nil,x.2)))) (hgd:∀ T r,res=some (T,r)->zf ns T) :
  Calls Tryz.prog 132 #[.int .i64 least,.pointer (some ⟨ba,0,none⟩),.pointer (some ⟨bp,0,none⟩),.pointer (some ⟨bh,0,none⟩)] w (zFG ns w p g o n c bf bb res):=by
 have HX:=hr w.drew (zE.of_below ((Below.refl _ _).drew)) (hp.below ((Below.refl _ _).drew))
 obtain ⟨a0,a1,a2,a3⟩:=h1
 rw [zDa (ns:=ns) (b:=3) (t:=t) (Or.inl rfl) hk] at hres
 have HRES:=zB hres
 have HGD:=zB hgd
 clear hres hgd
 have HL:=zB (zDa (ns:=ns) (b:=3) (t:=t) (Or.inl rfl) hk)
 have HE:=zB (show ∀ T,exT ns (.node 3 0 t T .nil)=zEd (opA ns (rt 3 t)) (exT ns T) from fun T=>rfl)
 generalize opA ns (rt 3 t)=q at a0 a1 a2 a3 HL HE HRES
 generalize sH ns (3,t) false=hl at h3 HX HRES
 clear hr hp
 by_cases hlt:q.l<least
 ·have HN:=zB hlt
  go_enter Tryz.func132,Tryz.ntmps132
  go_wp2_with fail
  exact ⟨rfl,zB (zE.refl _ _),Or.inl ⟨by rw [zA HRES,if_pos (zA HN)],rfl⟩⟩
 ·have hge:least<=q.l:=by omega
  have HN:=zB hlt
  clear hlt
  go_enter Tryz.func132,Tryz.ntmps132
  go_wp2_with fail
  go_region_held (fun w'=>(w'.cell? ⟨ba,0,none⟩=some (.string q.s)/\w'.cell? ⟨ba,1,none⟩=some (.int .i64 q.k)/\w'.cell? ⟨ba,2,none⟩=some (.int .i64 q.l)/\w'.cell? ⟨ba,3,none⟩=some (.int .i64 q.sd))/\w'.cell? ⟨bp,0,none⟩=some (.pointer (some ⟨p,0,none⟩))/\w'.cell? ⟨bh,0,none⟩=some (.int .i64 hl)) (first | (go_keep; done) | exact ⟨(show OpC w ba q from ⟨a0,a1,a2,a3⟩).kept (zA HKC) na,((zA HKC).cell (block_lt_of_cell h2) nb 0).trans h2,((zA HKC).cell (block_lt_of_cell h3) nh 0).trans h3⟩)
   (first | (go_at_call 86; (refine HX.mono ?_; rintro x w1 ⟨HK,⟨h0,rfl⟩ | ⟨T,r,h1,rfl,HG,HP⟩⟩; (focus (have hn:res=none:=(by rw [zA HRES,h0]; simp); exact ⟨rfl,zB ((zE.of_below ((Below.refl _ _).drew)).trans (zA HK)),Or.inl ⟨hn,rfl⟩⟩)); have HKC:=zB ((zE.of_below (g:=p) ((Below.refl w.heap.size w).drew)).trans (zA HK)); have HR1:=zB h1; obtain ⟨Ty,v,he⟩:=zC8 (zA HG); have HEX:=zB he; rw [he]; clear h1 he HX HK)))
  have HX2:=zB (show exT ns (.node 3 0 t T .nil)=zEd q (.iface Ty v) by rw [zA HE,zA HEX])
  have HR2:=zB (show res=some (.node 3 0 t T .nil,r) by
   have:=zA HN
   rw [zA HRES,if_neg (by omega),zA HR1])
  clear HE HEX HRES HR1
  go_wp2_with fail
  go_ret
  exact ⟨HKC,Or.inr ⟨_,_,zA HR2,by rw [zA HX2]; rfl,zB ((zA HGD) _ _ (zA HR2)),HP⟩⟩
end Go.Proofs.YtfboipappaonhaaGreat
