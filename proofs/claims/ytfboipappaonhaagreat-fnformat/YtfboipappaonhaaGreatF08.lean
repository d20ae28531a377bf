import Derived.Maps.AppendAt
import Derived.Deep.MidRow
import Derived.Deep.RegionHeld3
import Derived.Test.YtfboipappaonhaaGreatF00
import Derived.Test.YtfboipappaonhaaGreatF01
import Derived.Test.YtfboipappaonhaaGreatF04
import Derived.Test.YtfboipappaonhaaGreatF05
import Derived.Test.YtfboipappaonhaaGreatF07
namespace Go.Proofs.YtfboipappaonhaaGreat
set_option linter.unusedSimpArgs false
set_option linter.unusedVariables false
set_option maxHeartbeats 16000000
set_option maxRecDepth 100000
open Go.RowKit
def zIs (w:World) (B:Nat) (v:Value) (l:List UInt8):Prop:=
 ∃ g cap,v = .slice (some ⟨g,0,none⟩) l.length cap/\B<=g/\g<w.heap.size/\l.length<=cap/\cap<=maxLen/\(∀ j,j<cap->(w.cell? ⟨g,j,none⟩).isSome=true/\w.frozen? ⟨g,j,none⟩=false)/\∀ j u,(cellsB l)[j]?=some u->w.cell? ⟨g,j,none⟩=some u
theorem zIs.below {w w':World} {B:Nat} {v:Value} {l:List UInt8} (h:zIs w B v l) (hb:Below w.heap.size w w'):zIs w' B v l:=by
 obtain ⟨g,cap,rfl,h1,h2,h3,h4,h5,h6⟩:=h
 refine ⟨g,cap,rfl,h1,Nat.lt_of_lt_of_le h2 hb.size,h3,h4,fun j hj=>?_,fun j u hj=>(hb.cell (p:=⟨g,j,none⟩) h2).trans (h6 j u hj)⟩
 have c:=hb.cell (p:=⟨g,j,none⟩) h2
 have f:=hb.frozen (p:=⟨g,j,none⟩) h2
 exact ⟨by rw [c]; exact (h5 j hj).1,by rw [f]; exact (h5 j hj).2⟩
theorem zNM (W:World) (s:ByteArray) (hs:s.size<=100000000):∃ (v:Value) (W':World),(convert 9 22 (.string s)).run Tryz.prog W = .ok v W'/\zIs W' W.heap.size v s.data.toList/\Below W.heap.size W W':=by
 have hr:=run_bytes_of_string (P:=Tryz.prog) W 9 22 5 s Tryz.underlying9 Tryz.underlying22 Tryz.underlying5
 have hsl:s.data.toList.length=s.size:=by simp
 have hge:=grownCap_ge W s.size 0 5
 have hnew:=heap_alloc_new W.drew (.cells (bytesRow s (grownCap W s.size 0 5)) 5 ((bytesRow s (grownCap W s.size 0 5)).size,(bytesRow s (grownCap W s.size 0 5)).size+1))
 have hsz:(bytesRow s (grownCap W s.size 0 5)).size=grownCap W s.size 0 5:=by
  unfold bytesRow
  simp
  have:s.data.size=s.size:=rfl
  omega
 refine ⟨_,_,hr,⟨W.heap.size,grownCap W s.size 0 5,by rw [hsl],Nat.le_refl _,by simp,by rw [hsl]; exact hge,grownCap_le_maxLen W s.size 0 5 (by unfold maxLen; omega),fun j hj=>⟨?_,?_⟩,fun j u hj=>?_⟩,(Below.refl _ _).drew.alloc (Nat.le_refl _) _⟩
 ·rw [cell_of_row _ W.heap.size j _ 5 _ hnew]
  simp [hsz,hj]
 ·have hn:(W.drew.alloc (.cells (bytesRow s (grownCap W s.size 0 5)) 5 ((bytesRow s (grownCap W s.size 0 5)).size,(bytesRow s (grownCap W s.size 0 5)).size+1))).heap[W.heap.size]?=_:=hnew
  unfold World.frozen?
  simp only [hn]
  rw [hsz]
  simp
  omega
 ·rw [cell_of_row _ W.heap.size j _ 5 _ hnew]
  have hlt:j<s.data.size:=by
   have:=(List.getElem?_eq_some_iff.1 hj).1
   rw [ZI] at this
   simpa using this
  rw [bytesRow_at s _ j hlt]
  simp [cellsB] at hj
  obtain ⟨x,hx,rfl⟩:=hj
  rw [Array.getElem?_eq_getElem hlt] at hx
  injection hx with hx
  subst hx
  rfl
theorem zNN (w:World) (ty:TypeId) (B:Nat) (v:Value) (l:List UInt8) (b:UInt8) (h:zIs w B v l) (hB:B<=w.heap.size) (ad:Addr) (hx:w.cell? (ad.add 0)=some (.int .u8 (b.toNat:Int))) (hl:l.length<=1000000) :
  ∃ v' w',(Builtin.append_ #[22,22] ty #[v,.slice (some ad) 1 1]).run Tryz.prog w = .ok v' w'/\zIs w' B v' (l++[b])/\Below B w w':=by
 obtain ⟨g,cap,rfl,h1,h2,h3,h4,h5,h6⟩:=h
 obtain ⟨i,hi,hz⟩:=Option.map_eq_some_iff.1 infoByte
 simp only [Prod.mk.injEq] at hz
 obtain ⟨hz0,hz1,hz2⟩:=hz
 have hnews:∀ j u,([.int .u8 (b.toNat:Int)]:List Value)[j]?=some u->w.cell? (ad.add j)=some u:=fun j u hj=>by
  match j,hj with
  | 0,hj=>simp at hj; subst hj; exact hx
 have hbl:(l++[b]).length=l.length+1:=by simp
 by_cases hroom:l.length+1<=cap
 ·have hf:=run_firstCells_some (P:=Tryz.prog) w i.size 1 ad 1 1 [.int .u8 (b.toNat:Int)] (by rw [hz1]; rfl) hnews
  obtain ⟨c1,c2⟩:=h5 l.length (by omega)
  obtain ⟨u0,hu0⟩:=Option.isSome_iff_exists.1 c1
  have hadd:(⟨g,l.length,none⟩:Addr).add 0=⟨g,l.length,none⟩:=by unfold Addr.add; split <;> simp_all
  have hst:(storeCells ⟨g,l.length,none⟩ [.int .u8 (b.toNat:Int)] 0).run Tryz.prog w = .ok () (w.setCell ⟨g,l.length,none⟩ (.int .u8 (b.toNat:Int))):=by
   simp only [storeCells,Sem.run_bind]
   rw [hadd,run_store Tryz.prog w _ _ _ rfl,hu0]
   simp [c2]
  refine ⟨.slice (some ⟨g,0,none⟩) (l.length+1) cap,w.setCell ⟨g,l.length,none⟩ (.int .u8 (b.toNat:Int)),?_,?_,(Below.refl _ _).setCell (by simpa using h1) _⟩
  ·rw [hz1] at hf
   simp [Builtin.append_,run_underlying Tryz.underlying22,sizeOf,typeInfo,hi,hz1,Builtin.lenOf,hroom,hf,Addr.add_lit,hst]
  ·refine ⟨g,cap,by rw [hbl],h1,by simpa [World.setCell] using h2,by rw [hbl]; exact hroom,h4,fun j hj=>?_,fun j u hj=>?_⟩
   ·refine ⟨?_,(World.frozen?_setCell _ _ _ _).trans (h5 j hj).2⟩
    by_cases e:j=l.length
    ·subst e; rw [World.cell?_setCell_same _ _ _ hu0]; rfl
    ·rw [World.cell?_setCell_other _ _ _ _ (fun x=>e (by injection x with _ x; exact x.symm))]; exact (h5 j hj).1
   ·rw [ZX] at hj
    by_cases e:j=l.length
    ·subst e
     rw [World.cell?_setCell_same _ _ _ hu0]
     rw [List.getElem?_append_right (by rw [ZI]; exact Nat.le_refl _),ZI,Nat.sub_self] at hj
     simpa [cellsB] using hj
    ·rw [World.cell?_setCell_other _ _ _ _ (fun x=>e (by injection x with _ x; exact x.symm))]
     apply h6
     have hjl:j<l.length+1:=by
      have:=(List.getElem?_eq_some_iff.1 hj).1
      simpa [ZI] using this
     rw [List.getElem?_append_left (by rw [ZI]; omega)] at hj
     exact hj
 ·have holds:∀ j u,(cellsB l)[j]?=some u->w.cell? ((⟨g,0,none⟩:Addr).add j)=some u:=fun j u hj=>by
   rw [Addr.add_mid,Nat.zero_add]; exact h6 j u hj
  have hr:=run_append_grow (P:=Tryz.prog) w 22 ty 5 i _ Tryz.underlying22 hi hz0 ⟨g,0,none⟩ l.length cap (cellsB l) (by rw [ZI,hz1,Nat.mul_one]) holds ad 1 1 [.int .u8 (b.toNat:Int)] (by rw [hz1]; rfl) hnews (by omega) (by omega) (growslice_fits (by omega) (by rw [hz2]; omega))
  have hge:=grownCap_ge w (l.length+1) cap 5
  have hnew:=heap_alloc_new w.drew (.cells ((cellsB l).toArray++[Value.int .u8 (b.toNat:Int)].toArray++Builtin.zeroCells (Value.int .u8 0).cells (grownCap w (l.length+1) cap 5-(l.length+1))) 5)
  refine ⟨_,_,hr,⟨w.heap.size,grownCap w (l.length+1) cap 5,by rw [hbl],hB,by simp,by rw [hbl]; exact hge,grownCap_le_maxLen w (l.length+1) cap 5 (by unfold maxLen; omega),fun j hj=>⟨?_,frozen_of_row _ _ _ _ _ hnew⟩,fun j u hj=>?_⟩,((Below.refl _ _).drew.alloc (Nat.le_refl _) _).mono hB⟩
  ·rw [cell_of_row _ w.heap.size j _ 5 _ hnew]
   have:j<((cellsB l).toArray++[Value.int .u8 (b.toNat:Int)].toArray++Builtin.zeroCells (Value.int .u8 0).cells (grownCap w (l.length+1) cap 5-(l.length+1))).size:=by
    simp [size_zeroCells,ZI,Value.cells]
    omega
   rw [Array.getElem?_eq_getElem this]
   rfl
  ·rw [cell_of_row _ w.heap.size j _ 5 _ hnew]
   rw [ZX] at hj
   have hjl:j<l.length+1:=by
    have:=(List.getElem?_eq_some_iff.1 hj).1
    simpa [ZI] using this
   rw [Array.getElem?_append_left (by simp [ZI]; omega)]
   have e:(cellsB l).toArray++[Value.int .u8 (b.toNat:Int)].toArray=(cellsB l++cellsB [b]).toArray:=by simp [cellsB]
   rw [e]
   simpa using hj
theorem zJ3 {ops:Array Oper} {rest:List Oper} {o:Oper} {a:Act} {Q:Exit->Act->World->Prop} {w:World} (hgd:o.guard=none) (s x:Operand)
  (ho:o.op = .call { callee:=.builtin .append,args:=#[s,x],argTypes:=#[22,22] })
  (B:Nat) (v:Value) (l:List UInt8) (b:UInt8) (hs:a.eval s=v) (hown:zIs w B v l) (hB:B<=w.heap.size) (ad:Addr) (hx:a.eval x = .slice (some ad) 1 1) (hc:w.cell? (ad.add 0)=some (.int .u8 (b.toNat:Int))) (hl:l.length<=1000000)
  (h:∀ v' w',zIs w' B v' (l++[b])->Below B w w'->wpList Tryz.prog ops Q rest (a.put o.dst v') w'):wpList Tryz.prog ops Q (o::rest) a w:=by
 refine wpList_plain hgd fun K hK=>?_
 obtain ⟨v',w',hr,h2,h3⟩:=zNN w o.type B v l b hown hB ad hc hl
 unfold Oper.wp execOp
 simp only [ho,resolve,invoke,builtin,Sem.run_bind,Sem.run_pure,Result.andThen_ok,List.map_toArray,List.map_cons,List.map_nil,hs,hx,hr]
 exact hK _ _ (h v' w' h2 h3)
theorem zB8.len {bs:List UInt8} {p0:Nat}:∀ {k:Nat} {xs:List OpR} {p:Nat},zB8 bs p0 k xs p->xs.length<=k/\∀ i,i<xs.length->(atO xs i).s.size<=16
 | 0,xs,p,h=>by
  obtain ⟨rfl,_⟩:=h
  exact ⟨Nat.zero_le _,fun i hi=>by simp at hi⟩
 | k+1,xs,p,h=>by
  obtain ⟨ys,q,ht,_,hc⟩:=h
  obtain ⟨h1,h2⟩:=ht.len
  rcases hc with ⟨_,rfl⟩ | ⟨_,rfl⟩
  ·refine ⟨by simp; omega,fun i hi=>?_⟩
   by_cases e:i<ys.length
   ·have:atO (ys++[Z6 (nxt bs q) (nxt bs (adv bs q)) true]) i=atO ys i:=by unfold atO; simp [List.getD,List.getElem?_append,e]
    rw [this]; exact h2 i e
   ·have e2:i=ys.length:=by simp at hi; omega
    have:atO (ys++[Z6 (nxt bs q) (nxt bs (adv bs q)) true]) i=Z6 (nxt bs q) (nxt bs (adv bs q)) true:=by unfold atO; simp [List.getD,e2]
    rw [this]
    show (txN _).size<=16
    have:=zE1 (nxt bs (adv bs q))
    omega
  ·exact ⟨by omega,h2⟩
theorem zMN {xs:List OpR} (hx:∀ i,i<xs.length->(atO xs i).s.size<=16) (bs:List UInt8) (p:Nat):(zCl xs bs p).length<=501+xs.length/\∀ i,i<(zCl xs bs p).length->(atO (zCl xs bs p) i).s.size<=1001:=by
 unfold zCl
 split
 ·rw [zFe]
  refine ⟨by omega,fun i hi=>?_⟩
  have:atO (ZZ (nxt bs (adv bs p)) (500+nxt bs (adv bs p)%2)) i=zGx (nxt bs (adv bs p)) i:=by
   unfold atO ZZ; simp [List.getD,hi]
  rw [this]
  show 3<=1001
  omega
 ·rw [List.length_set]
  refine ⟨by omega,fun i hi=>?_⟩
  by_cases e:i=nxt bs (adv bs p)%xs.length
  ·have:∀ o,atO (xs.set (nxt bs (adv bs p)%xs.length) o) i=o:=fun o=>by subst e; unfold atO; simp [List.getD,hi]
   rw [this]
   have hi':=hx i hi
   rw [e] at hi'
   unfold zBk
   split
   ·show (ByteArray.extract _ _ _).size<=1001
    rw [ByteArray.size_extract]; omega
   ·split
    ·show (_++_:ByteArray).size<=1001
     rw [ByteArray.size_append]
     show _+1<=1001
     omega
    ·split
     ·show 0<=1001; omega
     ·split
      ·show (atO xs _).s.size<=1001; omega
      ·split
       ·show (atO xs _).s.size<=1001; omega
       ·split
        ·show (atO xs _).s.size<=1001; omega
        ·show (txN _).size<=1001
         have:=zE1 (nxt bs (adv bs (adv bs (adv bs p))))
         omega
  ·have:∀ o,atO (xs.set (nxt bs (adv bs p)%xs.length) o) i=atO xs i:=fun o=>by unfold atO; simp [List.getD,List.getElem?_set,Ne.symm e]
   rw [this]
   have:=hx i hi
   omega
def zQj:Value->Nat
 | .slice _ n _=>n
 | _=>0
theorem zNO (l:List UInt8):(zGG l).length<=1200:=by unfold zGG; simp; omega
end Go.Proofs.YtfboipappaonhaaGreat
namespace Go.Proofs.YtfboipappaonhaaGreat
set_option maxHeartbeats 16000000
set_option maxRecDepth 100000
open Go.RowKit
theorem zAp (s:ByteArray) (k l sd:Int) (b:Bool) (w:World) (hs:s.size<=maxLen) :
  Calls Tryz.prog 99 #[.agg #[.string s,.int .i64 k,.int .i64 l,.int .i64 sd],.bool b] w fun e w'=>e = .returned (.int .i64 (ZJ s k l sd b))/\Below w.heap.size w w':=by
 cases ht:okB s k l sd
 ·have hf:=zB (zJt s k l sd b ht)
  go_enter Tryz.func99,Tryz.ntmps99
  go_wp2_with (go_at_call 101; refine (zDL _ _ _ _ _ hs).mono ?_; rintro e w' ⟨rfl,hb⟩)
  go_ret
  exact ⟨zF (zA hf).symm,(zC _ _).trans (hb.mono (by simp))⟩
 ·obtain ⟨⟨hl1,hl2⟩,h⟩:=zBe s k l sd ht
  rcases h with ⟨rfl,rfl⟩ | ⟨rfl,rfl⟩ | ⟨rfl,rfl⟩ | ⟨rfl,rfl⟩ | ⟨rfl,rfl⟩ <;> cases b
  all_goals
   have hf:=zB (ht)
   go_enter Tryz.func99,Tryz.ntmps99
   go_wp2_with (go_at_call 101; refine (zDL _ _ _ _ _ hs).mono ?_; rintro e w' ⟨rfl,hb⟩; obtain ⟨hc,hz⟩:=zFz hb)
   go_ret
   exact ⟨zF (by simp [ZJ,zJs,zA hf]),(zC _ _).trans (hb.mono (by simp))⟩
theorem zHs (s:ByteArray) (k l sd:Int) (b:Bool) (w:World) (hl1:1<=l) (hl2:l<=1000) :
  Calls Tryz.prog 138 #[.agg #[.string s,.int .i64 k,.int .i64 l,.int .i64 sd],.bool b] w fun e w'=>e = .returned (.int .i64 (zJs l sd b))/\Below w.heap.size w w':=by
 cases b
 ·by_cases h:sd=1
  ·have h':(sd==1)=true:=by simpa using h
   have H:=zB h
   clear h
   go_enter Tryz.func138,Tryz.ntmps138
   go_wp2
   go_ret
   exact ⟨zF (by simp [zJs,zA H]),zC _ _⟩
  ·have h':(sd==1)=false:=by simpa using h
   go_enter Tryz.func138,Tryz.ntmps138
   go_wp2
   go_ret
   exact ⟨zF (by simp [zJs,h]),zC _ _⟩
 ·by_cases h:sd=2
  ·have h':(sd==2)=true:=by simpa using h
   have H:=zB h
   clear h
   go_enter Tryz.func138,Tryz.ntmps138
   go_wp2
   go_ret
   exact ⟨zF (by simp [zJs,zA H]),zC _ _⟩
  ·have h':(sd==2)=false:=by simpa using h
   go_enter Tryz.func138,Tryz.ntmps138
   go_wp2
   go_ret
   exact ⟨zF (by simp [zJs,h]),zC _ _⟩
theorem zAO (s:ByteArray) (k l sd:Int) (b:Bool) (w:World) (hs:s.size<=maxLen) :
  Calls Tryz.prog 90 #[.agg #[.string s,.int .i64 k,.int .i64 l,.int .i64 sd],.bool b] w fun e w'=>e = .returned (.int .i64 (ZJ s k l sd b))/\Below w.heap.size w w':=by
 cases ht:okB s k l sd
 ·have hf:=zB (zJt s k l sd b ht)
  go_enter Tryz.func90,Tryz.ntmps90
  go_wp2_with (go_at_call 122; refine (zAg _ _ _ _ _ hs).mono ?_; rintro e w' ⟨rfl,hb⟩)
  go_ret
  exact ⟨zF (zA hf).symm,(zC _ _).trans (hb.mono (by simp))⟩
 ·obtain ⟨⟨hl1,hl2⟩,h⟩:=zBe s k l sd ht
  have hf:=zB ht
  by_cases h2:k=2
  ·subst h2
   clear h
   go_enter Tryz.func90,Tryz.ntmps90
   go_wp2_with (first | (go_at_call 122; refine (zAg _ _ _ _ _ hs).mono ?_; rintro e w' ⟨rfl,hb⟩; obtain ⟨hc,hz⟩:=zFz hb) | (go_at_call 138; refine (zHs _ _ _ _ _ _ hl1 hl2).mono ?_; rintro e w1 ⟨rfl,hb1⟩))
   go_ret
   exact ⟨zF (by simp [ZJ,zA hf]),(zC _ _).trans ((hb.mono (by simp)).trans (hb1.mono (by have:=hb.size; simp at this; omega)))⟩
  ·have h2':(k==2)=false:=by simpa using h2
   clear h
   cases b
   all_goals
    go_enter Tryz.func90,Tryz.ntmps90
    go_wp2_with (first | (go_at_call 122; refine (zAg _ _ _ _ _ hs).mono ?_; rintro e w' ⟨rfl,hb⟩; obtain ⟨hc,hz⟩:=zFz hb))
    go_ret
    exact ⟨zF (by simp [ZJ,zA hf,h2]),(zC _ _).trans (hb.mono (by simp))⟩
def zBx (xs:List OpR) (t:ByteArray) (kd:Int):Nat->Nat->Option Nat
 | 0,_=>none
 | m+1,i=>if (atO xs i).s=t/\(atO xs i).k=kd then some i else zBx xs t kd m (i+1)
def fnd (xs:List OpR) (t:ByteArray) (kd:Int):Option Nat:=zBx xs t kd xs.length 0
theorem zE2 {xs:List OpR} {t:ByteArray} {kd:Int}:∀ {m i j:Nat},zBx xs t kd m i=some j->i<=j/\j<i+m/\(atO xs j).s=t/\(atO xs j).k=kd
 | 0,_,_,h=>by cases h
 | m+1,i,j,h=>by
  unfold zBx at h
  split at h
  ·rename_i hc
   injection h with h
   subst h
   exact ⟨Nat.le_refl _,by omega,hc.1,hc.2⟩
  ·have:=zE2 h
   exact ⟨by omega,by omega,this.2.2⟩
theorem zE3 {xs:List OpR} {t:ByteArray} {kd:Int}:∀ {m i:Nat},zBx xs t kd m i=none->∀ j,i<=j->j<i+m->¬ ((atO xs j).s=t/\(atO xs j).k=kd)
 | 0,_,_,_,h1,h2=>by omega
 | m+1,i,h,j,h1,h2=>by
  unfold zBx at h
  split at h
  ·cases h
  ·rename_i hc
   by_cases e:j=i
   ·subst e; exact hc
   ·exact zE3 h j (by omega) (by omega)
theorem Z2 {xs:List OpR} {t:ByteArray} {kd:Int} {j:Nat} (h:fnd xs t kd=some j):j<xs.length/\(atO xs j).s=t/\(atO xs j).k=kd:=by
 have:=zE2 h
 exact ⟨by omega,this.2.2⟩
theorem zJ4 {xs:List OpR} {t:ByteArray} {kd:Int} (h:fnd xs t kd=none) {j:Nat} (hj:j<xs.length):¬ ((atO xs j).s=t/\(atO xs j).k=kd):=
 zE3 h j (Nat.zero_le _) (by omega)
theorem zE4 {xs:List OpR} {t:ByteArray} {kd:Int}:∀ (k m i:Nat),(∀ j,i<=j->j<i+k->¬ ((atO xs j).s=t/\(atO xs j).k=kd))->zBx xs t kd (k+m) i=zBx xs t kd m (i+k)
 | 0,m,i,_=>by rw [Nat.zero_add,Nat.add_zero]
 | k+1,m,i,h=>by
  have e:k+1+m=(k+m)+1:=by omega
  rw [e]
  show (if (atO xs i).s=t/\(atO xs i).k=kd then some i else zBx xs t kd (k+m) (i+1))=_
  rw [if_neg (h i (Nat.le_refl _) (by omega)),zE4 k m (i+1) (fun j h1 h2=>h j (by omega) (by omega))]
  congr 1
  omega
theorem zMO {xs:List OpR} {t:ByteArray} {kd:Int} {k:Nat} (hk:k<xs.length) (h:∀ j,j<k->¬ ((atO xs j).s=t/\(atO xs j).k=kd)) (hk2:(atO xs k).s=t/\(atO xs k).k=kd):fnd xs t kd=some k:=by
 have e:xs.length=k+((xs.length-k-1)+1):=by omega
 unfold fnd
 rw [e,zE4 k _ 0 (fun j _ h2=>h j (by omega))]
 show (if (atO xs (0+k)).s=t/\(atO xs (0+k)).k=kd then some (0+k) else _)=_
 rw [Nat.zero_add,if_pos hk2]
theorem zLm {xs:List OpR} {t:ByteArray} {kd:Int} (h:∀ j,j<xs.length->¬ ((atO xs j).s=t/\(atO xs j).k=kd)):fnd xs t kd=none:=by
 cases e:fnd xs t kd with
 | none=>rfl
 | some j=>exact absurd (Z2 e).2 (h j (Z2 e).1)
theorem zLn {xs:List OpR} (hv:zM xs 0) {t:ByteArray} {kd:Int} {j:Nat} (hj:j<xs.length) (h:(atO xs j).s=t/\(atO xs j).k=kd):fnd xs t kd=some j:=by
 cases e:fnd xs t kd with
 | none=>exact absurd h (zJ4 e hj)
 | some i=>
  obtain ⟨hi,h1,h2⟩:=Z2 e
  by_cases hij:i=j
  ·rw [hij]
  ·exfalso
   have hpr:¬ Pr 3 xs:=by
    rcases hv with ⟨h,_⟩ | ⟨_,⟨h,_⟩ | ⟨_,⟨h,_⟩ | ⟨h,_⟩⟩⟩
    ·exact absurd h (by decide)
    ·exact absurd h (by decide)
    ·exact absurd h (by decide)
    ·exact h
   apply hpr
   rcases Nat.lt_trichotomy i j with e | e | e
   ·exact ⟨j,i,e,hj,by simp [cl]; exact ⟨by rw [h1,h.1],by omega⟩⟩
   ·exact absurd e hij
   ·exact ⟨i,j,e,hi,by simp [cl]; exact ⟨by rw [h1,h.1],by omega⟩⟩
def ZF (o:zD):Prop:=3<=o.k/\o.k<=5
def Zd (xs:List OpR) (o:zD):Int:=if 3<=o.k/\o.k<=5 then (match fnd xs o.t (o.k-2) with
 | some j=>(atO xs j).l
 | none=>1001) else 1001
def zCy (xs:List OpR) (j:Nat) (b:Bool):Int:=ZJ (atO xs j).s (atO xs j).k (atO xs j).l (atO xs j).sd b
def zAt (xs:List OpR) (ns:List zD):Prop:=∀ i,i<ns.length->ZF (atN ns i)->fnd xs (atN ns i).t ((atN ns i).k-2)≠none
def zCz (xs:List OpR) (ns:List zD) (i:Nat):Prop:=∀ j,ZF (atN ns i)->fnd xs (atN ns i).t ((atN ns i).k-2)=some j ->
 zCy xs j false<=Zd xs (atN ns (atN ns i).a.toNat)/\(zU (atN ns i).k=1\/zCy xs j true<=Zd xs (atN ns (atN ns i).b.toNat))
def zDs (xs:List OpR) (ns:List zD) (c:Int):Prop:=
 (¬ zM xs 0/\c=1)\/(zM xs 0/\((¬ (ZE ns/\zAt xs ns)/\c=2)\/((ZE ns/\zAt xs ns)/\((¬ (∀ i,i<ns.length->zCz xs ns i)/\c=3)\/((∀ i,i<ns.length->zCz xs ns i)/\c=0)))))
theorem zDs.one {xs:List OpR} {ns:List zD} {c c':Int} (h:zDs xs ns c) (h':zDs xs ns c'):c=c':=by
 rcases h with ⟨a,rfl⟩ | ⟨a,⟨b,rfl⟩ | ⟨b,⟨d,rfl⟩ | ⟨d,rfl⟩⟩⟩ <;> rcases h' with ⟨a',rfl⟩ | ⟨a',⟨b',rfl⟩ | ⟨b',⟨d',rfl⟩ | ⟨d',rfl⟩⟩⟩ <;> first | rfl | exact absurd a a' | exact absurd a' a | exact absurd b b' | exact absurd b' b | exact absurd d d' | exact absurd d' d
def zY (ns:List OpR) (o:zD) (b:Bool):Int:=match fnd ns o.t (o.k-2) with
 | some j=>zCy ns j b
 | none=>0
def zCT (ns:List OpR) (o:zD) (least:Int) (s:Nat) (u:List zD):List zD:=
 if Zd ns o<least then u++[⟨6,ByteArray.empty,((s+u.length:Nat):Int)-1,0⟩] else u
def gr (ns:List OpR) (xs:List zD):Nat->Nat->Int->Nat->List zD
 | 0,_,_,_=>[]
 | n+1,i,least,s=>
  if (atN xs i).k=6 then gr ns xs n (i-1) least s
  else if zU (atN xs i).k=0 then zCT ns (atN xs i) least s [⟨(atN xs i).k,(atN xs i).t,0,0⟩]
  else if zU (atN xs i).k=1 then
   zCT ns (atN xs i) least s (gr ns xs n (i-1) (zY ns (atN xs i) false) s++[⟨(atN xs i).k,(atN xs i).t,((s+(gr ns xs n (i-1) (zY ns (atN xs i) false) s).length:Nat):Int)-1,0⟩])
  else
   zCT ns (atN xs i) least s ((gr ns xs n (atN xs i).a.toNat (zY ns (atN xs i) false) s++gr ns xs n (i-1) (zY ns (atN xs i) true) (s+(gr ns xs n (atN xs i).a.toNat (zY ns (atN xs i) false) s).length)) ++
    [⟨(atN xs i).k,(atN xs i).t,((s+(gr ns xs n (atN xs i).a.toNat (zY ns (atN xs i) false) s).length:Nat):Int)-1,((s+(gr ns xs n (atN xs i).a.toNat (zY ns (atN xs i) false) s).length+(gr ns xs n (i-1) (zY ns (atN xs i) true) (s+(gr ns xs n (atN xs i).a.toNat (zY ns (atN xs i) false) s).length)).length:Nat):Int)-1⟩])
theorem zDR (ns:List OpR) (xs:List zD):∀ n m i f,i<n->i<m->frS xs i=some f->∀ l s,gr ns xs n i l s=gr ns xs m i l s
 | 0,_,_,_,h,_,_=>absurd h (Nat.not_lt_zero _)
 | _+1,0,_,_,_,h,_=>absurd h (Nat.not_lt_zero _)
 | n+1,m+1,i,f,h,h',hf=>by
  intro l s
  rcases zAe hf with ⟨hk,ha,hb,hfi⟩ | ⟨hk,h1i,ha,hbb,hf1⟩ | ⟨hk,h1i,hbb,f2,hf2,h2f,ha,hf1⟩
  ·have h6:(atN xs i).k≠6:=fun e=>by rw [e] at hk; simp [zU] at hk
   simp only [gr,if_neg h6,hk,if_true]
  ·have e:=zDR ns xs n m (i-1) f (by omega) (by omega) hf1
   simp only [gr,e]
   by_cases h6:(atN xs i).k=6
   ·rw [if_pos h6,if_pos h6]
   ·simp only [if_neg h6,hk,if_true,Nat.one_ne_zero,if_false]
  ·have h6:(atN xs i).k≠6:=fun e=>by rw [e] at hk; simp [zU] at hk
   have hle:=Zl hf2
   have e1:=zDR ns xs n m (i-1) f2 (by omega) (by omega) hf2
   have e2:=zDR ns xs n m (f2-1) f (by omega) (by omega) hf1
   have ea:(atN xs i).a.toNat=f2-1:=by omega
   simp only [gr,if_neg h6,ea,e1,e2]
def gS (ns:List OpR) (xs:List zD) (i:Nat) (l:Int) (s:Nat):List zD:=gr ns xs (i+1) i l s
theorem zDS {ns:List OpR} {xs:List zD} {i:Nat} (hk:zU (atN xs i).k=0) (l:Int) (s:Nat):gS ns xs i l s=zCT ns (atN xs i) l s [⟨(atN xs i).k,(atN xs i).t,0,0⟩]:=by
 have h6:(atN xs i).k≠6:=fun e=>by rw [e] at hk; simp [zU] at hk
 simp only [gS,gr,if_neg h6,hk,if_true]
theorem zC0 {ns:List OpR} {xs:List zD} {i f:Nat} (hk:(atN xs i).k=6) (h1:1<=i) (hf:frS xs (i-1)=some f) (l:Int) (s:Nat):gS ns xs i l s=gS ns xs (i-1) l s:=by
 have e:gS ns xs i l s=gr ns xs i (i-1) l s:=by simp only [gS,gr,if_pos hk]
 rw [e]
 exact zDR ns xs _ _ _ f (by omega) (by omega) hf l s
theorem zEc {ns:List OpR} {xs:List zD} {i f:Nat} (hk:zU (atN xs i).k=1) (h6:(atN xs i).k≠6) (h1:1<=i) (hf:frS xs (i-1)=some f) (l:Int) (s:Nat) {u:List zD} (hu:u=gS ns xs (i-1) (zY ns (atN xs i) false) s) :
  gS ns xs i l s=zCT ns (atN xs i) l s (u++[⟨(atN xs i).k,(atN xs i).t,((s+u.length:Nat):Int)-1,0⟩]):=by
 have e:=zDR ns xs i (i-1+1) (i-1) f (by omega) (by omega) hf
 subst hu
 unfold gS
 conv=>lhs; unfold gr
 simp only [if_neg h6,hk,if_true,Nat.one_ne_zero,if_false,e]
theorem zFf {ns:List OpR} {xs:List zD} {i f f2:Nat} (hk:zU (atN xs i).k=2) (h1:1<=i) (hf2:frS xs (i-1)=some f2) (h2:1<=f2) (ha:(atN xs i).a=(f2:Int)-1) (hf:frS xs (f2-1)=some f) (l:Int) (s:Nat) {u1 u2:List zD}
  (hu1:u1=gS ns xs (f2-1) (zY ns (atN xs i) false) s) (hu2:u2=gS ns xs (i-1) (zY ns (atN xs i) true) (s+u1.length)) :
  gS ns xs i l s=zCT ns (atN xs i) l s ((u1++u2)++[⟨(atN xs i).k,(atN xs i).t,((s+u1.length:Nat):Int)-1,((s+u1.length+u2.length:Nat):Int)-1⟩]):=by
 have h6:(atN xs i).k≠6:=fun e=>by rw [e] at hk; simp [zU] at hk
 have hle:=Zl hf2
 have e1:=zDR ns xs i (i-1+1) (i-1) f2 (by omega) (by omega) hf2
 have e2:=zDR ns xs i (f2-1+1) (f2-1) f (by omega) (by omega) hf
 have ea:(atN xs i).a.toNat=f2-1:=by omega
 subst hu2
 subst hu1
 unfold gS
 conv=>lhs; unfold gr
 simp only [if_neg h6,ea,e1,e2,hk]
 rfl
theorem zGz (ns:List OpR) (o:zD) (l:Int) (s:Nat) (u:List zD):u.length<=(zCT ns o l s u).length/\(zCT ns o l s u).length<=u.length+1:=by
 unfold zCT
 split <;> simp
theorem zBV (ns:List OpR) (xs:List zD):∀ n i f,i<n->frS xs i=some f->∀ l s,1<=(gS ns xs i l s).length/\(gS ns xs i l s).length<=2*(i+1-f)
 | 0,_,_,h,_=>absurd h (Nat.not_lt_zero _)
 | n+1,i,f,h,hf=>by
  intro l s
  rcases zAe hf with ⟨hk,ha,hb,hfi⟩ | ⟨hk,h1i,ha,hbb,hf1⟩ | ⟨hk,h1i,hbb,f2,hf2,h2f,ha,hf1⟩
  ·rw [zDS hk]
   have:=zGz ns (atN xs i) l s [⟨(atN xs i).k,(atN xs i).t,0,0⟩]
   simp only [List.length_cons,List.length_nil] at this
   omega
  ·have hle:=Zl hf1
   by_cases h6:(atN xs i).k=6
   ·rw [zC0 h6 h1i hf1]
    have:=zBV ns xs n (i-1) f (by omega) hf1 l s
    omega
   ·rw [zEc hk h6 h1i hf1 l s rfl]
    have h1:=zBV ns xs n (i-1) f (by omega) hf1 (zY ns (atN xs i) false) s
    have h2:=zGz ns (atN xs i) l s (gS ns xs (i-1) (zY ns (atN xs i) false) s++[⟨(atN xs i).k,(atN xs i).t,((s+(gS ns xs (i-1) (zY ns (atN xs i) false) s).length:Nat):Int)-1,0⟩])
    simp only [List.length_append,List.length_cons,List.length_nil] at h2
    omega
  ·have hle:=Zl hf2
   have hle1:=Zl hf1
   obtain ⟨u1,hu1⟩:∃ u1,u1=gS ns xs (f2-1) (zY ns (atN xs i) false) s:=⟨_,rfl⟩
   obtain ⟨u2,hu2⟩:∃ u2,u2=gS ns xs (i-1) (zY ns (atN xs i) true) (s+u1.length):=⟨_,rfl⟩
   rw [zFf hk h1i hf2 h2f ha hf1 l s hu1 hu2]
   have h1:=zBV ns xs n (f2-1) f (by omega) hf1 (zY ns (atN xs i) false) s
   have h2:=zBV ns xs n (i-1) f2 (by omega) hf2 (zY ns (atN xs i) true) (s+u1.length)
   rw [<- hu1] at h1
   rw [<- hu2] at h2
   have h3:=zGz ns (atN xs i) l s ((u1++u2)++[⟨(atN xs i).k,(atN xs i).t,((s+u1.length:Nat):Int)-1,((s+u1.length+u2.length:Nat):Int)-1⟩])
   simp only [List.length_append,List.length_cons,List.length_nil] at h3
   omega
theorem zB9 (ns:List OpR) (xs:List zD):∀ n i f,i<n->frS xs i=some f->∀ l s s',(gS ns xs i l s).length=(gS ns xs i l s').length
 | 0,_,_,h,_=>absurd h (Nat.not_lt_zero _)
 | n+1,i,f,h,hf=>by
  intro l s s'
  have cl:∀ u u':List zD,u.length=u'.length->(zCT ns (atN xs i) l s u).length=(zCT ns (atN xs i) l s' u').length:=by
   intro u u' hu
   unfold zCT
   split <;> simp [hu]
  rcases zAe hf with ⟨hk,ha,hb,hfi⟩ | ⟨hk,h1i,ha,hbb,hf1⟩ | ⟨hk,h1i,hbb,f2,hf2,h2f,ha,hf1⟩
  ·rw [zDS hk,zDS hk]
   exact cl _ _ rfl
  ·by_cases h6:(atN xs i).k=6
   ·rw [zC0 h6 h1i hf1,zC0 h6 h1i hf1]
    exact zB9 ns xs n (i-1) f (by omega) hf1 l s s'
   ·rw [zEc hk h6 h1i hf1 l s rfl,zEc hk h6 h1i hf1 l s' rfl]
    apply cl
    simp [zB9 ns xs n (i-1) f (by omega) hf1 (zY ns (atN xs i) false) s s']
  ·have hle:=Zl hf2
   rw [zFf hk h1i hf2 h2f ha hf1 l s rfl rfl,zFf hk h1i hf2 h2f ha hf1 l s' rfl rfl]
   apply cl
   have e1:=zB9 ns xs n (f2-1) f (by omega) hf1 (zY ns (atN xs i) false) s s'
   have e2:=zB9 ns xs n (i-1) f2 (by omega) hf2 (zY ns (atN xs i) true) (s+(gS ns xs (f2-1) (zY ns (atN xs i) false) s).length) (s'+(gS ns xs (f2-1) (zY ns (atN xs i) false) s').length)
   simp only [List.length_append,List.length_cons,List.length_nil]
   rw [e2,e1]
def zED (ns:List OpR) (xs us:List zD) (v:Bool):Prop:=
 (((zM ns 0/\ZE xs/\zAt ns xs)/\(gS ns xs (xs.length-1) 0 0).length<=20000)/\v=true/\us=gS ns xs (xs.length-1) 0 0) \/
 (¬ ((zM ns 0/\ZE xs/\zAt ns xs)/\(gS ns xs (xs.length-1) 0 0).length<=20000)/\v=false/\us=[])
theorem zED.one {ns:List OpR} {xs us us':List zD} {v v':Bool} (h:zED ns xs us v) (h':zED ns xs us' v'):us=us'/\v=v':=by
 rcases h with ⟨a,rfl,rfl⟩ | ⟨a,rfl,rfl⟩
 ·rcases h' with ⟨_,rfl,rfl⟩ | ⟨a',_⟩
  ·exact ⟨rfl,rfl⟩
  ·exact absurd a a'
 ·rcases h' with ⟨a',_⟩ | ⟨_,rfl,rfl⟩
  ·exact absurd a' a
  ·exact ⟨rfl,rfl⟩
end Go.Proofs.YtfboipappaonhaaGreat
namespace Go.Proofs.YtfboipappaonhaaGreat
set_option linter.unusedSimpArgs false
set_option linter.unusedVariables false
set_option maxHeartbeats 16000000
set_option maxRecDepth 100000
open Go.RowKit
theorem zG0 (k:Nat):(zEy k).t.size<=6:=by
 have e1:(⟨#[97,98,99,100,95,57]⟩:ByteArray).size=6:=rfl
 have e2:(⟨#[48,49,55,50]⟩:ByteArray).size=4:=rfl
 unfold zEy
 split
 ·show (ByteArray.extract _ _ _).size<=6
  rw [ByteArray.size_extract]; omega
 ·show (ByteArray.extract _ _ _).size<=6
  rw [ByteArray.size_extract]; omega
theorem zIt {ns:List OpR} (hn:∀ i,(atO ns i).s.size<=16) (bs:List UInt8) (grp:Bool):∀ (d p:Nat) (us:List zD),(∀ o∈us,o.t.size<=16)->∀ o∈(gen bs ns grp d p us).2,o.t.size<=16
 | 0,p,us,h=>by
  have:=zG0 (nxt bs (adv bs p))
  simp only [gen]
  intro o ho
  rcases List.mem_append.1 ho with ho | ho
  ·exact h o ho
  ·simp at ho; subst ho; omega
 | d+1,p,us,h=>by
  have hl:=zG0 (nxt bs (adv bs p))
  have h1:=zIt hn bs grp d (adv bs p) us h
  have h2:=zIt hn bs grp d (gen bs ns grp d (adv bs p) us).1 _ h1
  have h3:=hn (nxt bs p/8%ns.length)
  have sn:∀ (vs:List zD) (x:zD),(∀ o∈vs,o.t.size<=16)->x.t.size<=16->∀ o∈vs++[x],o.t.size<=16:=fun vs x hv hx o ho=>by
   rcases List.mem_append.1 ho with ho | ho
   ·exact hv o ho
   ·simp at ho; subst ho; exact hx
  simp only [gen]
  split
  ·exact sn _ _ h (by omega)
  ·split
   ·exact sn _ _ h1 (by show 0<=16; omega)
   ·split
    ·exact sn _ _ h2 h3
    ·exact sn _ _ h1 h3
theorem zOm {xs:List OpR} (h:∀ i,i<xs.length->(atO xs i).s.size<=16) (i:Nat):(atO xs i).s.size<=16:=by
 by_cases hi:i<xs.length
 ·exact h i hi
 ·have:atO xs i=OpR.zero:=by unfold atO; simp [List.getD,List.getElem?_eq_none (Nat.le_of_not_lt hi)]
  rw [this]; show 0<=16; omega
theorem zB8.kinds {bs:List UInt8} {p0:Nat}:∀ {k:Nat} {xs:List OpR} {p:Nat},zB8 bs p0 k xs p->∀ i,i<xs.length->0<=(atO xs i).k/\(atO xs i).k<=9
 | 0,xs,p,h=>by
  obtain ⟨rfl,_⟩:=h
  exact fun i hi=>by simp at hi
 | k+1,xs,p,h=>by
  obtain ⟨ys,q,ht,_,hc⟩:=h
  have h2:=ht.kinds
  rcases hc with ⟨_,rfl⟩ | ⟨_,rfl⟩
  ·intro i hi
   by_cases e:i<ys.length
   ·have:atO (ys++[Z6 (nxt bs q) (nxt bs (adv bs q)) true]) i=atO ys i:=by unfold atO; simp [List.getD,List.getElem?_append,e]
    rw [this]; exact h2 i e
   ·have e2:i=ys.length:=by simp at hi; omega
    have:atO (ys++[Z6 (nxt bs q) (nxt bs (adv bs q)) true]) i=Z6 (nxt bs q) (nxt bs (adv bs q)) true:=by unfold atO; simp [List.getD,e2]
    rw [this]
    show 0<=ZT _/\ZT _<=9
    unfold ZT
    split
    ·omega
    ·split <;> omega
  ·exact h2
end Go.Proofs.YtfboipappaonhaaGreat
