import Derived.Maps.AppendAt
import Derived.Deep.MidRow
import Derived.BigRegion
import Derived.Deep.RegionWith
import Derived.Test.YtgiemobdmbijiaaGreatDoorN05
import Derived.Test.YtgiemobdmbijiaaGreatDoorN11
import Derived.Test.YtgiemobdmbijiaaGreatDoorN13
import Derived.Test.YtgiemobdmbijiaaGreatDoorN30
namespace Go.Proofs.YtgiemobdmbijiaaGreatDoor
set_option linter.unusedSimpArgs false
set_option linter.unusedVariables false
set_option maxHeartbeats 16000000
set_option maxRecDepth 100000
open Go.RowKit
def zOO (c:UInt8) (n:Nat):ByteArray:=⟨(List.replicate n c).toArray⟩
def nlB:ByteArray:=⟨#[10]⟩
def bg1:ByteArray:=⟨#[98,101,103,105,110,10,49]⟩
def mdX:zI:=⟨⟨#[120,49]⟩,⟨#[117,115,101,32,121,49,10,98,101,103,105,110,10,49]⟩⟩
def mdL (v:Nat):ByteArray:=if v % 2 = 1 then ⟨#[121,50]⟩ else ⟨#[121,49]⟩
def mdY (v:Nat):zI:=⟨⟨#[121,49]⟩,zCb ++ mdL v ++ ⟨#[10,98,101,103,105,110,10,49]⟩⟩
def mdZ:zI:=⟨⟨#[121,50]⟩,⟨#[117,115,101,32,121,49,10,98,101,103,105,110,10,49]⟩⟩
def zE7 (n:Nat):Nat -> List zI -> List zI
 | 0,ms=>ms
 | f + 1,ms=>if ms.length < n then zE7 n f (ms ++ [⟨⟨#[122]⟩ ++ Ze 7 ms.length,bg1⟩]) else ms
def zAt (bs:List UInt8) (p:Nat) (ms:List zI):List zI:=
 if nxt bs p % 16 = 8 then ms.set (ms.length - 1) ⟨zOO 109 (63 + nxt bs (adv bs (adv bs p)) % 3),(atM ms (ms.length - 1)).t⟩
 else if nxt bs p % 16 = 15 then [mdX] ++ ms ++ [mdY (nxt bs (adv bs (adv bs p))),mdZ]
 else if nxt bs p % 8 = 0 then ms.set (nxt bs (adv bs p) % ms.length) ⟨(⟨#[109,95,49,32]⟩:ByteArray).extract 0 (nxt bs (adv bs (adv bs p)) % 5),(atM ms (nxt bs (adv bs p) % ms.length)).t⟩
 else if nxt bs p % 8 = 1 then ms.set (nxt bs (adv bs p) % ms.length) ⟨(atM ms (nxt bs (adv bs p) % ms.length)).n,zCb ++ zCf (nxt bs (adv bs (adv bs p))) ++ nlB ++ (atM ms (nxt bs (adv bs p) % ms.length)).t⟩
 else if nxt bs p % 8 = 2 then ms.set (nxt bs (adv bs p) % ms.length) ⟨(atM ms (nxt bs (adv bs p) % ms.length)).n,zCb ++ (atM ms (ms.length - 1)).n ++ nlB ++ (atM ms (nxt bs (adv bs p) % ms.length)).t⟩
 else if nxt bs p % 8 = 3 then ms.set (nxt bs (adv bs p) % ms.length) ⟨(atM ms (nxt bs (adv bs p) % ms.length)).n,ze (dW (zAa (nxt bs (adv bs (adv bs (adv bs p)))) (nxt bs (adv bs (adv bs (adv bs (adv bs p))))) (decide (nxt bs (adv bs (adv bs p)) % 2 = 0)))) ++ nlB ++ (atM ms (nxt bs (adv bs p) % ms.length)).t⟩
 else if nxt bs p % 8 = 4 /\ 0 < (atM ms (nxt bs (adv bs p) % ms.length)).t.size then
  ms.set (nxt bs (adv bs p) % ms.length) ⟨(atM ms (nxt bs (adv bs p) % ms.length)).n,(atM ms (nxt bs (adv bs p) % ms.length)).t.extract 0 ((nxt bs (adv bs (adv bs p)) * 256 + nxt bs (adv bs (adv bs (adv bs p)))) % (atM ms (nxt bs (adv bs p) % ms.length)).t.size) ++ (atM ms (nxt bs (adv bs p) % ms.length)).t.extract ((nxt bs (adv bs (adv bs p)) * 256 + nxt bs (adv bs (adv bs (adv bs p)))) % (atM ms (nxt bs (adv bs p) % ms.length)).t.size + 1) (atM ms (nxt bs (adv bs p) % ms.length)).t.size⟩
 else if nxt bs p % 8 = 5 then ms.set (nxt bs (adv bs p) % ms.length) ⟨(atM ms (nxt bs (adv bs p) % ms.length)).n,(atM ms (nxt bs (adv bs p) % ms.length)).t ++ zAU [] bs (adv bs (adv bs (adv bs p)))⟩
 else if nxt bs p % 16 = 6 then zE7 (100 + nxt bs (adv bs (adv bs p)) % 2) 101 ms
 else if nxt bs p % 16 = 14 then ms.set (nxt bs (adv bs p) % ms.length) ⟨(atM ms (nxt bs (adv bs p) % ms.length)).n,(atM ms (nxt bs (adv bs p) % ms.length)).t ++ zOO 32 (20000 + nxt bs (adv bs (adv bs p)) % 2 - (atM ms (nxt bs (adv bs p) % ms.length)).t.size)⟩
 else ms ++ [atM ms (nxt bs (adv bs p) % ms.length)]
def swp:List zI -> List zI
 | m :: k :: r=>k :: m :: swp r
 | l=>l
def zPm (bs:List UInt8) (p:Nat) (ms:List zI):Prop:=
 ∃ ms0 q,zO6 bs (adv bs p) ms0 q /\ ((nxt bs p % 4 = 3 /\ ms = zAt bs (1 + nxt bs p % 7) ms0) \/ (nxt bs p % 8 = 4 /\ ms = swp ms0) \/ (nxt bs p % 4 ≠ 3 /\ nxt bs p % 8 ≠ 4 /\ ms = ms0))
def zEo (w:World) (B:Nat) (v:Value) (l:List UInt8):Prop:=
 ∃ g cap,v = .slice (some ⟨g,0,none⟩) l.length cap /\ B <= g /\ g < w.heap.size /\ l.length <= cap /\ cap <= maxLen /\ (∀ j,j < cap -> (w.cell? ⟨g,j,none⟩).isSome = true /\ w.frozen? ⟨g,j,none⟩ = false) /\ ∀ j u,(cellsB l)[j]? = some u -> w.cell? ⟨g,j,none⟩ = some u
theorem zEo.below {w w':World} {B:Nat} {v:Value} {l:List UInt8} (h:zEo w B v l) (hb:Below w.heap.size w w'):zEo w' B v l:=by
 obtain ⟨g,cap,rfl,h1,h2,h3,h4,h5,h6⟩:=h
 refine ⟨g,cap,rfl,h1,Nat.lt_of_lt_of_le h2 hb.size,h3,h4,fun j hj=>?_,fun j u hj=>(hb.cell (p:=⟨g,j,none⟩) h2).trans (h6 j u hj)⟩
 have c:=hb.cell (p:=⟨g,j,none⟩) h2
 have f:=hb.frozen (p:=⟨g,j,none⟩) h2
 exact ⟨by rw [c]; exact (h5 j hj).1,by rw [f]; exact (h5 j hj).2⟩
theorem zM5 (W:World) (s:ByteArray) (hs:s.size <= 10000000000000):∃ (v:Value) (W':World),(convert 9 22 (.string s)).run Tryz.prog W = .ok v W' /\ zEo W' W.heap.size v s.data.toList /\ Below W.heap.size W W':=by
 have hr:=run_bytes_of_string (P:=Tryz.prog) W 9 22 5 s Tryz.underlying9 Tryz.underlying22 Tryz.underlying5
 have hsl:s.data.toList.length = s.size:=by simp
 have hge:=grownCap_ge W s.size 0 5
 have hnew:=heap_alloc_new W.drew (.cells (bytesRow s (grownCap W s.size 0 5)) 5 ((bytesRow s (grownCap W s.size 0 5)).size,(bytesRow s (grownCap W s.size 0 5)).size + 1))
 have hsz:(bytesRow s (grownCap W s.size 0 5)).size = grownCap W s.size 0 5:=by
  unfold bytesRow
  simp
  have:s.data.size = s.size:=rfl
  omega
 refine ⟨_,_,hr,⟨W.heap.size,grownCap W s.size 0 5,by rw [hsl],Nat.le_refl _,by simp,by rw [hsl]; exact hge,grownCap_le_maxLen W s.size 0 5 (by unfold maxLen; omega),fun j hj=>⟨?_,?_⟩,fun j u hj=>?_⟩,(Below.refl _ _).drew.alloc (Nat.le_refl _) _⟩
 ·rw [cell_of_row _ W.heap.size j _ 5 _ hnew]
  simp [hsz,hj]
 ·have hn:(W.drew.alloc (.cells (bytesRow s (grownCap W s.size 0 5)) 5 ((bytesRow s (grownCap W s.size 0 5)).size,(bytesRow s (grownCap W s.size 0 5)).size + 1))).heap[W.heap.size]? = _:=hnew
  unfold World.frozen?
  simp only [hn]
  rw [hsz]
  simp
  omega
 ·rw [cell_of_row _ W.heap.size j _ 5 _ hnew]
  have hlt:j < s.data.size:=by
   have:=(List.getElem?_eq_some_iff.1 hj).1
   rw [ZK] at this
   simpa using this
  rw [bytesRow_at s _ j hlt]
  simp [cellsB] at hj
  obtain ⟨x,hx,rfl⟩:=hj
  rw [Array.getElem?_eq_getElem hlt] at hx
  injection hx with hx
  subst hx
  rfl
theorem zM6 (w:World) (ty:TypeId) (B:Nat) (v:Value) (l:List UInt8) (b:UInt8) (h:zEo w B v l) (hB:B <= w.heap.size) (ad:Addr) (hx:w.cell? (ad.add 0) = some (.int .u8 (b.toNat:Int))) (hl:l.length <= 1000000) :
  ∃ v' w',(Builtin.append_ #[22,22] ty #[v,.slice (some ad) 1 1]).run Tryz.prog w = .ok v' w' /\ zEo w' B v' (l ++ [b]) /\ Below B w w':=by
 obtain ⟨g,cap,rfl,h1,h2,h3,h4,h5,h6⟩:=h
 obtain ⟨i,hi,hz⟩:=Option.map_eq_some_iff.1 zIm
 simp only [Prod.mk.injEq] at hz
 obtain ⟨hz0,hz1,hz2⟩:=hz
 have hnews:∀ j u,([.int .u8 (b.toNat:Int)]:List Value)[j]? = some u -> w.cell? (ad.add j) = some u:=fun j u hj=>by
  match j,hj with
  | 0,hj=>simp at hj; subst hj; exact hx
 have hbl:(l ++ [b]).length = l.length + 1:=by simp
 by_cases hroom:l.length + 1 <= cap
 ·have hf:=run_firstCells_some (P:=Tryz.prog) w i.size 1 ad 1 1 [.int .u8 (b.toNat:Int)] (by rw [hz1]; rfl) hnews
  obtain ⟨c1,c2⟩:=h5 l.length (by omega)
  obtain ⟨u0,hu0⟩:=Option.isSome_iff_exists.1 c1
  have hadd:(⟨g,l.length,none⟩:Addr).add 0 = ⟨g,l.length,none⟩:=by unfold Addr.add; split <;> simp_all
  have hst:(storeCells ⟨g,l.length,none⟩ [.int .u8 (b.toNat:Int)] 0).run Tryz.prog w = .ok () (w.setCell ⟨g,l.length,none⟩ (.int .u8 (b.toNat:Int))):=by
   simp only [storeCells,Sem.run_bind]
   rw [hadd,run_store Tryz.prog w _ _ _ rfl,hu0]
   simp [c2]
  refine ⟨.slice (some ⟨g,0,none⟩) (l.length + 1) cap,w.setCell ⟨g,l.length,none⟩ (.int .u8 (b.toNat:Int)),?_,?_,(Below.refl _ _).setCell (by simpa using h1) _⟩
  ·rw [hz1] at hf
   simp [Builtin.append_,run_underlying Tryz.underlying22,sizeOf,typeInfo,hi,hz1,Builtin.lenOf,hroom,hf,Addr.add_lit,hst]
  ·refine ⟨g,cap,by rw [hbl],h1,by simpa [World.setCell] using h2,by rw [hbl]; exact hroom,h4,fun j hj=>?_,fun j u hj=>?_⟩
   ·refine ⟨?_,(World.frozen?_setCell _ _ _ _).trans (h5 j hj).2⟩
    by_cases e:j = l.length
    ·subst e; rw [World.cell?_setCell_same _ _ _ hu0]; rfl
    ·rw [World.cell?_setCell_other _ _ _ _ (fun x=>e (by injection x with _ x; exact x.symm))]; exact (h5 j hj).1
   ·rw [zBC] at hj
    by_cases e:j = l.length
    ·subst e
     rw [World.cell?_setCell_same _ _ _ hu0]
     rw [List.getElem?_append_right (by rw [ZK]; exact Nat.le_refl _),ZK,Nat.sub_self] at hj
     simpa [cellsB] using hj
    ·rw [World.cell?_setCell_other _ _ _ _ (fun x=>e (by injection x with _ x; exact x.symm))]
     apply h6
     have hjl:j < l.length + 1:=by
      have:=(List.getElem?_eq_some_iff.1 hj).1
      simpa [ZK] using this
     rw [List.getElem?_append_left (by rw [ZK]; omega)] at hj
     exact hj
 ·have holds:∀ j u,(cellsB l)[j]? = some u -> w.cell? ((⟨g,0,none⟩:Addr).add j) = some u:=fun j u hj=>by
   rw [Addr.add_mid,Nat.zero_add]; exact h6 j u hj
  have hr:=run_append_grow (P:=Tryz.prog) w 22 ty 5 i _ Tryz.underlying22 hi hz0 ⟨g,0,none⟩ l.length cap (cellsB l) (by rw [ZK,hz1,Nat.mul_one]) holds ad 1 1 [.int .u8 (b.toNat:Int)] (by rw [hz1]; rfl) hnews (by omega) (by omega) (growslice_fits (by omega) (by rw [hz2]; omega))
  have hge:=grownCap_ge w (l.length + 1) cap 5
  have hnew:=heap_alloc_new w.drew (.cells ((cellsB l).toArray ++ [Value.int .u8 (b.toNat:Int)].toArray ++ Builtin.zeroCells (Value.int .u8 0).cells (grownCap w (l.length + 1) cap 5 - (l.length + 1))) 5)
  refine ⟨_,_,hr,⟨w.heap.size,grownCap w (l.length + 1) cap 5,by rw [hbl],hB,by simp,by rw [hbl]; exact hge,grownCap_le_maxLen w (l.length + 1) cap 5 (by unfold maxLen; omega),fun j hj=>⟨?_,frozen_of_row _ _ _ _ _ hnew⟩,fun j u hj=>?_⟩,((Below.refl _ _).drew.alloc (Nat.le_refl _) _).mono hB⟩
  ·rw [cell_of_row _ w.heap.size j _ 5 _ hnew]
   have:j < ((cellsB l).toArray ++ [Value.int .u8 (b.toNat:Int)].toArray ++ Builtin.zeroCells (Value.int .u8 0).cells (grownCap w (l.length + 1) cap 5 - (l.length + 1))).size:=by
    simp [size_zeroCells,ZK,Value.cells]
    omega
   rw [Array.getElem?_eq_getElem this]
   rfl
  ·rw [cell_of_row _ w.heap.size j _ 5 _ hnew]
   rw [zBC] at hj
   have hjl:j < l.length + 1:=by
    have:=(List.getElem?_eq_some_iff.1 hj).1
    simpa [ZK] using this
   rw [Array.getElem?_append_left (by simp [ZK]; omega)]
   have e:(cellsB l).toArray ++ [Value.int .u8 (b.toNat:Int)].toArray = (cellsB l ++ cellsB [b]).toArray:=by simp [cellsB]
   rw [e]
   simpa using hj
theorem zE8 {ops:Array Oper} {rest:List Oper} {o:Oper} {a:Act} {Q:Exit -> Act -> World -> Prop} {w:World} (hgd:o.guard = none) (s x:Operand)
  (ho:o.op = .call { callee:=.builtin .append,args:=#[s,x],argTypes:=#[22,22] })
  (B:Nat) (v:Value) (l:List UInt8) (b:UInt8) (hs:a.eval s = v) (hown:zEo w B v l) (hB:B <= w.heap.size) (ad:Addr) (hx:a.eval x = .slice (some ad) 1 1) (hc:w.cell? (ad.add 0) = some (.int .u8 (b.toNat:Int))) (hl:l.length <= 1000000)
  (h:∀ v' w',zEo w' B v' (l ++ [b]) -> Below B w w' -> wpList Tryz.prog ops Q rest (a.put o.dst v') w'):wpList Tryz.prog ops Q (o :: rest) a w:=by
 refine wpList_plain hgd fun K hK=>?_
 obtain ⟨v',w',hr,h2,h3⟩:=zM6 w o.type B v l b hown hB ad hc hl
 unfold Oper.wp execOp
 simp only [ho,resolve,invoke,builtin,Sem.run_bind,Sem.run_pure,Result.andThen_ok,List.map_toArray,List.map_cons,List.map_nil,hs,hx,hr]
 exact hK _ _ (h v' w' h2 h3)
structure SpS (w0 wr:World) (rp cap:Nat) (a:Option Addr) (bs:List UInt8) (g c:Nat) (ms:List zI) (q:Nat):Prop where
 row:ZG wr w0.heap.size (.slice (some ⟨g,0,none⟩) ms.length c) ms
 rd:RdF wr rp a cap bs q
 kp:zF w0 wr rp
 rpl:rp < w0.heap.size
theorem SpS.gB {w0 wr:World} {rp cap:Nat} {a:Option Addr} {bs:List UInt8} {g c:Nat} {ms:List zI} {q:Nat} (h:SpS w0 wr rp cap a bs g c ms q):w0.heap.size <= g /\ g < wr.heap.size:=h.row.lt g rfl
theorem SpS.below {w0 wr wr':World} {rp cap:Nat} {a:Option Addr} {bs:List UInt8} {g c:Nat} {ms:List zI} {q:Nat} (h:SpS w0 wr rp cap a bs g c ms q) (hb:Below wr.heap.size wr wr'):SpS w0 wr' rp cap a bs g c ms q:=
 ⟨h.row.below hb,h.rd.below hb,h.kp.trans (zF.of_below hb),h.rpl⟩
theorem SpS.read {w0 wr wr':World} {rp cap:Nat} {a:Option Addr} {bs:List UInt8} {g c:Nat} {ms:List zI} {q q':Nat} (h:SpS w0 wr rp cap a bs g c ms q) (hk:zF wr wr' rp) (hr:RdF wr' rp a cap bs q'):SpS w0 wr' rp cap a bs g c ms q':=by
 have h1:=h.rpl
 have h2:=h.gB
 exact ⟨h.row.grown (ZE hk) (fun k hk e=>by simp [Value.ownBlock] at hk; injection e with e; omega),hr,h.kp.trans hk,h.rpl⟩
theorem SpS.turned {w0 W w6:World} {rp cap:Nat} {a:Option Addr} {bs:List UInt8} {g c g6 c6:Nat} {ms ms6:List zI} {q:Nat} (h:SpS w0 W rp cap a bs g c ms q) (hr:ZG w6 w0.heap.size (.slice (some ⟨g6,0,none⟩) ms6.length c6) ms6) (hgr:W.grownBy w6 (some g)):SpS w0 w6 rp cap a bs g6 c6 ms6 q:=by
 have h1:=h.rpl
 have h2:=h.gB
 have e:∀ {x:Nat},x < W.heap.size -> x ≠ g -> w6.heap[x]? = W.heap[x]?:=fun hx hn=>hgr.block _ hx (fun e=>hn (by injection e with e))
 exact ⟨hr,h.rd.kept (fun i hi=>e (by have:=h.rd.lt; omega) (by omega)),⟨hgr.os.trans h.kp.os,hgr.tape.trans h.kp.tape,hgr.output.trans h.kp.output,Nat.le_trans h.kp.size hgr.size,fun i hi a=>(e (Nat.lt_of_lt_of_le hi h.kp.size) (by omega)).trans (h.kp.block i hi a)⟩,h.rpl⟩
theorem SpS.setT {w0 wr:World} {rp cap:Nat} {a:Option Addr} {bs:List UInt8} {g c:Nat} {ms:List zI} {q i:Nat} (h:SpS w0 wr rp cap a bs g c ms q) (hi:i < ms.length) (t:ByteArray):SpS w0 (wr.setCell ⟨g,i * 2 + 1,none⟩ (.string t)) rp cap a bs g c (ms.set i ⟨(atM ms i).n,t⟩) q:=by
 have hr:=h.row.setT hi t
 have e:(ms.set i (⟨(atM ms i).n,t⟩:zI)).length = ms.length:=List.length_set
 refine h.turned ?_ (zm wr g _ _)
 rw [e]
 exact hr
theorem SpS.setN {w0 wr:World} {rp cap:Nat} {a:Option Addr} {bs:List UInt8} {g c:Nat} {ms:List zI} {q i:Nat} (h:SpS w0 wr rp cap a bs g c ms q) (hi:i < ms.length) (s:ByteArray):SpS w0 (wr.setCell ⟨g,i * 2,none⟩ (.string s)) rp cap a bs g c (ms.set i ⟨s,(atM ms i).t⟩) q:=by
 have hr:=h.row.setN hi s
 have e:(ms.set i (⟨s,(atM ms i).t⟩:zI)).length = ms.length:=List.length_set
 refine h.turned ?_ (zm wr g _ _)
 rw [e]
 exact hr
theorem SpS.cells {w0 wr:World} {rp cap:Nat} {a:Option Addr} {bs:List UInt8} {g c:Nat} {ms:List zI} {q i:Nat} (h:SpS w0 wr rp cap a bs g c ms q) (hi:i < ms.length):wr.cell? ⟨g,i * 2,none⟩ = some (.string (atM ms i).n) /\ wr.cell? ⟨g,i * 2 + 1,none⟩ = some (.string (atM ms i).t) /\ wr.frozen? ⟨g,i * 2,none⟩ = false /\ wr.frozen? ⟨g,i * 2 + 1,none⟩ = false:=by
 obtain ⟨c0,c1⟩:=h.row.ops i hi
 simp only [Nat.zero_add] at c0 c1
 exact ⟨c0,c1,World.ownsRow.frozenAt h.row _,World.ownsRow.frozenAt h.row _⟩
def zAO (w0:World) (rp cap:Nat) (a:Option Addr) (bs:List UInt8) (D:List zI -> Prop) (e:Ending) (w':World):Prop:=
 ∃ (g c q:Nat) (ms:List zI),e = .returned (.slice (some ⟨g,0,none⟩) ms.length c) /\ 1 <= ms.length /\ ms.length <= 110 /\ Hid (MsZ 100 3000000000000 ms) /\ Hid (D ms) /\ Hid (SpS w0 w' rp cap a bs g c ms q)
theorem zDH {w0 W:World} {rp cap:Nat} {a:Option Addr} {bs:List UInt8} {g c:Nat} {ms:List zI} {q i:Nat} {D:List zI -> Prop} {t:ByteArray} (h:SpS w0 W rp cap a bs g c ms q) (hi:i < ms.length) (hz:MsZ 3 2000000000000 ms) (h4:ms.length <= 4) (ht:t.size <= 3000000000000) (hD:D (ms.set i ⟨(atM ms i).n,t⟩)) :
  zAO w0 rp cap a bs D (.returned (.slice (some ⟨g,0,none⟩) ms.length c)) (W.setCell ⟨g,i * 2 + 1,none⟩ (.string t)):=by
 have e:(ms.set i (⟨(atM ms i).n,t⟩:zI)).length = ms.length:=List.length_set
 refine ⟨g,c,q,ms.set i ⟨(atM ms i).n,t⟩,by rw [e],by omega,by omega,zB ((hz.mono (by decide) (by decide)).set hi ?_ ht),zB hD,zB (h.setT hi t)⟩
 have:=(hz i).1
 show (atM ms i).n.size <= 100
 omega
theorem zK3 {w0 W:World} {rp cap:Nat} {a:Option Addr} {bs:List UInt8} {g c:Nat} {ms:List zI} {q i:Nat} {D:List zI -> Prop} {t:ByteArray} (h:SpS w0 W rp cap a bs g c ms q) (hi:i < ms.length) (hz:MsZ 3 2000000000000 ms) (h4:ms.length <= 4) (ht:t.size <= 100) (hD:D (ms.set i ⟨t,(atM ms i).t⟩)) :
  zAO w0 rp cap a bs D (.returned (.slice (some ⟨g,0,none⟩) ms.length c)) (W.setCell ⟨g,i * 2,none⟩ (.string t)):=by
 have e:(ms.set i (⟨t,(atM ms i).t⟩:zI)).length = ms.length:=List.length_set
 refine ⟨g,c,q,ms.set i ⟨t,(atM ms i).t⟩,by rw [e],by omega,by omega,zB ((hz.mono (by decide) (by decide)).set hi ht ?_),zB hD,zB (h.setN hi t)⟩
 have:=(hz i).2
 show (atM ms i).t.size <= 3000000000000
 omega
theorem zIC {w0 W:World} {rp cap:Nat} {a:Option Addr} {bs:List UInt8} {g c:Nat} {ms:List zI} {q:Nat} {D:List zI -> Prop} (h:SpS w0 W rp cap a bs g c ms q) (h1:1 <= ms.length) (h4:ms.length <= 110) (hz:MsZ 100 3000000000000 ms) (hD:D ms) :
  zAO w0 rp cap a bs D (.returned (.slice (some ⟨g,0,none⟩) ms.length c)) W:=⟨g,c,q,ms,rfl,h1,h4,zB hz,zB hD,zB h⟩
theorem SpS.app {w0 W w6:World} {rp cap:Nat} {a:Option Addr} {bs:List UInt8} {g c:Nat} {ms vs:List zI} {q:Nat} {v6:Value} (h:SpS w0 W rp cap a bs g c ms q) (h1:1 <= vs.length)
  (hown:w6.ownsRow w0.heap.size 39 2 v6 (ms.length + vs.length) (zU ms ++ zU vs)) (hgr:W.grownBy w6 (some g)) :
  ∃ g6 c6 ms6,ms6 = ms ++ vs /\ v6 = .slice (some ⟨g6,0,none⟩) ms6.length c6 /\ SpS w0 w6 rp cap a bs g6 c6 ms6 q:=by
 have hr:ZG w6 w0.heap.size v6 (ms ++ vs):=by
  unfold ZG
  rw [zBE,List.length_append]
  exact hown
 obtain ⟨g6,c6,rfl⟩:=hr.has (by simp; omega)
 exact ⟨g6,c6,ms ++ vs,rfl,rfl,h.turned hr hgr⟩
theorem zM7 (rp cap p g c:Nat) (a:Option Addr) (bs:List UInt8) (ms:List zI) (w0 w:World) (h:SpS w0 w rp cap a bs g c ms p) (hl:bs.length <= 1200) (hm1:1 <= ms.length) (hm4:ms.length <= 4) (hz:MsZ 3 2000000000000 ms) (hcd:nxt bs p % 16 ≠ 8 /\ nxt bs p % 16 ≠ 15 /\ nxt bs p % 8 = 0) :
  Calls Tryz.prog 21 #[.pointer (some ⟨rp,0,none⟩),.slice (some ⟨g,0,none⟩) ms.length c] w (zAO w0 rp cap a bs (fun ms'=>ms' = zAt bs p ms)):=by
 have H:=zB h
 have HMZ:=zB hz
 clear h hz
 go_enter Tryz.func21,Tryz.ntmps21
 go_wp2_with fail
 (with_reducible refine (zL rp cap p a bs _ (zA H).rd hl).mono ?_)
 rintro e w1 ⟨⟨k,rfl,hk,HK⟩,H1,HP1⟩
 have HS1:=zB ((zA H).read (zA HP1) (zA H1))
 clear H H1 HP1
 go_wp2_with fail
 (with_reducible refine (zL rp cap (adv bs p) a bs _ (zA HS1).rd hl).mono ?_)
 rintro e w2 ⟨⟨ik,rfl,hik,HIK⟩,H2,HP2⟩
 have HS2:=zB ((zA HS1).read (zA HP2) (zA H2))
 clear HS1 H2 HP2
 obtain ⟨i,HI⟩:∃ i,Hid (i = ik % ms.length):=⟨_,zB rfl⟩
 have hi:i < ms.length:=by rw [zA HI]; exact Nat.mod_lt _ (by omega)
 have hiI:(i:Int) < (ms.length:Int):=by omega
 have hm0:((ms.length:Int) == 0) = false:=beq_eq_false_iff_ne.2 (by omega)
 have tmi:(ik:Int).tmod (ms.length:Int) = (i:Int):=by rw [Int.tmod_eq_emod_of_nonneg (by omega),zA HI]; simp
 have tmj:(ik:Int) % (ms.length:Int) = (i:Int):=by rw [zA HI]; simp
 go_wp2_with fail
 (with_reducible refine (zL rp cap (adv bs (adv bs p)) a bs _ (zA HS2).rd hl).mono ?_)
 rintro e w3 ⟨⟨v,rfl,hv,HV⟩,H3,HP3⟩
 have HS3:=zB ((zA HS2).read (zA HP3) (zA H3))
 clear HS2 H3 HP3 tmi tmj hm0
 have HCD:=zB hcd
 rw [<- zA HK] at hcd
 have t0:((k:Int) % 16 == 8) = false:=by simp; omega
 have t1:((k:Int) % 16 == 15) = false:=by simp; omega
 have t2:((k:Int) % 8 == 0) = true:=by simp; omega
 obtain ⟨c0,c1,f0,f1⟩:=(zA HS3).cells hi
 obtain ⟨nm,hnm⟩:∃ nm,nm = (atM ms i).n:=⟨_,rfl⟩
 obtain ⟨tx,htx⟩:∃ tx,tx = (atM ms i).t:=⟨_,rfl⟩
 have hzi:=(zA HMZ) i
 rw [<- hnm,<- htx] at hzi
 obtain ⟨hzn,hzt⟩:=hzi
 rw [<- hnm] at c0
 rw [<- htx] at c1
 have HNM:=zB (And.intro hnm htx)
 clear hnm htx
 clear hcd
 obtain ⟨m,hm,hm5⟩:∃ m:Nat,m = v % 5 /\ m <= 4:=⟨_,rfl,by omega⟩
 have tmv:(v:Int) % 5 = (m:Int):=by omega
 have i1:(0:Int) <= (m:Int):=by omega
 have i2:(m:Int) <= 4:=by omega
 have HMm:=zB hm
 clear hm
 go_wp2_with fail
 go_ret
 refine zK3 (zA HS3) hi (zA HMZ) hm4 ?_ ?_
 ·rw [ByteArray.size_extract]
  have:(⟨#[109,95,49,32]⟩:ByteArray).size = 4:=rfl
  omega
 ·have hc:=zA HCD
  unfold zAt
  rw [if_neg (by omega),if_neg (by omega),if_pos (by omega),<- zA HIK,<- zA HI,<- zA HV,<- zA HMm]
theorem zOP (rp cap p g c:Nat) (a:Option Addr) (bs:List UInt8) (ms:List zI) (w0 w:World) (h:SpS w0 w rp cap a bs g c ms p) (hl:bs.length <= 1200) (hm1:1 <= ms.length) (hm4:ms.length <= 4) (hz:MsZ 3 2000000000000 ms) (hcd:nxt bs p % 16 ≠ 8 /\ nxt bs p % 16 ≠ 15 /\ nxt bs p % 8 ≠ 0 /\ nxt bs p % 8 = 1) :
  Calls Tryz.prog 21 #[.pointer (some ⟨rp,0,none⟩),.slice (some ⟨g,0,none⟩) ms.length c] w (zAO w0 rp cap a bs (fun ms'=>ms' = zAt bs p ms)):=by
 have H:=zB h
 have HMZ:=zB hz
 clear h hz
 go_enter Tryz.func21,Tryz.ntmps21
 go_wp2_with fail
 (with_reducible refine (zL rp cap p a bs _ (zA H).rd hl).mono ?_)
 rintro e w1 ⟨⟨k,rfl,hk,HK⟩,H1,HP1⟩
 have HS1:=zB ((zA H).read (zA HP1) (zA H1))
 clear H H1 HP1
 go_wp2_with fail
 (with_reducible refine (zL rp cap (adv bs p) a bs _ (zA HS1).rd hl).mono ?_)
 rintro e w2 ⟨⟨ik,rfl,hik,HIK⟩,H2,HP2⟩
 have HS2:=zB ((zA HS1).read (zA HP2) (zA H2))
 clear HS1 H2 HP2
 obtain ⟨i,HI⟩:∃ i,Hid (i = ik % ms.length):=⟨_,zB rfl⟩
 have hi:i < ms.length:=by rw [zA HI]; exact Nat.mod_lt _ (by omega)
 have hiI:(i:Int) < (ms.length:Int):=by omega
 have hm0:((ms.length:Int) == 0) = false:=beq_eq_false_iff_ne.2 (by omega)
 have tmi:(ik:Int).tmod (ms.length:Int) = (i:Int):=by rw [Int.tmod_eq_emod_of_nonneg (by omega),zA HI]; simp
 have tmj:(ik:Int) % (ms.length:Int) = (i:Int):=by rw [zA HI]; simp
 go_wp2_with fail
 (with_reducible refine (zL rp cap (adv bs (adv bs p)) a bs _ (zA HS2).rd hl).mono ?_)
 rintro e w3 ⟨⟨v,rfl,hv,HV⟩,H3,HP3⟩
 have HS3:=zB ((zA HS2).read (zA HP3) (zA H3))
 clear HS2 H3 HP3 tmi tmj hm0
 have HCD:=zB hcd
 rw [<- zA HK] at hcd
 have t0:((k:Int) % 16 == 8) = false:=by simp; omega
 have t1:((k:Int) % 16 == 15) = false:=by simp; omega
 have t2:((k:Int) % 8 == 0) = false:=by simp; omega
 have t3:((k:Int) % 8 == 1) = true:=by simp; omega
 obtain ⟨c0,c1,f0,f1⟩:=(zA HS3).cells hi
 obtain ⟨nm,hnm⟩:∃ nm,nm = (atM ms i).n:=⟨_,rfl⟩
 obtain ⟨tx,htx⟩:∃ tx,tx = (atM ms i).t:=⟨_,rfl⟩
 have hzi:=(zA HMZ) i
 rw [<- hnm,<- htx] at hzi
 obtain ⟨hzn,hzt⟩:=hzi
 rw [<- hnm] at c0
 rw [<- htx] at c1
 have HNM:=zB (And.intro hnm htx)
 clear hnm htx
 clear hcd
 have HX:=zB (fun W=>zGL v W (by omega))
 have hnz:=zFa v
 obtain ⟨nv,hnv⟩:∃ nv,nv = zCf v:=⟨_,rfl⟩
 rw [<- hnv] at HX hnz
 have HNV:=zB hnv
 have hz1:(zCb ++ nv).size <= 7:=by rw [zK]; show 4 + nv.size <= 7; omega
 have hz2:(zCb ++ nv ++ nlB).size <= 8:=by rw [zK]; show _ + 1 <= 8; omega
 clear hnv
 go_upto_region 18 with fail
 go_region_with (first
  | (go_at_call 31; (with_reducible refine ((zA HX) w3.drew).mono ?_); rintro e w5 ⟨rfl,hb5⟩; have HS5:=zB ((zA HS3).below ((Below.refl _ _).drew.trans (hb5.mono (Nat.le_refl _)))); have c1':=(hb5.cell (p:=⟨g,i * 2 + 1,none⟩) (zA HS3).gB.2).trans c1; have f1':=(hb5.frozen (p:=⟨g,i * 2 + 1,none⟩) (zA HS3).gB.2).trans f1; clear hb5))
 all_goals
  go_wp2_with fail
  go_ret
  refine zDH (zA HS5) hi (zA HMZ) hm4 ?_ ?_
  ·rw [zK]; show (zCb ++ nv ++ nlB).size + tx.size <= _; omega
  ·have hc:=zA HCD
   unfold zAt
   rw [if_neg (by omega),if_neg (by omega),if_neg (by omega),if_pos (by omega),<- zA HIK,<- zA HI,<- zA HV,<- zA HNV,<- (zA HNM).2]
   rfl
theorem zGU (rp cap p:Nat) (a:Option Addr) (bs:List UInt8) (w:World) (h:RdF w rp a cap bs p) (hl:bs.length <= 1200) :
  Calls Tryz.prog 38 #[.pointer (some ⟨rp,0,none⟩),.agg #[.slice none 0 0]] w fun e w'=>(∃ s:ByteArray,e = .returned (.string s) /\ Hid (s = zAU [] bs p)) /\ Hid (RdF w' rp a cap bs (zA3 [] bs p)) /\ Hid (zF w w' rp):=by
 have hrpw:=h.lt
 have H:=zB h
 clear h
 go_enter Tryz.func38,Tryz.ntmps38
 go_wp2_with fail
 refine (zL rp cap p a bs _ ((zA H).below (zC _ _)) hl).mono ?_
 rintro e w1 ⟨⟨k,rfl,hk,HK⟩,H1,HP1⟩
 have HW:=zB (show zF w w1 rp from (zF.of_below (zC _ _)).trans (zA HP1))
 have z1:w.heap.size + 1 <= w1.heap.size:=by have:=(zA HP1).size; simpa using this
 have b0:w1.cell? ⟨w.heap.size,0,none⟩ = some (.slice none 0 0):=((zA HP1).cell (b:=w.heap.size) (by simp) (by omega) 0).trans (by simp [go_sem])
 clear H HP1
 have hA:¬ (k % 8 < 4 /\ 0 < ([]:List OpR).length):=fun h=>absurd h.2 (by simp)
 by_cases h4:k % 8 = 4
 ·have HC:=zB h4
  have e0:¬ (k:Int) % 8 < 4:=by omega
  have e1:((k:Int) % 8 == 4) = true:=by simp; omega
  have HN:=zB (show (⟨#[40]⟩:ByteArray) = zAU [] bs p by simp [zAU,<- zA HK,zA HC])
  have HP:=zB (show zA3 [] bs p = adv bs p by simp [zA3,<- zA HK,zA HC])
  clear h4 hA
  go_wp2_with fail
  go_ret
  rw [zA HP]
  exact ⟨⟨_,rfl,HN⟩,H1,HW⟩
 by_cases h5:k % 8 = 5
 ·have HC:=zB h5
  have e0:¬ (k:Int) % 8 < 4:=by omega
  have e1:((k:Int) % 8 == 4) = false:=by simp; omega
  have e2:((k:Int) % 8 == 5) = true:=by simp; omega
  have HN:=zB (show (⟨#[41]⟩:ByteArray) = zAU [] bs p by simp [zAU,<- zA HK,zA HC])
  have HP:=zB (show zA3 [] bs p = adv bs p by simp [zA3,<- zA HK,zA HC])
  clear h4 h5 hA
  go_wp2_with fail
  go_ret
  rw [zA HP]
  exact ⟨⟨_,rfl,HN⟩,H1,HW⟩
 by_cases h6:k % 8 = 6
 ·have HC:=zB h6
  have e0:¬ (k:Int) % 8 < 4:=by omega
  have e1:((k:Int) % 8 == 4) = false:=by simp; omega
  have e2:((k:Int) % 8 == 5) = false:=by simp; omega
  have e3:((k:Int) % 8 == 6) = true:=by simp; omega
  have e4:1 + (k:Int) / 8 % 4 <= 4:=by omega
  have e5:(0:Int) <= 1 + (k:Int) / 8 % 4:=by omega
  have HN:=zB (show (⟨#[97,49,95,98]⟩:ByteArray).extract 0 (1 + k / 8 % 4) = zAU [] bs p by simp [zAU,<- zA HK,zA HC])
  have HP:=zB (show zA3 [] bs p = adv bs p by simp [zA3,<- zA HK,zA HC])
  clear h4 h5 h6 hA
  go_wp2_with fail
  go_ret
  rw [zA HP]
  exact ⟨⟨_,rfl,HN⟩,H1,HW⟩
 have h7:(k % 8 < 4 /\ ([]:List OpR).length = 0) \/ k % 8 = 7:=by omega
 have HC:=zB (show ¬ (k % 8 < 4 /\ 0 < ([]:List OpR).length) /\ ¬ k % 8 = 4 /\ ¬ k % 8 = 5 /\ ¬ k % 8 = 6 from ⟨hA,h4,h5,h6⟩)
 have e1:((k:Int) % 8 == 4) = false:=by simp; omega
 have e2:((k:Int) % 8 == 5) = false:=by simp; omega
 have e3:((k:Int) % 8 == 6) = false:=by simp; omega
 clear h4 h5 h6 hA
 rcases h7 with ⟨h7,h8⟩ | h7
 ·have e0:(k:Int) % 8 < 4:=by omega
  clear h7 h8
  by_cases hb:240 <= k
  ·have HB:=zB hb
   have e5:(240:Int) <= (k:Int):=by omega
   have HN:=zB (show txN k = zAU [] bs p by simp [zAU,<- zA HK,zA HC,zA HB])
   have HP:=zB (show zA3 [] bs p = adv bs p by simp [zA3,<- zA HK,zA HC,zA HB])
   clear hb
   go_wp2_with (go_at_call 47; refine (zAD _ _ (by omega)).mono ?_; rintro e w3 ⟨rfl,hx⟩; obtain rfl:=hx.symm)
   go_ret
   rw [zA HP]
   exact ⟨⟨_,rfl,HN⟩,H1,HW⟩
  by_cases hd:224 <= k
  ·have HD:=zB (And.intro hb hd)
   have e5:¬ (240:Int) <= (k:Int):=by omega
   have e6:(224:Int) <= (k:Int):=by omega
   have HN:=zB (show (⟨#[(nxt bs (adv bs p)).toUInt8]⟩:ByteArray) = zAU [] bs p by simp [zAU,<- zA HK,zA HC,zA HD])
   have HP:=zB (show zA3 [] bs p = adv bs (adv bs p) by simp [zA3,<- zA HK,zA HC,zA HD])
   clear hb hd
   go_wp2_with fail
   refine (zL rp cap _ a bs _ (zA H1) hl).mono ?_
   rintro e w2 ⟨⟨v,rfl,hv,HV⟩,H2,HP2⟩
   have HW2:=zB ((zA HW).trans (zA HP2))
   clear H1 HP2 b0
   have hcv:=fun W c=>zMF W c
   go_wp2_with fail
   go_ret
   rw [zA HP]
   refine ⟨⟨_,rfl,zB ?_⟩,zB ((zA H2).below (zC _ _)),zB ((zA HW2).belowN (zC _ _))⟩
   rw [<- zA HN,<- zA HV]
  ·have HD:=zB (And.intro hb hd)
   have e5:¬ (240:Int) <= (k:Int):=by omega
   have e6:¬ (224:Int) <= (k:Int):=by omega
   have e7:(k:Int) / 8 % 4 <= 4:=by omega
   have e8:(0:Int) <= (k:Int) / 8 % 4:=by omega
   have HN:=zB (show (⟨#[49,48,50,55]⟩:ByteArray).extract (k / 8 % 4) 4 = zAU [] bs p by simp [zAU,<- zA HK,zA HC,zA HD])
   have HP:=zB (show zA3 [] bs p = adv bs p by simp [zA3,<- zA HK,zA HC,zA HD])
   clear hb hd
   go_wp2_with fail
   go_ret
   rw [zA HP]
   exact ⟨⟨_,rfl,HN⟩,H1,HW⟩
 ·have e0:¬ (k:Int) % 8 < 4:=by omega
  clear h7
  by_cases hb:240 <= k
  ·have HB:=zB hb
   have e5:(240:Int) <= (k:Int):=by omega
   have HN:=zB (show txN k = zAU [] bs p by simp [zAU,<- zA HK,zA HC,zA HB])
   have HP:=zB (show zA3 [] bs p = adv bs p by simp [zA3,<- zA HK,zA HC,zA HB])
   clear hb
   go_wp2_with (go_at_call 47; refine (zAD _ _ (by omega)).mono ?_; rintro e w3 ⟨rfl,hx⟩; obtain rfl:=hx.symm)
   go_ret
   rw [zA HP]
   exact ⟨⟨_,rfl,HN⟩,H1,HW⟩
  by_cases hd:224 <= k
  ·have HD:=zB (And.intro hb hd)
   have e5:¬ (240:Int) <= (k:Int):=by omega
   have e6:(224:Int) <= (k:Int):=by omega
   have HN:=zB (show (⟨#[(nxt bs (adv bs p)).toUInt8]⟩:ByteArray) = zAU [] bs p by simp [zAU,<- zA HK,zA HC,zA HD])
   have HP:=zB (show zA3 [] bs p = adv bs (adv bs p) by simp [zA3,<- zA HK,zA HC,zA HD])
   clear hb hd
   go_wp2_with fail
   refine (zL rp cap _ a bs _ (zA H1) hl).mono ?_
   rintro e w2 ⟨⟨v,rfl,hv,HV⟩,H2,HP2⟩
   have HW2:=zB ((zA HW).trans (zA HP2))
   clear H1 HP2 b0
   have hcv:=fun W c=>zMF W c
   go_wp2_with fail
   go_ret
   rw [zA HP]
   refine ⟨⟨_,rfl,zB ?_⟩,zB ((zA H2).below (zC _ _)),zB ((zA HW2).belowN (zC _ _))⟩
   rw [<- zA HN,<- zA HV]
  ·have HD:=zB (And.intro hb hd)
   have e5:¬ (240:Int) <= (k:Int):=by omega
   have e6:¬ (224:Int) <= (k:Int):=by omega
   have e7:(k:Int) / 8 % 4 <= 4:=by omega
   have e8:(0:Int) <= (k:Int) / 8 % 4:=by omega
   have HN:=zB (show (⟨#[49,48,50,55]⟩:ByteArray).extract (k / 8 % 4) 4 = zAU [] bs p by simp [zAU,<- zA HK,zA HC,zA HD])
   have HP:=zB (show zA3 [] bs p = adv bs p by simp [zA3,<- zA HK,zA HC,zA HD])
   clear hb hd
   go_wp2_with fail
   go_ret
   rw [zA HP]
   exact ⟨⟨_,rfl,HN⟩,H1,HW⟩
theorem zKM (bs:List UInt8) (p:Nat):(zAU [] bs p).size <= 4:=by
 have a1:(⟨#[97,49,95,98]⟩:ByteArray).size = 4:=rfl
 have a2:(⟨#[49,48,50,55]⟩:ByteArray).size = 4:=rfl
 have a3:=zFh (nxt bs p)
 unfold zAU
 rw [if_neg (fun h=>absurd h.2 (by simp))]
 repeat' split
 ·decide
 ·decide
 ·rw [ByteArray.size_extract]; omega
 ·omega
 ·show 1 <= 4; omega
 ·rw [ByteArray.size_extract]; omega
end Go.Proofs.YtgiemobdmbijiaaGreatDoor
