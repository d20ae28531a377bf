import Derived.Test.YtgbkgkdpdfdokaaGreatDoorQ19
namespace Go.Proofs.YtgbkgkdpdfdokaaGreatDoor
set_option linter.all false
set_option maxHeartbeats 16000000
set_option maxRecDepth 100000
open Go.RowKit
variable {W w0 wr:World} {a:Option Addr} {bs:List UInt8} {c cap g q rp:Nat} {ms:List zF}
def zQQ (c:UInt8) (n:Nat):ByteArray:=⟨(List.replicate n c).toArray⟩
def nlB:ByteArray:=⟨#[10]⟩
def bg1:ByteArray:=⟨#[98,101,103,105,110,10,49]⟩
def mdX:zF:=⟨⟨#[120,49]⟩,⟨#[117,115,101,32,121,49,10,98,101,103,105,110,10,49]⟩⟩
def mdL (v:Nat):ByteArray:=if v%2=1 then ⟨#[121,50]⟩ else ⟨#[121,49]⟩
def mdY (v:Nat):zF:=⟨⟨#[121,49]⟩,zF1++mdL v++⟨#[10,98,101,103,105,110,10,49]⟩⟩
def mdZ:zF:=⟨⟨#[121,50]⟩,⟨#[117,115,101,32,121,49,10,98,101,103,105,110,10,49]⟩⟩
def zFx (n:Nat):Nat->List zF->List zF
 | 0,ms=>ms
 | f+1,ms=>if ms.length<n then zFx n f (ms++[⟨⟨#[122]⟩++zBr 7 ms.length,bg1⟩]) else ms
def zBE (bs:List UInt8) (p:Nat) (ms:List zF):List zF:=
 if nxt bs p%16=8 then ms.set (ms.length-1) ⟨zQQ 109 (63+nxt bs (adv bs (adv bs p))%3),(atM ms (ms.length-1)).t⟩
 else if nxt bs p%16=15 then [mdX]++ms++[mdY (nxt bs (adv bs (adv bs p))),mdZ]
 else if nxt bs p%8=0 then ms.set (nxt bs (adv bs p)%ms.length) ⟨(⟨#[109,95,49,32]⟩:JZ).extract 0 (nxt bs (adv bs (adv bs p))%5),(atM ms (nxt bs (adv bs p)%ms.length)).t⟩
 else if nxt bs p%8=1 then ms.set (nxt bs (adv bs p)%ms.length) ⟨(atM ms (nxt bs (adv bs p)%ms.length)).n,zF1++zDE (nxt bs (adv bs (adv bs p)))++nlB++(atM ms (nxt bs (adv bs p)%ms.length)).t⟩
 else if nxt bs p%8=2 then ms.set (nxt bs (adv bs p)%ms.length) ⟨(atM ms (nxt bs (adv bs p)%ms.length)).n,zF1++(atM ms (ms.length-1)).n++nlB++(atM ms (nxt bs (adv bs p)%ms.length)).t⟩
 else if nxt bs p%8=3 then ms.set (nxt bs (adv bs p)%ms.length) ⟨(atM ms (nxt bs (adv bs p)%ms.length)).n,zBG (dW (zBD (nxt bs (adv bs (adv bs (adv bs p)))) (nxt bs (adv bs (adv bs (adv bs (adv bs p))))) (decide (nxt bs (adv bs (adv bs p))%2=0))))++nlB++(atM ms (nxt bs (adv bs p)%ms.length)).t⟩
 else if nxt bs p%8=4/\0<(atM ms (nxt bs (adv bs p)%ms.length)).t.size then
  ms.set (nxt bs (adv bs p)%ms.length) ⟨(atM ms (nxt bs (adv bs p)%ms.length)).n,(atM ms (nxt bs (adv bs p)%ms.length)).t.extract 0 ((nxt bs (adv bs (adv bs p))*256+nxt bs (adv bs (adv bs (adv bs p))))%(atM ms (nxt bs (adv bs p)%ms.length)).t.size)++(atM ms (nxt bs (adv bs p)%ms.length)).t.extract ((nxt bs (adv bs (adv bs p))*256+nxt bs (adv bs (adv bs (adv bs p))))%(atM ms (nxt bs (adv bs p)%ms.length)).t.size+1) (atM ms (nxt bs (adv bs p)%ms.length)).t.size⟩
 else if nxt bs p%8=5 then ms.set (nxt bs (adv bs p)%ms.length) ⟨(atM ms (nxt bs (adv bs p)%ms.length)).n,(atM ms (nxt bs (adv bs p)%ms.length)).t++zAp [] bs (adv bs (adv bs (adv bs p)))⟩
 else if nxt bs p%16=6 then zFx (100+nxt bs (adv bs (adv bs p))%2) 101 ms
 else if nxt bs p%16=14 then ms.set (nxt bs (adv bs p)%ms.length) ⟨(atM ms (nxt bs (adv bs p)%ms.length)).n,(atM ms (nxt bs (adv bs p)%ms.length)).t++zQQ 32 (20000+nxt bs (adv bs (adv bs p))%2-(atM ms (nxt bs (adv bs p)%ms.length)).t.size)⟩
 else ms++[atM ms (nxt bs (adv bs p)%ms.length)]
def swp:List zF->List zF
 | m::k::r=>k::m::swp r
 | l=>l
def zKf (bs:List UInt8) (p:Nat) (ms:List zF):Prop:=
 ∃ ms0 q,zM0 bs (adv bs p) ms0 q/\((nxt bs p%4=3/\ms=zBE bs (1+nxt bs p%7) ms0)\/(nxt bs p%8=4/\ms=swp ms0)\/(nxt bs p%4≠3/\nxt bs p%8≠4/\ms=ms0))
def zFZ (w:JY) (B:Nat) (v:Value) (l:List UInt8):Prop:=
 ∃ g cap,v = .slice (some ⟨g,0,none⟩) l.length cap/\B<=g/\g<w.heap.size/\l.length<=cap/\cap<=maxLen/\(∀ j,j<cap->(w.cell? ⟨g,j,none⟩).isSome=true/\w.frozen? ⟨g,j,none⟩=false)/\∀ j u,(cellsB l)[j]?=some u->w.cell? ⟨g,j,none⟩=some u
theorem zFZ.below {w w':JY} {B:Nat} {v:Value} {l:List UInt8} (h:zFZ w B v l) (hb:Below w.heap.size w w'):zFZ w' B v l:=by
 obtain ⟨g,cap,rfl,h1,h2,h3,h4,h5,h6⟩:=h
 refine ⟨g,cap,rfl,h1,yi h2 hb.size,h3,h4,fun j hj=>?_,fun j u hj=>(hb.cell (p:=⟨g,j,none⟩) h2).trans (h6 j u hj)⟩
 have c:=hb.cell (p:=⟨g,j,none⟩) h2
 have f:=hb.frozen (p:=⟨g,j,none⟩) h2
 exact ⟨by rw [c]; exact (h5 j hj).1,by rw [f]; exact (h5 j hj).2⟩
theorem zOt (W:JY) (s:JZ) (hs:s.size<=10000000000000):∃ (v:Value) (W':JY),(convert 9 22 (.string s)).run Tryz.prog W = .ok v W'/\zFZ W' W.heap.size v s.data.toList/\Below W.heap.size W W':=by
 have hr:=run_bytes_of_string (P:=Tryz.prog) W 9 22 5 s Tryz.underlying9 Tryz.underlying22 Tryz.underlying5
 have k:s.data.toList.length=s.size:=by simp
 have q:=grownCap_ge W s.size 0 5
 have h:=heap_alloc_new W.drew (.cells (bytesRow s (grownCap W s.size 0 5)) 5 ((bytesRow s (grownCap W s.size 0 5)).size,(bytesRow s (grownCap W s.size 0 5)).size+1))
 have H:(bytesRow s (grownCap W s.size 0 5)).size=grownCap W s.size 0 5:=by
  unfold bytesRow
  simp
  have:s.data.size=s.size:=rfl
  omega
 refine ⟨_,_,hr,⟨W.heap.size,grownCap W s.size 0 5,by rw [k],yh _,by simp,by rw [k]; exact q,grownCap_le_maxLen W s.size 0 5 (by unfold maxLen; omega),fun j hj=>⟨?_,?_⟩,fun j u hj=>?_⟩,(yG _ _).drew.alloc (yh _) _⟩
 ·rw [cell_of_row _ W.heap.size j _ 5 _ h]
  simp [H,hj]
 ·have hn:(W.drew.alloc (.cells (bytesRow s (grownCap W s.size 0 5)) 5 ((bytesRow s (grownCap W s.size 0 5)).size,(bytesRow s (grownCap W s.size 0 5)).size+1))).heap[W.heap.size]?=_:=h
  unfold World.frozen?
  simp only [hn]
  rw [H]
  simp
  omega
 ·rw [cell_of_row _ W.heap.size j _ 5 _ h]
  have K:j<s.data.size:=by
   have:=(yX.1 hj).1
   rw [ZR] at this
   simpa using this
  rw [bytesRow_at s _ j K]
  simp [cellsB] at hj
  obtain ⟨x,hx,rfl⟩:=hj
  rw [Array.getElem?_eq_getElem K] at hx
  injection hx with hx
  subst hx
  rfl
theorem zOu (w:JY) (ty:TypeId) (B:Nat) (v:Value) (l:List UInt8) (b:UInt8) (h:zFZ w B v l) (hB:B<=w.heap.size) (ad:Addr) (hx:w.cell? (ad.add 0)=some (.int .u8 (b.toNat:Int))) (hl:l.length<=1000000) :
  ∃ v' w',(Builtin.append_ #[22,22] ty #[v,.slice (some ad) 1 1]).run Tryz.prog w = .ok v' w'/\zFZ w' B v' (l++[b])/\Below B w w':=by
 obtain ⟨g,cap,rfl,h1,h2,h3,h4,h5,h6⟩:=h
 obtain ⟨i,hi,hz⟩:=Option.map_eq_some_iff.1 zJ0
 simp only [Prod.mk.injEq] at hz
 obtain ⟨V,q,J⟩:=hz
 have K:∀ j u,([.int .u8 (b.toNat:Int)]:List Value)[j]?=some u->w.cell? (ad.add j)=some u:=fun j u hj=>by
  match j,hj with
  | 0,hj=>simp at hj; subst hj; exact hx
 have Q:(l++[b]).length=l.length+1:=by simp
 by_cases k:l.length+1<=cap
 ·have hf:=run_firstCells_some (P:=Tryz.prog) w i.size 1 ad 1 1 [.int .u8 (b.toNat:Int)] (by rw [q]; rfl) K
  obtain ⟨c1,c2⟩:=h5 l.length (by omega)
  obtain ⟨u0,y⟩:=Option.isSome_iff_exists.1 c1
  have Y:(⟨g,l.length,none⟩:Addr).add 0=⟨g,l.length,none⟩:=by unfold Addr.add; split <;> simp_all
  have a:(storeCells ⟨g,l.length,none⟩ [.int .u8 (b.toNat:Int)] 0).run Tryz.prog w = .ok () (w.setCell ⟨g,l.length,none⟩ (.int .u8 (b.toNat:Int))):=by
   simp only [storeCells,Sem.run_bind]
   rw [Y,run_store Tryz.prog w _ _ _ rfl,y]
   simp [c2]
  refine ⟨.slice (some ⟨g,0,none⟩) (l.length+1) cap,w.setCell ⟨g,l.length,none⟩ (.int .u8 (b.toNat:Int)),?_,?_,(yG _ _).setCell (by simpa using h1) _⟩
  ·rw [q] at hf
   simp [Builtin.append_,run_underlying Tryz.underlying22,sizeOf,typeInfo,hi,q,Builtin.lenOf,k,hf,Addr.add_lit,a]
  ·refine ⟨g,cap,by rw [Q],h1,by simpa [World.setCell] using h2,by rw [Q]; exact k,h4,fun j hj=>?_,fun j u hj=>?_⟩
   ·refine ⟨?_,(yq _ _ _ _).trans (h5 j hj).2⟩
    by_cases e:j=l.length
    ·subst e; rw [yo _ _ _ y]; rfl
    ·rw [yg _ _ _ _ (fun x=>e (by injection x with _ x; exact x.symm))]; exact (h5 j hj).1
   ·rw [zBW] at hj
    by_cases e:j=l.length
    ·subst e
     rw [yo _ _ _ y]
     rw [List.getElem?_append_right (by rw [ZR]; exact yh _),ZR,Nat.sub_self] at hj
     simpa [cellsB] using hj
    ·rw [yg _ _ _ _ (fun x=>e (by injection x with _ x; exact x.symm))]
     apply h6
     have U:j<l.length+1:=by
      have:=(yX.1 hj).1
      simpa [ZR] using this
     rw [yB (by rw [ZR]; omega)] at hj
     exact hj
 ·have X:∀ j u,(cellsB l)[j]?=some u->w.cell? ((⟨g,0,none⟩:Addr).add j)=some u:=fun j u hj=>by
   rw [Addr.add_mid,yV]; exact h6 j u hj
  have hr:=run_append_grow (P:=Tryz.prog) w 22 ty 5 i _ Tryz.underlying22 hi V ⟨g,0,none⟩ l.length cap (cellsB l) (by rw [ZR,q,Nat.mul_one]) X ad 1 1 [.int .u8 (b.toNat:Int)] (by rw [q]; rfl) K (by omega) (by omega) (growslice_fits (by omega) (by rw [J]; omega))
  have p:=grownCap_ge w (l.length+1) cap 5
  have H:=heap_alloc_new w.drew (.cells ((cellsB l).toArray++[Value.int .u8 (b.toNat:Int)].toArray++Builtin.zeroCells (Value.int .u8 0).cells (grownCap w (l.length+1) cap 5-(l.length+1))) 5)
  refine ⟨_,_,hr,⟨w.heap.size,grownCap w (l.length+1) cap 5,by rw [Q],hB,by simp,by rw [Q]; exact p,grownCap_le_maxLen w (l.length+1) cap 5 (by unfold maxLen; omega),fun j hj=>⟨?_,frozen_of_row _ _ _ _ _ H⟩,fun j u hj=>?_⟩,((yG _ _).drew.alloc (yh _) _).mono hB⟩
  ·rw [cell_of_row _ w.heap.size j _ 5 _ H]
   have:j<((cellsB l).toArray++[Value.int .u8 (b.toNat:Int)].toArray++Builtin.zeroCells (Value.int .u8 0).cells (grownCap w (l.length+1) cap 5-(l.length+1))).size:=by
    simp [size_zeroCells,ZR,Value.cells]
    omega
   rw [Array.getElem?_eq_getElem this]
   rfl
  ·rw [cell_of_row _ w.heap.size j _ 5 _ H]
   rw [zBW] at hj
   have U:j<l.length+1:=by
    have:=(yX.1 hj).1
    simpa [ZR] using this
   rw [Array.getElem?_append_left (by simp [ZR]; omega)]
   have e:(cellsB l).toArray++[Value.int .u8 (b.toNat:Int)].toArray=(cellsB l++cellsB [b]).toArray:=by simp [cellsB]
   rw [e]
   simpa using hj
theorem zFy {ops:Array Oper} {rest:List Oper} {o:Oper} {a:Act} {Q:Exit->Act->World->Prop} {w:JY} (k:o.guard=none) (s x:Operand)
  (ho:o.op = .call { callee:=.builtin .append,args:=#[s,x],argTypes:=#[22,22] })
  (B:Nat) (v:Value) (l:List UInt8) (b:UInt8) (hs:a.eval s=v) (H:zFZ w B v l) (hB:B<=w.heap.size) (ad:Addr) (hx:a.eval x = .slice (some ad) 1 1) (hc:w.cell? (ad.add 0)=some (.int .u8 (b.toNat:Int))) (hl:l.length<=1000000)
  (h:∀ v' w',zFZ w' B v' (l++[b])->Below B w w'->wpList Tryz.prog ops Q rest (a.put o.dst v') w'):wpList Tryz.prog ops Q (o::rest) a w:=by
 refine wpList_plain k fun K hK=>?_
 obtain ⟨v',w',hr,h2,h3⟩:=zOu w o.type B v l b H hB ad hc hl
 unfold Oper.wp execOp
 simp only [ho,resolve,invoke,builtin,Sem.run_bind,Sem.run_pure,Result.andThen_ok,List.map_toArray,List.map_cons,List.map_nil,hs,hx,hr]
 exact hK _ _ (h v' w' h2 h3)
structure SpS (w0 wr:JY) (rp cap:Nat) (a:Option Addr) (bs:List UInt8) (g c:Nat) (ms:List zF) (q:Nat):Prop where
 row:ZH wr w0.heap.size (.slice (some ⟨g,0,none⟩) ms.length c) ms
 rd:RdF wr rp a cap bs q
 kp:zG w0 wr rp
 rpl:rp<w0.heap.size
theorem SpS.gB (h:SpS w0 wr rp cap a bs g c ms q):w0.heap.size<=g/\g<wr.heap.size:=h.row.lt g rfl
theorem SpS.below {w0 wr wr':JY} {rp cap:Nat} {a:Option Addr} {bs:List UInt8} {g c:Nat} {ms:List zF} {q:Nat} (h:SpS w0 wr rp cap a bs g c ms q) (hb:Below wr.heap.size wr wr'):SpS w0 wr' rp cap a bs g c ms q:=
 ⟨h.row.below hb,h.rd.below hb,h.kp.trans (zG.of_below hb),h.rpl⟩
theorem SpS.read {wr':JY} {q':Nat} (h:SpS w0 wr rp cap a bs g c ms q) (hk:zG wr wr' rp) (hr:RdF wr' rp a cap bs q'):SpS w0 wr' rp cap a bs g c ms q':=by
 have h1:=h.rpl
 have h2:=h.gB
 exact ⟨h.row.grown (zr hk) (fun k hk e=>by simp [Value.ownBlock] at hk; injection e with e; omega),hr,h.kp.trans hk,h.rpl⟩
theorem SpS.turned {w6:JY} {g6 c6:Nat} {k:List zF} (h:SpS w0 W rp cap a bs g c ms q) (hr:ZH w6 w0.heap.size (.slice (some ⟨g6,0,none⟩) k.length c6) k) (H:W.grownBy w6 (some g)):SpS w0 w6 rp cap a bs g6 c6 k q:=by
 have h1:=h.rpl
 have h2:=h.gB
 have e:∀ {x:Nat},x<W.heap.size->x≠g->w6.heap[x]?=W.heap[x]?:=fun hx hn=>H.block _ hx (fun e=>hn (by injection e with e))
 exact ⟨hr,h.rd.kept (fun i hi=>e (by have:=h.rd.lt; omega) (by omega)),⟨H.os.trans h.kp.os,H.tape.trans h.kp.tape,H.output.trans h.kp.output,yr h.kp.size H.size,fun i hi a=>(e (yi hi h.kp.size) (by omega)).trans (h.kp.block i hi a)⟩,h.rpl⟩
theorem SpS.setT {w0 wr:JY} {rp cap:Nat} {a:Option Addr} {bs:List UInt8} {g c:Nat} {ms:List zF} {q i:Nat} (h:SpS w0 wr rp cap a bs g c ms q) (hi:i<ms.length) (t:JZ):SpS w0 (wr.setCell ⟨g,i*2+1,none⟩ (.string t)) rp cap a bs g c (ms.set i ⟨(atM ms i).n,t⟩) q:=by
 have hr:=h.row.setT hi t
 have e:(ms.set i (⟨(atM ms i).n,t⟩:zF)).length=ms.length:=List.length_set
 refine h.turned ?_ (zf wr g _ _)
 rw [e]
 exact hr
theorem SpS.setN {w0 wr:JY} {rp cap:Nat} {a:Option Addr} {bs:List UInt8} {g c:Nat} {ms:List zF} {q i:Nat} (h:SpS w0 wr rp cap a bs g c ms q) (hi:i<ms.length) (s:JZ):SpS w0 (wr.setCell ⟨g,i*2,none⟩ (.string s)) rp cap a bs g c (ms.set i ⟨s,(atM ms i).t⟩) q:=by
 have hr:=h.row.setN hi s
 have e:(ms.set i (⟨s,(atM ms i).t⟩:zF)).length=ms.length:=List.length_set
 refine h.turned ?_ (zf wr g _ _)
 rw [e]
 exact hr
theorem SpS.cells {i:Nat} (h:SpS w0 wr rp cap a bs g c ms q) (hi:i<ms.length):wr.cell? ⟨g,i*2,none⟩=some (.string (atM ms i).n)/\wr.cell? ⟨g,i*2+1,none⟩=some (.string (atM ms i).t)/\wr.frozen? ⟨g,i*2,none⟩=false/\wr.frozen? ⟨g,i*2+1,none⟩=false:=by
 obtain ⟨c0,c1⟩:=h.row.ops i hi
 simp only [yV] at c0 c1
 exact ⟨c0,c1,World.ownsRow.frozenAt h.row _,World.ownsRow.frozenAt h.row _⟩
def zAi (w0:JY) (rp cap:Nat) (a:Option Addr) (bs:List UInt8) (D:List zF->Prop) (e:Ending) (w':JY):Prop:=
 ∃ (g c q:Nat) (ms:List zF),e = .returned (.slice (some ⟨g,0,none⟩) ms.length c)/\1<=ms.length/\ms.length<=110/\Hid (MsZ 100 3000000000000 ms)/\Hid (D ms)/\Hid (SpS w0 w' rp cap a bs g c ms q)
theorem zDv {i:Nat} {D:List zF->Prop} {t:JZ} (h:SpS w0 W rp cap a bs g c ms q) (hi:i<ms.length) (hz:MsZ 3 2000000000000 ms) (h4:ms.length<=4) (ht:t.size<=3000000000000) (hD:D (ms.set i ⟨(atM ms i).n,t⟩)) :
  zAi w0 rp cap a bs D (.returned (.slice (some ⟨g,0,none⟩) ms.length c)) (W.setCell ⟨g,i*2+1,none⟩ (.string t)):=by
 have e:(ms.set i (⟨(atM ms i).n,t⟩:zF)).length=ms.length:=List.length_set
 refine ⟨g,c,q,ms.set i ⟨(atM ms i).n,t⟩,by rw [e],by omega,by omega,zB ((hz.mono (by decide) (by decide)).set hi ?_ ht),zB hD,zB (h.setT hi t)⟩
 have:=(hz i).1
 show (atM ms i).n.size<=100
 omega
theorem zMc {i:Nat} {D:List zF->Prop} {t:JZ} (h:SpS w0 W rp cap a bs g c ms q) (hi:i<ms.length) (hz:MsZ 3 2000000000000 ms) (h4:ms.length<=4) (ht:t.size<=100) (hD:D (ms.set i ⟨t,(atM ms i).t⟩)) :
  zAi w0 rp cap a bs D (.returned (.slice (some ⟨g,0,none⟩) ms.length c)) (W.setCell ⟨g,i*2,none⟩ (.string t)):=by
 have e:(ms.set i (⟨t,(atM ms i).t⟩:zF)).length=ms.length:=List.length_set
 refine ⟨g,c,q,ms.set i ⟨t,(atM ms i).t⟩,by rw [e],by omega,by omega,zB ((hz.mono (by decide) (by decide)).set hi ht ?_),zB hD,zB (h.setN hi t)⟩
 have:=(hz i).2
 show (atM ms i).t.size<=3000000000000
 omega
theorem zJO {D:List zF->Prop} (h:SpS w0 W rp cap a bs g c ms q) (h1:1<=ms.length) (h4:ms.length<=110) (hz:MsZ 100 3000000000000 ms) (hD:D ms) :
  zAi w0 rp cap a bs D (.returned (.slice (some ⟨g,0,none⟩) ms.length c)) W:=⟨g,c,q,ms,rfl,h1,h4,zB hz,zB hD,zB h⟩
theorem SpS.app {w6:JY} {vs:List zF} {v6:Value} (h:SpS w0 W rp cap a bs g c ms q) (h1:1<=vs.length)
  (H:w6.ownsRow w0.heap.size 29 2 v6 (ms.length+vs.length) (zY ms++zY vs)) (k:W.grownBy w6 (some g)) :
  ∃ g6 c6 ms6,ms6=ms++vs/\v6 = .slice (some ⟨g6,0,none⟩) ms6.length c6/\SpS w0 w6 rp cap a bs g6 c6 ms6 q:=by
 have hr:ZH w6 w0.heap.size v6 (ms++vs):=by
  unfold ZH
  rw [zAr,ym]
  exact H
 obtain ⟨g6,c6,rfl⟩:=hr.has (by simp; omega)
 exact ⟨g6,c6,ms++vs,rfl,rfl,h.turned hr k⟩
theorem zOv (rp cap p g c:Nat) (a:Option Addr) (bs:List UInt8) (ms:List zF) (w0 w:JY) (h:SpS w0 w rp cap a bs g c ms p) (hl:bs.length<=1200) (d:1<=ms.length) (P:ms.length<=4) (hz:MsZ 3 2000000000000 ms) (X:nxt bs p%16≠8/\nxt bs p%16≠15/\nxt bs p%8=0) :
  Calls Tryz.prog 23 #[.pointer (some ⟨rp,0,none⟩),.slice (some ⟨g,0,none⟩) ms.length c] w (zAi w0 rp cap a bs (fun ms'=>ms'=zBE bs p ms)):=by
 have H:=zB h
 have j:=zB hz
 clear h hz
 go_enter Tryz.func23,Tryz.ntmps23
 go_wp2_with fail
 (with_reducible refine (zM rp cap p a bs _ (zA H).rd hl).mono ?_)
 rintro e w1 ⟨⟨k,rfl,hk,HK⟩,H1,HP1⟩
 have Q:=zB ((zA H).read (zA HP1) (zA H1))
 clear H H1 HP1
 go_wp2_with fail
 (with_reducible refine (zM rp cap (adv bs p) a bs _ (zA Q).rd hl).mono ?_)
 rintro e w2 ⟨⟨ik,rfl,hik,HIK⟩,H2,HP2⟩
 have x:=zB ((zA Q).read (zA HP2) (zA H2))
 clear Q H2 HP2
 obtain ⟨i,HI⟩:∃ i,Hid (i=ik%ms.length):=⟨_,zB rfl⟩
 have hi:i<ms.length:=by rw [zA HI]; exact Nat.mod_lt _ (by omega)
 have B:(i:Int)<(ms.length:Int):=by omega
 have V:((ms.length:Int)==0)=false:=yU.2 (by omega)
 have tmi:(ik:Int).tmod (ms.length:Int)=(i:Int):=by rw [yu (by omega),zA HI]; simp
 have tmj:(ik:Int)%(ms.length:Int)=(i:Int):=by rw [zA HI]; simp
 go_wp2_with fail
 (with_reducible refine (zM rp cap (adv bs (adv bs p)) a bs _ (zA x).rd hl).mono ?_)
 rintro e w3 ⟨⟨v,rfl,hv,HV⟩,H3,HP3⟩
 have y:=zB ((zA x).read (zA HP3) (zA H3))
 clear x H3 HP3 tmi tmj V
 have u:=zB X
 rw [<- zA HK] at X
 have t0:((k:Int)%16==8)=false:=by simp; omega
 have t1:((k:Int)%16==15)=false:=by simp; omega
 have t2:((k:Int)%8==0)=true:=by simp; omega
 obtain ⟨c0,c1,f0,f1⟩:=(zA y).cells hi
 obtain ⟨nm,q⟩:∃ nm,nm=(atM ms i).n:=⟨_,rfl⟩
 obtain ⟨tx,K⟩:∃ tx,tx=(atM ms i).t:=⟨_,rfl⟩
 have Y:=(zA j) i
 rw [<- q,<- K] at Y
 obtain ⟨A,U⟩:=Y
 rw [<- q] at c0
 rw [<- K] at c1
 have b:=zB (yH q K)
 clear q K
 clear X
 obtain ⟨m,hm,C⟩:∃ m:Nat,m=v%5/\m<=4:=⟨_,rfl,by omega⟩
 have tmv:(v:Int)%5=(m:Int):=by omega
 have i1:(0:Int)<=(m:Int):=by omega
 have i2:(m:Int)<=4:=by omega
 have J:=zB hm
 clear hm
 go_wp2_with fail
 go_ret
 refine zMc (zA y) hi (zA j) P ?_ ?_
 ·rw [yw]
  have:(⟨#[109,95,49,32]⟩:JZ).size=4:=rfl
  omega
 ·have hc:=zA u
  unfold zBE
  rw [yN (by omega),yN (by omega),yO (by omega),<- zA HIK,<- zA HI,<- zA HV,<- zA J]
theorem zQR (rp cap p g c:Nat) (a:Option Addr) (bs:List UInt8) (ms:List zF) (w0 w:JY) (h:SpS w0 w rp cap a bs g c ms p) (hl:bs.length<=1200) (C:1<=ms.length) (B:ms.length<=4) (hz:MsZ 3 2000000000000 ms) (x:nxt bs p%16≠8/\nxt bs p%16≠15/\nxt bs p%8≠0/\nxt bs p%8=1) :
  Calls Tryz.prog 23 #[.pointer (some ⟨rp,0,none⟩),.slice (some ⟨g,0,none⟩) ms.length c] w (zAi w0 rp cap a bs (fun ms'=>ms'=zBE bs p ms)):=by
 have H:=zB h
 have j:=zB hz
 clear h hz
 go_enter Tryz.func23,Tryz.ntmps23
 go_wp2_with fail
 (with_reducible refine (zM rp cap p a bs _ (zA H).rd hl).mono ?_)
 rintro e w1 ⟨⟨k,rfl,hk,HK⟩,H1,HP1⟩
 have X:=zB ((zA H).read (zA HP1) (zA H1))
 clear H H1 HP1
 go_wp2_with fail
 (with_reducible refine (zM rp cap (adv bs p) a bs _ (zA X).rd hl).mono ?_)
 rintro e w2 ⟨⟨ik,rfl,hik,HIK⟩,H2,HP2⟩
 have y:=zB ((zA X).read (zA HP2) (zA H2))
 clear X H2 HP2
 obtain ⟨i,HI⟩:∃ i,Hid (i=ik%ms.length):=⟨_,zB rfl⟩
 have hi:i<ms.length:=by rw [zA HI]; exact Nat.mod_lt _ (by omega)
 have D:(i:Int)<(ms.length:Int):=by omega
 have V:((ms.length:Int)==0)=false:=yU.2 (by omega)
 have tmi:(ik:Int).tmod (ms.length:Int)=(i:Int):=by rw [yu (by omega),zA HI]; simp
 have tmj:(ik:Int)%(ms.length:Int)=(i:Int):=by rw [zA HI]; simp
 go_wp2_with fail
 (with_reducible refine (zM rp cap (adv bs (adv bs p)) a bs _ (zA y).rd hl).mono ?_)
 rintro e w3 ⟨⟨v,rfl,hv,HV⟩,H3,HP3⟩
 have q:=zB ((zA y).read (zA HP3) (zA H3))
 clear y H3 HP3 tmi tmj V
 have u:=zB x
 rw [<- zA HK] at x
 have t0:((k:Int)%16==8)=false:=by simp; omega
 have t1:((k:Int)%16==15)=false:=by simp; omega
 have t2:((k:Int)%8==0)=false:=by simp; omega
 have t3:((k:Int)%8==1)=true:=by simp; omega
 obtain ⟨c0,c1,f0,f1⟩:=(zA q).cells hi
 obtain ⟨nm,Q⟩:∃ nm,nm=(atM ms i).n:=⟨_,rfl⟩
 obtain ⟨tx,K⟩:∃ tx,tx=(atM ms i).t:=⟨_,rfl⟩
 have J:=(zA j) i
 rw [<- Q,<- K] at J
 obtain ⟨F,d⟩:=J
 rw [<- Q] at c0
 rw [<- K] at c1
 have U:=zB (yH Q K)
 clear Q K
 clear x
 have HX:=zB (fun W=>zHO v W (by omega))
 have b:=zGT v
 obtain ⟨nv,Y⟩:∃ nv,nv=zDE v:=⟨_,rfl⟩
 rw [<- Y] at HX b
 have P:=zB Y
 have E:(zF1++nv).size<=7:=by rw [za]; show 4+nv.size<=7; omega
 have f:(zF1++nv++nlB).size<=8:=by rw [za]; show _+1<=8; omega
 clear Y
 go_upto_region 18 with fail
 go_region_with (first
  | (go_at_call 45; (with_reducible refine ((zA HX) w3.drew).mono ?_); rintro e w5 ⟨rfl,hb5⟩; have A:=zB ((zA q).below ((yG _ _).drew.trans (hb5.mono (yh _)))); have c1':=(hb5.cell (p:=⟨g,i*2+1,none⟩) (zA q).gB.2).trans c1; have f1':=(hb5.frozen (p:=⟨g,i*2+1,none⟩) (zA q).gB.2).trans f1; clear hb5))
 all_goals
  go_wp2_with fail
  go_ret
  refine zDv (zA A) hi (zA j) B ?_ ?_
  ·rw [za]; show (zF1++nv++nlB).size+tx.size<=_; omega
  ·have hc:=zA u
   unfold zBE
   rw [yN (by omega),yN (by omega),yN (by omega),yO (by omega),<- zA HIK,<- zA HI,<- zA HV,<- zA P,<- (zA U).2]
   rfl
theorem zHZ (rp cap p:Nat) (a:Option Addr) (bs:List UInt8) (w:JY) (h:RdF w rp a cap bs p) (hl:bs.length<=1200) :
  Calls Tryz.prog 52 #[.pointer (some ⟨rp,0,none⟩),.agg #[.slice none 0 0]] w fun e w'=>(∃ s:JZ,e = .returned (.string s)/\Hid (s=zAp [] bs p))/\Hid (RdF w' rp a cap bs (zBN [] bs p))/\Hid (zG w w' rp):=by
 have Q:=h.lt
 have H:=zB h
 clear h
 go_enter Tryz.func52,Tryz.ntmps52
 go_wp2_with fail
 refine (zM rp cap p a bs _ ((zA H).below (zC _ _)) hl).mono ?_
 rintro e w1 ⟨⟨k,rfl,hk,HK⟩,H1,HP1⟩
 have HW:=zB (show zG w w1 rp from (zG.of_below (zC _ _)).trans (zA HP1))
 have z1:w.heap.size+1<=w1.heap.size:=by have:=(zA HP1).size; simpa using this
 have b0:w1.cell? ⟨w.heap.size,0,none⟩=some (.slice none 0 0):=((zA HP1).cell (b:=w.heap.size) (by simp) (by omega) 0).trans (by simp [go_sem])
 clear H HP1
 have hA:¬ (k%8<4/\0<([]:List OpR).length):=fun h=>yP h.2 (by simp)
 by_cases h4:k%8=4
 ·have HC:=zB h4
  have e0:¬ (k:Int)%8<4:=by omega
  have e1:((k:Int)%8==4)=true:=by simp; omega
  have HN:=zB (show (⟨#[40]⟩:JZ)=zAp [] bs p by simp [zAp,<- zA HK,zA HC])
  have HP:=zB (show zBN [] bs p=adv bs p by simp [zBN,<- zA HK,zA HC])
  clear h4 hA
  go_wp2_with fail
  go_ret
  rw [zA HP]
  exact ⟨⟨_,rfl,HN⟩,H1,HW⟩
 by_cases h5:k%8=5
 ·have HC:=zB h5
  have e0:¬ (k:Int)%8<4:=by omega
  have e1:((k:Int)%8==4)=false:=by simp; omega
  have e2:((k:Int)%8==5)=true:=by simp; omega
  have HN:=zB (show (⟨#[41]⟩:JZ)=zAp [] bs p by simp [zAp,<- zA HK,zA HC])
  have HP:=zB (show zBN [] bs p=adv bs p by simp [zBN,<- zA HK,zA HC])
  clear h4 h5 hA
  go_wp2_with fail
  go_ret
  rw [zA HP]
  exact ⟨⟨_,rfl,HN⟩,H1,HW⟩
 by_cases h6:k%8=6
 ·have HC:=zB h6
  have e0:¬ (k:Int)%8<4:=by omega
  have e1:((k:Int)%8==4)=false:=by simp; omega
  have e2:((k:Int)%8==5)=false:=by simp; omega
  have e3:((k:Int)%8==6)=true:=by simp; omega
  have e4:1+(k:Int)/8%4<=4:=by omega
  have e5:(0:Int)<=1+(k:Int)/8%4:=by omega
  have HN:=zB (show (⟨#[97,49,95,98]⟩:JZ).extract 0 (1+k/8%4)=zAp [] bs p by simp [zAp,<- zA HK,zA HC])
  have HP:=zB (show zBN [] bs p=adv bs p by simp [zBN,<- zA HK,zA HC])
  clear h4 h5 h6 hA
  go_wp2_with fail
  go_ret
  rw [zA HP]
  exact ⟨⟨_,rfl,HN⟩,H1,HW⟩
 have h7:(k%8<4/\([]:List OpR).length=0)\/k%8=7:=by omega
 have HC:=zB (show ¬ (k%8<4/\0<([]:List OpR).length)/\¬ k%8=4/\¬ k%8=5/\¬ k%8=6 from ⟨hA,h4,h5,h6⟩)
 have e1:((k:Int)%8==4)=false:=by simp; omega
 have e2:((k:Int)%8==5)=false:=by simp; omega
 have e3:((k:Int)%8==6)=false:=by simp; omega
 clear h4 h5 h6 hA
 rcases h7 with ⟨h7,h8⟩ | h7
 ·have e0:(k:Int)%8<4:=by omega
  clear h7 h8
  by_cases hb:240<=k
  ·have HB:=zB hb
   have e5:(240:Int)<=(k:Int):=by omega
   have HN:=zB (show txN k=zAp [] bs p by simp [zAp,<- zA HK,zA HC,zA HB])
   have HP:=zB (show zBN [] bs p=adv bs p by simp [zBN,<- zA HK,zA HC,zA HB])
   clear hb
   go_wp2_with (go_at_call 70; refine (zAY _ _ (by omega)).mono ?_; rintro e w3 ⟨rfl,hx⟩; obtain rfl:=hx.symm)
   go_ret
   rw [zA HP]
   exact ⟨⟨_,rfl,HN⟩,H1,HW⟩
  by_cases hd:224<=k
  ·have HD:=zB (yH hb hd)
   have e5:¬ (240:Int)<=(k:Int):=by omega
   have e6:(224:Int)<=(k:Int):=by omega
   have HN:=zB (show (⟨#[(nxt bs (adv bs p)).toUInt8]⟩:JZ)=zAp [] bs p by simp [zAp,<- zA HK,zA HC,zA HD])
   have HP:=zB (show zBN [] bs p=adv bs (adv bs p) by simp [zBN,<- zA HK,zA HC,zA HD])
   clear hb hd
   go_wp2_with fail
   refine (zM rp cap _ a bs _ (zA H1) hl).mono ?_
   rintro e w2 ⟨⟨v,rfl,hv,HV⟩,H2,HP2⟩
   have K:=zB ((zA HW).trans (zA HP2))
   clear H1 HP2 b0
   have q:=fun W c=>zN2 W c
   go_wp2_with fail
   go_ret
   rw [zA HP]
   refine ⟨⟨_,rfl,zB ?_⟩,zB ((zA H2).below (zC _ _)),zB ((zA K).belowN (zC _ _))⟩
   rw [<- zA HN,<- zA HV]
  ·have HD:=zB (yH hb hd)
   have e5:¬ (240:Int)<=(k:Int):=by omega
   have e6:¬ (224:Int)<=(k:Int):=by omega
   have e7:(k:Int)/8%4<=4:=by omega
   have e8:(0:Int)<=(k:Int)/8%4:=by omega
   have HN:=zB (show (⟨#[49,48,50,55]⟩:JZ).extract (k/8%4) 4=zAp [] bs p by simp [zAp,<- zA HK,zA HC,zA HD])
   have HP:=zB (show zBN [] bs p=adv bs p by simp [zBN,<- zA HK,zA HC,zA HD])
   clear hb hd
   go_wp2_with fail
   go_ret
   rw [zA HP]
   exact ⟨⟨_,rfl,HN⟩,H1,HW⟩
 ·have e0:¬ (k:Int)%8<4:=by omega
  clear h7
  by_cases hb:240<=k
  ·have HB:=zB hb
   have e5:(240:Int)<=(k:Int):=by omega
   have HN:=zB (show txN k=zAp [] bs p by simp [zAp,<- zA HK,zA HC,zA HB])
   have HP:=zB (show zBN [] bs p=adv bs p by simp [zBN,<- zA HK,zA HC,zA HB])
   clear hb
   go_wp2_with (go_at_call 70; refine (zAY _ _ (by omega)).mono ?_; rintro e w3 ⟨rfl,hx⟩; obtain rfl:=hx.symm)
   go_ret
   rw [zA HP]
   exact ⟨⟨_,rfl,HN⟩,H1,HW⟩
  by_cases hd:224<=k
  ·have HD:=zB (yH hb hd)
   have e5:¬ (240:Int)<=(k:Int):=by omega
   have e6:(224:Int)<=(k:Int):=by omega
   have HN:=zB (show (⟨#[(nxt bs (adv bs p)).toUInt8]⟩:JZ)=zAp [] bs p by simp [zAp,<- zA HK,zA HC,zA HD])
   have HP:=zB (show zBN [] bs p=adv bs (adv bs p) by simp [zBN,<- zA HK,zA HC,zA HD])
   clear hb hd
   go_wp2_with fail
   refine (zM rp cap _ a bs _ (zA H1) hl).mono ?_
   rintro e w2 ⟨⟨v,rfl,hv,HV⟩,H2,HP2⟩
   have K:=zB ((zA HW).trans (zA HP2))
   clear H1 HP2 b0
   have q:=fun W c=>zN2 W c
   go_wp2_with fail
   go_ret
   rw [zA HP]
   refine ⟨⟨_,rfl,zB ?_⟩,zB ((zA H2).below (zC _ _)),zB ((zA K).belowN (zC _ _))⟩
   rw [<- zA HN,<- zA HV]
  ·have HD:=zB (yH hb hd)
   have e5:¬ (240:Int)<=(k:Int):=by omega
   have e6:¬ (224:Int)<=(k:Int):=by omega
   have e7:(k:Int)/8%4<=4:=by omega
   have e8:(0:Int)<=(k:Int)/8%4:=by omega
   have HN:=zB (show (⟨#[49,48,50,55]⟩:JZ).extract (k/8%4) 4=zAp [] bs p by simp [zAp,<- zA HK,zA HC,zA HD])
   have HP:=zB (show zBN [] bs p=adv bs p by simp [zBN,<- zA HK,zA HC,zA HD])
   clear hb hd
   go_wp2_with fail
   go_ret
   rw [zA HP]
   exact ⟨⟨_,rfl,HN⟩,H1,HW⟩
theorem zLm (bs:List UInt8) (p:Nat):(zAp [] bs p).size<=4:=by
 have a1:(⟨#[97,49,95,98]⟩:JZ).size=4:=rfl
 have a2:(⟨#[49,48,50,55]⟩:JZ).size=4:=rfl
 have a3:=zGf (nxt bs p)
 unfold zAp
 rw [yN (fun h=>yP h.2 (by simp))]
 repeat' split
 ·decide
 ·decide
 ·rw [yw]; omega
 ·omega
 ·show 1<=4; omega
 ·rw [yw]; omega
theorem zOw (rp cap p g c:Nat) (a:Option Addr) (bs:List UInt8) (ms:List zF) (w0 w:JY) (h:SpS w0 w rp cap a bs g c ms p) (hl:bs.length<=1200) (d:1<=ms.length) (C:ms.length<=4) (hz:MsZ 3 2000000000000 ms) (X:nxt bs p%16≠8/\nxt bs p%16≠15/\nxt bs p%8≠0/\nxt bs p%8≠1/\nxt bs p%8=2) :
  Calls Tryz.prog 23 #[.pointer (some ⟨rp,0,none⟩),.slice (some ⟨g,0,none⟩) ms.length c] w (zAi w0 rp cap a bs (fun ms'=>ms'=zBE bs p ms)):=by
 have H:=zB h
 have Q:=zB hz
 clear h hz
 go_enter Tryz.func23,Tryz.ntmps23
 go_wp2_with fail
 (with_reducible refine (zM rp cap p a bs _ (zA H).rd hl).mono ?_)
 rintro e w1 ⟨⟨k,rfl,hk,HK⟩,H1,HP1⟩
 have Y:=zB ((zA H).read (zA HP1) (zA H1))
 clear H H1 HP1
 go_wp2_with fail
 (with_reducible refine (zM rp cap (adv bs p) a bs _ (zA Y).rd hl).mono ?_)
 rintro e w2 ⟨⟨ik,rfl,hik,HIK⟩,H2,HP2⟩
 have J:=zB ((zA Y).read (zA HP2) (zA H2))
 clear Y H2 HP2
 obtain ⟨i,HI⟩:∃ i,Hid (i=ik%ms.length):=⟨_,zB rfl⟩
 have hi:i<ms.length:=by rw [zA HI]; exact Nat.mod_lt _ (by omega)
 have E:(i:Int)<(ms.length:Int):=by omega
 have U:((ms.length:Int)==0)=false:=yU.2 (by omega)
 have tmi:(ik:Int).tmod (ms.length:Int)=(i:Int):=by rw [yu (by omega),zA HI]; simp
 have tmj:(ik:Int)%(ms.length:Int)=(i:Int):=by rw [zA HI]; simp
 go_wp2_with fail
 (with_reducible refine (zM rp cap (adv bs (adv bs p)) a bs _ (zA J).rd hl).mono ?_)
 rintro e w3 ⟨⟨v,rfl,hv,HV⟩,H3,HP3⟩
 have x:=zB ((zA J).read (zA HP3) (zA H3))
 clear J H3 HP3 tmi tmj U
 have A:=zB X
 rw [<- zA HK] at X
 have t0:((k:Int)%16==8)=false:=by simp; omega
 have t1:((k:Int)%16==15)=false:=by simp; omega
 have t2:((k:Int)%8==0)=false:=by simp; omega
 have t3:((k:Int)%8==1)=false:=by simp; omega
 have t4:((k:Int)%8==2)=true:=by simp; omega
 obtain ⟨c0,c1,f0,f1⟩:=(zA x).cells hi
 obtain ⟨nm,q⟩:∃ nm,nm=(atM ms i).n:=⟨_,rfl⟩
 obtain ⟨tx,K⟩:∃ tx,tx=(atM ms i).t:=⟨_,rfl⟩
 have V:=(zA Q) i
 rw [<- q,<- K] at V
 obtain ⟨l,D⟩:=V
 rw [<- q] at c0
 rw [<- K] at c1
 have b:=zB (yH q K)
 clear q K
 clear X
 obtain ⟨l0,l1,_,_⟩:=(zA x).cells (i:=ms.length-1) (by omega)
 obtain ⟨j,hj⟩:∃ j,j=ms.length-1:=⟨_,rfl⟩
 have u:(ms.length:Int)-1=(j:Int):=by omega
 have F:(j:Int)<(ms.length:Int):=by omega
 rw [<- hj] at l0
 obtain ⟨nl,y⟩:∃ nl,nl=(atM ms j).n:=⟨_,rfl⟩
 have B:=((zA Q) j).1
 rw [<- y] at l0 B
 have P:=zB (yH y hj)
 clear y hj l1
 have f:(zF1++nl).size<=7:=by rw [za]; show 4+nl.size<=7; omega
 have G:(zF1++nl++nlB).size<=8:=by rw [za]; show _+1<=8; omega
 have I:IntKind.i64.wrap ((ms.length:Int)-1)=(j:Int):=by rw [u]; exact Go.IntWalk.i64_in _ (by omega)
 go_upto_region 20 with fail
 go_region
 all_goals
  go_wp2_with fail
  go_ret
  refine zDv ((zA x).below (yG _ _).drew) hi (zA Q) C ?_ ?_
  ·rw [za]; show (zF1++nl++nlB).size+tx.size<=_; omega
  ·have hc:=zA A
   unfold zBE
   rw [yN (by omega),yN (by omega),yN (by omega),yN (by omega),yO (by omega),<- zA HIK,<- zA HI,<- (zA P).2,<- (zA P).1,<- (zA b).2]
   rfl
theorem zOx (rp cap p g c:Nat) (a:Option Addr) (bs:List UInt8) (ms:List zF) (w0 w:JY) (h:SpS w0 w rp cap a bs g c ms p) (hl:bs.length<=1200) (f:1<=ms.length) (E:ms.length<=4) (hz:MsZ 3 2000000000000 ms) (X:nxt bs p%16≠8/\nxt bs p%16≠15/\nxt bs p%8≠0/\nxt bs p%8≠1/\nxt bs p%8≠2/\nxt bs p%8=3) :
  Calls Tryz.prog 23 #[.pointer (some ⟨rp,0,none⟩),.slice (some ⟨g,0,none⟩) ms.length c] w (zAi w0 rp cap a bs (fun ms'=>ms'=zBE bs p ms)):=by
 have H:=zB h
 have J:=zB hz
 clear h hz
 go_enter Tryz.func23,Tryz.ntmps23
 go_wp2_with fail
 (with_reducible refine (zM rp cap p a bs _ (zA H).rd hl).mono ?_)
 rintro e w1 ⟨⟨k,rfl,hk,HK⟩,H1,HP1⟩
 have y:=zB ((zA H).read (zA HP1) (zA H1))
 clear H H1 HP1
 go_wp2_with fail
 (with_reducible refine (zM rp cap (adv bs p) a bs _ (zA y).rd hl).mono ?_)
 rintro e w2 ⟨⟨ik,rfl,hik,HIK⟩,H2,HP2⟩
 have Y:=zB ((zA y).read (zA HP2) (zA H2))
 clear y H2 HP2
 obtain ⟨i,HI⟩:∃ i,Hid (i=ik%ms.length):=⟨_,zB rfl⟩
 have hi:i<ms.length:=by rw [zA HI]; exact Nat.mod_lt _ (by omega)
 have G:(i:Int)<(ms.length:Int):=by omega
 have C:((ms.length:Int)==0)=false:=yU.2 (by omega)
 have tmi:(ik:Int).tmod (ms.length:Int)=(i:Int):=by rw [yu (by omega),zA HI]; simp
 have tmj:(ik:Int)%(ms.length:Int)=(i:Int):=by rw [zA HI]; simp
 go_wp2_with fail
 (with_reducible refine (zM rp cap (adv bs (adv bs p)) a bs _ (zA Y).rd hl).mono ?_)
 rintro e w3 ⟨⟨v,rfl,hv,HV⟩,H3,HP3⟩
 have x:=zB ((zA Y).read (zA HP3) (zA H3))
 clear Y H3 HP3 tmi tmj C
 have d:=zB X
 rw [<- zA HK] at X
 have t0:((k:Int)%16==8)=false:=by simp; omega
 have t1:((k:Int)%16==15)=false:=by simp; omega
 have t2:((k:Int)%8==0)=false:=by simp; omega
 have t3:((k:Int)%8==1)=false:=by simp; omega
 have t4:((k:Int)%8==2)=false:=by simp; omega
 have t5:((k:Int)%8==3)=true:=by simp; omega
 obtain ⟨c0,c1,f0,f1⟩:=(zA x).cells hi
 obtain ⟨nm,q⟩:∃ nm,nm=(atM ms i).n:=⟨_,rfl⟩
 obtain ⟨tx,K⟩:∃ tx,tx=(atM ms i).t:=⟨_,rfl⟩
 have P:=(zA J) i
 rw [<- q,<- K] at P
 obtain ⟨l,F⟩:=P
 rw [<- q] at c0
 rw [<- K] at c1
 have j:=zB (yH q K)
 clear q K
 clear X
 obtain ⟨bv,Q⟩:∃ bv,bv=decide (v%2=0):=⟨_,rfl⟩
 have ebv:((v:Int).tmod 2==0)=bv:=by rw [Q,Bool.eq_iff_iff,yu (by omega)]; simp; omega
 have U:=zB (zD0 rp cap _ bv a bs w3.drew ((zA x).rd.below (yG _ _).drew) hl)
 have A:=zB Q
 clear Q
 go_upto_region 22 with fail
 go_region_with (first
  | (go_at_call 44; (with_reducible refine (zA U).mono ?_); rintro e w5 ⟨⟨o,rfl,HO5⟩,H5,HP5⟩; have u:=zB (((zA x).below (yG _ _).drew).read (zA HP5) (zA H5)); obtain ⟨_,c1a,_,f1a⟩:=(zA u).cells hi; rw [<- (zA j).2] at c1a; have B:=(show OpT o by rw [zA HO5]; exact zLb _ _ _); have D:=(show o.s.size<=16 by rw [zA HO5]; exact zLc _ _ _); have b:=zB (zER o w5 B (by omega)); have L:=zDh D; clear H5 HP5)
  | (go_at_call 51; (with_reducible refine (zA b).mono ?_); rintro e w6 ⟨rfl,hb6⟩; have V:=zB ((zA u).below hb6); obtain ⟨_,c1b,_,f1b⟩:=(zA V).cells hi; rw [<- (zA j).2] at c1b; have I:(zBG (dW o)++(⟨#[10]⟩:JZ)).size<=51:=(by rw [za]; show _+1<=51; omega); clear hb6))
 all_goals
  go_wp2_with fail
  go_ret
  refine zDv (zA V) hi (zA J) E ?_ ?_
  ·rw [za]; show (zBG (dW o)++(⟨#[10]⟩:JZ)).size+tx.size<=_; omega
  ·have hc:=zA d
   unfold zBE
   rw [yN (by omega),yN (by omega),yN (by omega),yN (by omega),yN (by omega),yO (by omega),<- zA HIK,<- zA HI,<- zA HV,<- zA A,<- zA HO5,<- (zA j).2]
   rfl
theorem zOy (rp cap p g c:Nat) (a:Option Addr) (bs:List UInt8) (ms:List zF) (w0 w:JY) (h:SpS w0 w rp cap a bs g c ms p) (hl:bs.length<=1200) (d:1<=ms.length) (B:ms.length<=4) (hz:MsZ 3 2000000000000 ms) (X:nxt bs p%16≠8/\nxt bs p%16≠15/\nxt bs p%8≠0/\nxt bs p%8≠1/\nxt bs p%8≠2/\nxt bs p%8≠3/\nxt bs p%8≠4/\nxt bs p%8=5) :
  Calls Tryz.prog 23 #[.pointer (some ⟨rp,0,none⟩),.slice (some ⟨g,0,none⟩) ms.length c] w (zAi w0 rp cap a bs (fun ms'=>ms'=zBE bs p ms)):=by
 have H:=zB h
 have j:=zB hz
 clear h hz
 go_enter Tryz.func23,Tryz.ntmps23
 go_wp2_with fail
 (with_reducible refine (zM rp cap p a bs _ (zA H).rd hl).mono ?_)
 rintro e w1 ⟨⟨k,rfl,hk,HK⟩,H1,HP1⟩
 have y:=zB ((zA H).read (zA HP1) (zA H1))
 clear H H1 HP1
 go_wp2_with fail
 (with_reducible refine (zM rp cap (adv bs p) a bs _ (zA y).rd hl).mono ?_)
 rintro e w2 ⟨⟨ik,rfl,hik,HIK⟩,H2,HP2⟩
 have Y:=zB ((zA y).read (zA HP2) (zA H2))
 clear y H2 HP2
 obtain ⟨i,HI⟩:∃ i,Hid (i=ik%ms.length):=⟨_,zB rfl⟩
 have hi:i<ms.length:=by rw [zA HI]; exact Nat.mod_lt _ (by omega)
 have E:(i:Int)<(ms.length:Int):=by omega
 have u:((ms.length:Int)==0)=false:=yU.2 (by omega)
 have tmi:(ik:Int).tmod (ms.length:Int)=(i:Int):=by rw [yu (by omega),zA HI]; simp
 have tmj:(ik:Int)%(ms.length:Int)=(i:Int):=by rw [zA HI]; simp
 go_wp2_with fail
 (with_reducible refine (zM rp cap (adv bs (adv bs p)) a bs _ (zA Y).rd hl).mono ?_)
 rintro e w3 ⟨⟨v,rfl,hv,HV⟩,H3,HP3⟩
 have Q:=zB ((zA Y).read (zA HP3) (zA H3))
 clear Y H3 HP3 tmi tmj u
 have A:=zB X
 rw [<- zA HK] at X
 have t0:((k:Int)%16==8)=false:=by simp; omega
 have t1:((k:Int)%16==15)=false:=by simp; omega
 have t2:((k:Int)%8==0)=false:=by simp; omega
 have t3:((k:Int)%8==1)=false:=by simp; omega
 have t4:((k:Int)%8==2)=false:=by simp; omega
 have t5:((k:Int)%8==3)=false:=by simp; omega
 have t6:((k:Int)%8==4)=false:=by simp; omega
 have t7:((k:Int)%8==5)=true:=by simp; omega
 obtain ⟨c0,c1,f0,f1⟩:=(zA Q).cells hi
 obtain ⟨nm,q⟩:∃ nm,nm=(atM ms i).n:=⟨_,rfl⟩
 obtain ⟨tx,K⟩:∃ tx,tx=(atM ms i).t:=⟨_,rfl⟩
 have J:=(zA j) i
 rw [<- q,<- K] at J
 obtain ⟨f,D⟩:=J
 rw [<- q] at c0
 rw [<- K] at c1
 have P:=zB (yH q K)
 clear q K
 clear X
 have U:=zB (zHZ rp cap _ a bs w3.drew ((zA Q).rd.below (yG _ _).drew) hl)
 have b:=zLm bs (adv bs (adv bs (adv bs p)))
 go_upto_region 27 with fail
 go_region_with (first
  | (go_at_call 52; (with_reducible refine (zA U).mono ?_); rintro e w5 ⟨⟨wd,rfl,HO5⟩,H5,HP5⟩; have V:=zB (((zA Q).below (yG _ _).drew).read (zA HP5) (zA H5)); obtain ⟨_,c1a,_,f1a⟩:=(zA V).cells hi; rw [<- (zA P).2] at c1a; have C:wd.size<=4:=(by rw [zA HO5]; exact b); clear H5 HP5))
 all_goals
  go_wp2_with fail
  go_ret
  refine zDv (zA V) hi (zA j) B ?_ ?_
  ·rw [za]; omega
  ·have hc:=zA A
   unfold zBE
   rw [yN (by omega),yN (by omega),yN (by omega),yN (by omega),yN (by omega),yN (by omega),yN (fun x=>yP x.1 (by omega)),yO (by omega),<- zA HIK,<- zA HI,<- zA HO5,<- (zA P).2]
end Go.Proofs.YtgbkgkdpdfdokaaGreatDoor
