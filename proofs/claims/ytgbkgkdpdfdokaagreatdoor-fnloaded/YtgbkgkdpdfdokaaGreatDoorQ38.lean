import Derived.Test.YtgbkgkdpdfdokaaGreatDoorTie
import Derived.Test.YtgbkgkdpdfdokaaGreatDoorCards
import Derived.LaidMore
import Derived.Lay
import Derived.Test.YtgbkgkdpdfdokaaGreatDoorQ30
import Derived.Test.YtgbkgkdpdfdokaaGreatDoorQ37
namespace Go.Proofs.YtgbkgkdpdfdokaaGreatDoor
set_option linter.all false
set_option maxHeartbeats 16000000
set_option maxRecDepth 100000
open Go.RowKit Go.Maps
variable {G':ByteArray -> Option Value} {T:Nat -> List OpR} {W w:World} {ms:List zF} {out:List (List OpR)} {who:Int}
theorem zPM:(Tryz.prog.info? 33).map (fun i=>(i.zero,i.size,i.bytes))=some (some (.agg #[.slice none 0 0]),1,24):=by kernel_rfl
def zPN (w:JY) (B:Nat) (v:Value) (tv:List Value):Prop:=w.ownsRow B 33 1 v tv.length tv
structure LoI (w1 wr:JY) (C bs:Nat) (ms:List zF) (T:Nat->List OpR) (vv:Value) (tv:List Value) (G':ByteArray->Option Value):Prop where
 gr:w1.grownBy wr (some bs)
 sc:ScM wr C bs ms T G'
 row:zPN wr w1.heap.size vv tv
 dj:∀ j,j<ms.length->∀ x,G' (atM ms j).n=some (.agg #[x])->∀ g,x.ownBlock=some g->vv.ownBlock≠some g
 tb:∀ j,j<tv.length->∃ x,tv[j]?=some x/\G' (atM ms j).n=some (.agg #[x])
theorem ScM.gr {w':JY} {C bs:Nat} {G:ByteArray->Option Value} {row:Option Nat} (h:ScM w C bs ms T G) (hg:w.grownBy w' row) (hb:row≠some bs) (hd:∀ j,j<ms.length->∀ x,G (atM ms j).n=some (.agg #[x])->∀ g,x.ownBlock=some g->row≠some g):ScM w' C bs ms T G:=by
 refine ⟨?_,fun j hj x hx=>?_,h.apt⟩
 ·obtain ⟨m,M,hm,hM⟩:=h.mp
  exact ⟨m,M,hm.kept hg (fun e=>hb e.symm),hM⟩
 ·obtain ⟨v,rfl,hv,H⟩:=h.at' j hj x hx
  have hz:=hg.size
  exact ⟨v,rfl,hv.grown hg (fun g e=>hd j hj v hx g e),fun g e=>⟨(H g e).1,by have:=(H g e).2; omega⟩⟩
theorem LoI.step {w1 wr W w6 Wn w4:JY} {C bs:Nat} {ms:List zF} {T:Nat->List OpR} {vv v v4:Value} {tv:List Value} {G' G'':ByteArray->Option Value} (h:LoI w1 wr C bs ms T vv tv G') (Y:bs<w1.heap.size) (y:bs<C) (hk:tv.length<ms.length) (hW:Below wr.heap.size wr W)
  (g1:G'' (atM ms tv.length).n=some (.agg #[v])) (g2:ScM w6 C bs ms T G'') (g3:W.grownBy w6 (some bs)) (gp:∀ j,j<ms.length->∀ x,G' (atM ms j).n=some x->G'' (atM ms j).n=some x) (g5:∀ j,j<ms.length->∀ x,G'' (atM ms j).n=some (.agg #[x])->G' (atM ms j).n=some (.agg #[x])\/∀ g,x.ownBlock=some g->W.heap.size<=g)
  (hn:Below w6.heap.size w6 Wn) (hg:Wn.grownBy w4 vv.ownBlock) (hr:zPN w4 w1.heap.size v4 (tv++[v])) (X:v4.ownBlock=vv.ownBlock\/∃ q,v4.ownBlock=some q/\Wn.heap.size<=q):LoI w1 w4 C bs ms T v4 (tv++[v]) G'':=by
 have z1:=h.gr.size
 have z2:=hW.size
 have z3:=g3.size
 have z4:=hn.size
 have z5:=hg.size
 have vl:=h.row
 have H:∀ g,vv.ownBlock=some g->w1.heap.size<=g/\g<wr.heap.size:=fun g e=>World.ownsRow.lt h.row g e
 have d6:∀ j,j<ms.length->∀ x,G'' (atM ms j).n=some (.agg #[x])->∀ g,x.ownBlock=some g->vv.ownBlock≠some g:=fun j hj x hx g e e2=>by
  rcases g5 j hj x hx with h1 | h1
  ·exact h.dj j hj x h1 g e e2
  ·have:=h1 g e; have:=(H g e2).2; omega
 have n4:∀ g,g<Wn.heap.size->vv.ownBlock≠some g->v4.ownBlock≠some g:=fun g h1 h2 e=>by
  rcases X with h3 | ⟨q,h3,h4⟩
  ·exact h2 (h3.symm.trans e)
  ·rw [h3] at e; injection e with e; omega
 have K:=(g2.below hn).gr hg (fun e=>by have:=(H bs e).1; omega) d6
 refine ⟨⟨hg.os.trans (hn.os.trans (g3.os.trans (hW.os.trans h.gr.os))),hg.tape.trans (hn.tape.trans (g3.tape.trans (hW.tape.trans h.gr.tape))),hg.output.trans (hn.output.trans (g3.output.trans (hW.output.trans h.gr.output))),by omega,fun q hq k=>(hg.block q (by omega) (fun e=>by have:=(H q e.symm).1; omega)).trans ((hn.block q (by omega)).trans ((g3.block q (by omega) k).trans ((hW.block q (by omega)).trans (h.gr.block q hq k))))⟩,K,hr,?_,?_⟩
 ·intro j hj x hx g e
  obtain ⟨x',e1,_,Q⟩:=g2.at' j hj _ hx
  have e2:x=x':=by simpa using e1
  subst e2
  exact n4 g (by have:=(Q g e).2; omega) (d6 j hj x hx g e)
 ·intro j hj
  by_cases e:j<tv.length
  ·obtain ⟨x,hx,ho⟩:=h.tb j e
   exact ⟨x,by rw [yB e]; exact hx,gp j (by omega) _ ho⟩
  ·have e1:j=tv.length:=by simp at hj; omega
   subst e1
   exact ⟨v,by rw [List.getElem?_concat_length],g1⟩
theorem LoI.at' {w1 wr:JY} {C bs:Nat} {ms:List zF} {T:Nat->List OpR} {vv:Value} {tv:List Value} {G':ByteArray->Option Value} (h:LoI w1 wr C bs ms T vv tv G') (hk:tv.length=ms.length) {j:Nat} (hj:j<ms.length):∃ x,tv[j]?=some x/\G' (atM ms j).n=some (.agg #[x])/\Zw wr C x (T j):=by
 obtain ⟨x,h1,h2⟩:=h.tb j (by omega)
 obtain ⟨x',e,h3,_⟩:=h.sc.at' j hj _ h2
 have e2:x=x':=by simpa using e
 subst e2
 exact ⟨x,h1,h2,h3⟩
def zMe (w:JY) (B:Nat) (v:Value) (out:List (List OpR)):Prop:=(∃ a c,v = .slice a out.length c)/\(out.length=0\/∃ g c tf,B<=g/\v = .slice (some ⟨g,0,none⟩) out.length c/\zQx w B g tf out)
theorem zMe.at' {B:Nat} {v:Value} (h:zMe w B v out):zHF w v out:=by
 obtain ⟨⟨a,c,rfl⟩,h0 | ⟨g,c',tf,_,e,h⟩⟩:=h
 ·exact ⟨a,c,rfl,yQ h0⟩
 ·injection e with e1 e2 e3
  subst e1
  exact ⟨_,c,rfl,yR ⟨g,rfl,h.hg,fun i hi=>⟨tf i,h.ce i hi,(h.ro i hi).ops⟩⟩⟩
theorem LoI.own {w1 wr:JY} {C bs B:Nat} {vv:Value} {tv:List Value} (h:LoI w1 wr C bs ms T vv tv G') (hk:tv.length=ms.length) (hB:B<=C) (hC:C<=w1.heap.size) (h0:ms.length≠0):∃ g c tf,B<=g/\vv = .slice (some ⟨g,0,none⟩) ((List.range ms.length).map T).length c/\zQx wr B g tf ((List.range ms.length).map T):=by
 have H:=h.row
 have hl:((List.range ms.length).map T).length=ms.length:=by simp
 obtain ⟨a,c,rfl⟩:∃ a c,vv = .slice a tv.length c:=zO h.row
 obtain ⟨_,⟨h1,h2⟩ | ⟨g,cap,Q,h1,h2,h3,h4⟩⟩:=id h.row
 ·exfalso
  have K:tv.length=0:=by first | exact h2 | (simp at h2; omega) | (simp at h2; simp [h2]) | exact h1
  omega
 ·have ha:a=some ⟨g,0,none⟩:=by injection h1
  subst ha
  have get:∀ i,i<ms.length->∃ x,tv.getD i (.slice none 0 0)=x/\tv[i]?=some x/\G' (atM ms i).n=some (.agg #[x])/\Zw wr C x (T i):=fun i hi=>by
   obtain ⟨x,e1,e2,e3⟩:=h.at' hk hi
   exact ⟨x,by simp [yk,e1],e1,e2,e3⟩
  refine ⟨g,c,fun i=>tv.getD i (.slice none 0 0),by have:=(World.ownsRow.lt H g rfl).1; omega,by rw [hl,hk],⟨(World.ownsRow.lt H g rfl).2,fun i hi=>?_,fun i hi=>?_,fun i hi=>?_,fun i j hi hj k q e=>?_⟩⟩
  ·rw [hl] at hi
   obtain ⟨x,e0,e1,_,_⟩:=get i hi
   have:=World.ownsRow.cellAt H i (by omega)
   rw [e0]
   simpa [e1] using this
  ·rw [hl] at hi
   obtain ⟨x,e0,e1,_,e3⟩:=get i hi
   rw [zHG hi,e0]
   exact e3.base hB
  ·rw [hl] at hi
   obtain ⟨x,e0,e1,e2,e3⟩:=get i hi
   rw [e0]
   intro e
   exact h.dj i hi x e2 g e rfl
  ·rw [hl] at hi hj
   obtain ⟨x,e0,e1,e2,e3⟩:=get i hi
   obtain ⟨y,f0,f1,f2,f3⟩:=get j hj
   rw [f0]
   rw [e0] at e
   exact h.sc.apt i j hi hj k x y e2 f2 q e
theorem LoI.res {w1 wr:JY} {C bs B:Nat} {vv:Value} {tv:List Value} (h:LoI w1 wr C bs ms T vv tv G') (hk:tv.length=ms.length) (hB:B<=C) (hC:C<=w1.heap.size):zMe wr B vv ((List.range ms.length).map T):=by
 obtain ⟨a,c,rfl⟩:∃ a c,vv = .slice a tv.length c:=zO h.row
 refine ⟨⟨a,c,by simp [hk]⟩,?_⟩
 by_cases h0:ms.length=0
 ·exact yQ (by simp [h0])
 ·exact yR (h.own hk hB hC h0)
theorem zFe (am:Option Addr) (cm:Nat) (ms:List zF) (w:JY) (hn:100<ms.length) :
  Calls Tryz.prog 18 #[.slice am ms.length cm] w fun e w'=>e = .returned (.tuple #[.pointer none,.int .i64 1,.int .i64 100])/\w'=w:=by
 have h:(100:Int)<(ms.length:Int):=by omega
 go_enter Tryz.func18,Tryz.ntmps18
 go_wp2_with fail
 go_ret3
 exact ⟨rfl,rfl⟩
def zRn (w:JY) (out:List (List OpR)) (c h:Int) (e:Ending) (w':JY):Prop:=
 ∃ v,e = .returned (.tuple #[v,.int .i64 c,.int .i64 h])/\Hid (zMe w' w.heap.size v out)/\Below w.heap.size w w'
theorem zE6 (am:Option Addr) (cm:Nat) (ms:List zF) (w:JY) (g:ms.length<=100->LdG w am ms) {c:Int} (h:zz ms out c who) :
  Calls Tryz.prog 6 #[.slice am ms.length cm] w (zRn w out c who):=by
 by_cases hn:ms.length<=100
 ·have HX:=zB (zGA am cm ms w (g hn))
  have HL:=zB h
  have HG:=zB (g hn)
  clear h g
  go_enter Tryz.func6,Tryz.ntmps6
  go_wp2_with fail
  (with_reducible refine (zA HX).mono ?_)
  rintro e w1 (⟨s,k,cc,hs,hk,hcc,rfl,hf,hb⟩ | ⟨rfl,W,X,ob,hst⟩)
  ·obtain ⟨rfl,h1,rfl⟩:=zQn (zA HL) hn hs hk hf
   have hv:(cc != 0)=true:=by simp; omega
   obtain rfl:cc=c:=by omega
   have HB:=zB hb
   clear hf hb HX HL h1 hcc
   go_wp2_with fail
   go_ret3
   exact ⟨_,rfl,zB ⟨⟨_,_,rfl⟩,yQ rfl⟩,zA HB⟩
  ·obtain ⟨hK,h3,U,ks,C,T,rk,G,⟨v1,vs,kv,pv,_,_,hU,z,hN,hH⟩,h4,h5,hR,hT,hG,h6⟩:=hst
   obtain ⟨rfl,rfl,rfl⟩:=zQo (zA HL) hn z h3 hU h4 h5 hR hT h6
   obtain ⟨i0,D,E,I,m⟩:=zN zPM
   have hp:∀ W:JY,(Instr.makeSlice 25 (.int .i64 0) (.int .i64 (ms.length:Int))).run Tryz.prog W = .ok (.slice (some ⟨W.heap.size,0,none⟩) 0 ms.length) (W.alloc (.cells (madeCells #[.slice none 0 0] ms.length) 33)):=by
    intro W
    have:=run_make (P:=Tryz.prog) W 25 33 i0 _ Tryz.underlying25 D E .i64 .i64 0 ms.length (by omega) (by omega) (by rw [m]; omega) (by omega)
    simpa [I,Value.cells] using this
   have HI:=zB D
   have HZ:=zB (yH E (yH I m))
   have hh:w.heap.size<C:=by have:=hH.hBC; omega
   have hl:w.heap.size<w1.heap.size:=hG.lt
   have Z:=hH.hC
   obtain ⟨p1,p2,p3⟩:=hU.small hn
   have hc:=zB (fun (r i:Nat) (hi:i<ms.length) (wr:JY) (G':ByteArray->Option Value) (hm:ScH wr (w.heap.size+3) C (w.heap.size+1) w.heap.size am cm ms v1 vs U kv pv ks) (ho:ScM wr C w.heap.size ms T G')=>zF0 _ C _ _ am cm ms v1 vs U kv pv ks T rk hn hN.all hR hT p1 p2 (fun i hi=>(p3 i hi).1) (rk i+1) i hi (by omega) wr G' hm ho)
   have HH:=zB hH
   have K:=zB hK.bel
   have H0:=zB (show LoI w1 (w1.alloc (.cells (madeCells #[.slice none 0 0] ms.length) 33)) C w.heap.size ms T (.slice (some ⟨w1.heap.size,0,none⟩) 0 ms.length) [] G from
    ⟨zH (zC _ _) _,hG.below (zC _ _),World.ownsRow_made w1 _ ms.length (yh _) (by unfold maxLen; omega) (by rw [size_madeCells]; simp),fun j hj x hx g e e2=>by
     obtain ⟨x',e1,_,ha⟩:=hG.at' j hj _ hx
     have e3:x=x':=by simpa using e1
     subst e3
     have:=(ha g e).2
     simp [Value.ownBlock] at e2
     omega,fun j hj=>by simp at hj⟩)
   clear D E I m HX HL hK h3 z hN hH h4 h5 hR hT hG h6 hU p1 p2 p3
   go_wp2_with fail
   go_loopw [8,26] (fun vv x wr=>∃ (tv:List Value) (G':ByteArray->Option Value),tv.length<=ms.length/\x = .int .i64 (tv.length:Int)/\Hid (LoI w1 wr C w.heap.size ms T vv tv G')) (fun _ x _=>ms.length-(intOf x).toNat)
   case atStart=>exact ⟨[],G,yj _,rfl,H0⟩
   case round=>
    clear H0
    obtain ⟨tv,G',hy,rfl,HL⟩:=hrel
    obtain ⟨ak,ck,rfl⟩:∃ a c,u8 = .slice a tv.length c:=zO (zA HL).row
    have hz:=(zA HL).gr.size
    by_cases p:tv.length<ms.length
    ·have o:(tv.length:Int)<(ms.length:Int):=by omega
     obtain ⟨bA,y,rfl,A,he⟩:∃ b y,am=some ⟨b,y,none⟩/\zJ9 w b y ms/\b<w.heap.size:=by
      rcases (zA HG).arg with h | h
      ·omega
      ·exact h
     obtain ⟨m0,m1⟩:=A tv.length p
     have l:wr.heap[bA]?=w.heap[bA]?:=((zA HL).gr.block bA (by omega) (fun e=>by injection e with e; omega)).trans ((zA K).block bA he)
     have e0:=(yp (w:=w) (w':=wr) (a:=⟨bA,y+tv.length*2,none⟩) l).trans m0
     have e1:=(yp (w:=w) (w':=wr) (a:=⟨bA,y+tv.length*2+1,none⟩) l).trans m1
     obtain ⟨nm,F⟩:∃ nm,nm=(atM ms tv.length).n:=⟨_,rfl⟩
     obtain ⟨tx,M⟩:∃ tx,tx=(atM ms tv.length).t:=⟨_,rfl⟩
     rw [<- F] at e0
     rw [<- M] at e1
     obtain ⟨W,hW⟩:∃ W,W=wr.alloc (.cells #[.string nm,.string tx] 29):=⟨_,rfl⟩
     have Y:Below wr.heap.size wr W:=by rw [hW]; exact zC _ _
     have HX:=zB ((zA hc) 0 tv.length p W G' (((zA HH).keep (zA HL).gr).below Y) ((zA HL).sc.below Y))
     rw [<- F] at HX
     have HW:=zB hW
     have J:=zB Y
     have hw:wr.heap.size<=W.heap.size:=Y.size
     clear A m0 m1 l F M hW Y
     go_wp2_with (first | (go_at_call 19; rw [<- zA HW]; (with_reducible refine (zA HX).mono ?_); rintro e w6 ⟨v,G'',rfl,g1,g2,g3,gp,g4,g5⟩; obtain ⟨v',R,d,_⟩:=g2.at' _ p _ g1; have hd:=d.ops; clear d; obtain rfl:v=v':=(by simpa using R); obtain ⟨a6,c6,rfl,_⟩:=hd; have O:=zB (fun Wn w4 v4 (hn:Below w6.heap.size w6 Wn) hg hr hat=>@LoI.step w1 wr W w6 Wn w4 C w.heap.size ms T _ _ v4 tv G' G'' (zA HL) hl hh p (zA J) g1 g2 g3 gp g5 hn hg hr hat); have S:=zB (show zPN w6 w1.heap.size (.slice ak tv.length ck) tv from zAu (zAu (zA HL).row (fun g e=>(zA J).block g (World.ownsRow.lt (zA HL).row g e).2)) (fun g e=>g3.block g (by have:=(World.ownsRow.lt (zA HL).row g e).2; omega) (fun x=>by injection x with x; have:=(World.ownsRow.lt (zA HL).row g e).1; omega))); have ht:W.heap.size<=w6.heap.size:=g3.size; clear g1 g2 g3 g4 g5 gp R HX) | (at_builtin; refine yJ _ rfl (.tmp 30) (.tmp 35) 25 rfl w1.heap.size 33 i0 _ 1 24 Tryz.underlying25 (zA HI) (zA HZ).1 (zA HZ).2.1 (zA HZ).2.2 rfl (by decide) _ tv.length tv rfl (zAu (zA S) (fun g e=>(zC w6 _).block g (World.ownsRow.lt (zA S) g e).2)) ⟨w6.heap.size,0,none⟩ 1 1 [.slice a6 (T tv.length).length c6] rfl rfl (fun j u hj=>(by cases j with | zero=>(simp at hj; subst hj; simp [go_sem]) | succ j=>simp at hj)) (fun u hu=>(by simp at hu; subst hu; rfl)) ?b1 ?b2 ?b3 ?next))
     case b1=>unfold maxLen; omega
     case b2=>omega
     case b3=>simp; omega
     case next=>
      intro v4 w4 Q H f V
      have L:zPN w4 w1.heap.size v4 (tv++[.slice a6 (T tv.length).length c6]):=by
       unfold zPN
       rw [ym]
       exact Q
      have HN:=zB ((zA O) _ w4 v4 (zC _ _) H L (V.imp id (fun e=>⟨_,e,by simp⟩)))
      obtain ⟨a4,c4,rfl⟩:=zO L
      clear Q H f V L O
      go_wp2_with fail
      exact ⟨⟨tv++[.slice a6 (T tv.length).length c6],G'',(by first | (simp; done) | (simp; omega)),(by first | (simp; done) | (simp; go_num) | go_num),HN⟩,by simp [intOf]; omega⟩
    ·have HT:=zB ((zA HL).res (B:=w.heap.size) (by omega) (by omega) Z)
     have J:=zB (show Below w.heap.size w wr from ⟨(zA HL).gr.os.trans (zA K).os,(zA HL).gr.tape.trans (zA K).tape,(zA HL).gr.output.trans (zA K).output,by have:=(zA K).size; omega,fun q hq=>((zA HL).gr.block q (by omega) (fun e=>by injection e with e; omega)).trans ((zA K).block q hq)⟩)
     have o:¬ (tv.length:Int)<(ms.length:Int):=by omega
     go_wp2_with fail
     go_ret3
     exact ⟨_,rfl,HT,zA J⟩
 ·obtain ⟨h1,rfl,rfl,rfl⟩:100<ms.length/\out=[]/\c=1/\who=100:=by
   rcases h with h | ⟨h,_⟩
   ·exact h
   ·exact yP h hn
  have HX:=zB (zFe am cm ms w (by omega))
  clear g h
  go_enter Tryz.func6,Tryz.ntmps6
  go_wp2_with (first | (go_at_call 18; (with_reducible refine (zA HX).mono ?_); rintro e w1 ⟨rfl,hx⟩; obtain rfl:=hx.symm; clear hx))
  go_ret3
  exact ⟨_,rfl,zB ⟨⟨_,_,rfl⟩,yQ rfl⟩,yG _ _⟩
theorem zPO {P:Program} {f:FuncId} {args:Array Value} {R:Ending->World->Prop} (h:Calls P f args w R):∃ e w',R e w':=by
 obtain ⟨e,w',_,r,_⟩:=h []
 exact ⟨e,w',r⟩
theorem zE7 (a:Option Addr) (cap:Nat) (l:List UInt8) (w:JY) (hl:l.length<=1048576) (x:l.length<=cap) (h:zJf w a l) :
  Calls Tryz.prog 4 #[.slice a l.length cap] w fun e w'=>(∃ (g c:Nat) (ms:List zF),e = .returned (.slice (some ⟨g,0,none⟩) ms.length c)/\1<=ms.length/\ms.length<=110/\Hid (zKf (zGV l) 0 ms)/\Hid (MsZ 100 3000000000000 ms)/\Hid (ZH w' w.heap.size (.slice (some ⟨g,0,none⟩) ms.length c) ms))/\Below w.heap.size w w':=by
 have K:=zB (zK5 a cap l w hl x h)
 have Y:=zNV l
 clear h
 go_enter Tryz.func4,Tryz.ntmps4
 go_wp2_with fail
 (with_reducible refine (zA K).mono ?_)
 rintro e w1 ⟨⟨rp,H,rfl,hrp,H1⟩,hb1⟩
 have k:=zB hb1
 have Q:=zB (zE5 rp H 0 a (zGV l) w1 (zA H1) Y)
 clear hb1 K
 go_wp2_with fail
 (with_reducible refine (zA Q).mono ?_)
 rintro e w3 ⟨g,c,q,ms,rfl,hm1,hm2,HMZ,HD,HS⟩
 have X:=zB (show Below w.heap.size w w3 from (zA k).trans ((zA HS).kp.below (zA k).size hrp))
 clear Q
 go_wp2_with fail
 go_ret
 refine ⟨⟨g,c,ms,rfl,hm1,hm2,HD,HMZ,zB ?_⟩,zA X⟩
 have hr:=(zA HS).row
 have hz:=(zA k).size
 obtain ⟨h0,h2 | ⟨g',H,y,hv,hg,h3⟩⟩:=hr
 ·exact ⟨h0,yQ h2⟩
 ·exact ⟨h0,yR ⟨g',H,y,hv,by omega,h3⟩⟩
def zKy (ms:List zF):Nat->List zF
 | 0=>[]
 | k+1=>zKy ms k++[atM ms (ms.length-1-k)]
theorem zIk (ms:List zF):∀ k,k<=ms.length->zKy ms k=ms.reverse.take k
 | 0,_=>rfl
 | k+1,h=>by
  rw [List.take_succ_eq_append_getElem (by simp; omega)]
  simp only [zKy]
  rw [zIk ms k (by omega)]
  congr 1
  simp only [List.cons.injEq,and_true]
  have:=zJP (ms:=ms) (i:=k) (by omega)
  rw [<- this]
  simp [atM,yk,show k<ms.length by omega]
theorem zPP (ms:List zF):zKy ms ms.length=ms.reverse:=by
 rw [zIk ms _ (yh _),List.take_of_length_le (by simp)]
theorem MsZ.rev {n t:Nat} (h:MsZ n t ms):MsZ n t ms.reverse:=fun i=>by
 by_cases hi:i<ms.length
 ·rw [zJP hi]; exact h _
 ·have:atM ms.reverse i=zF.zero:=by simp [atM,yk,List.getElem?_eq_none (show ms.reverse.length<=i by simp; omega)]
  rw [this]; exact ⟨yj _,yj _⟩
theorem zPQ {i:Nat} (h:i<out.length):zBQ out.reverse (out.length-1-i)=zBQ out i:=by
 unfold zBQ
 simp only [yk]
 rw [List.getElem?_reverse (by omega)]
 have:out.length-1-(out.length-1-i)=i:=by omega
 rw [this]
theorem zz.bad {c:Int} (h:zz ms out c who) (hc:c≠0):out=[]:=by
 rcases h with ⟨_,h,_⟩ | ⟨hn,⟨_,_,_,_,h,_⟩ | ⟨h2,h⟩⟩
 ·exact h
 ·exact h
 rcases h with ⟨_,_,_,_,h,_⟩ | ⟨_,h⟩
 ·exact h
 obtain ⟨U,_,h⟩:=h
 rcases h with ⟨_,_,_,_,h,_⟩ | ⟨_,h⟩
 ·exact h
 rcases h with ⟨_,_,_,_,h,_⟩ | ⟨_,h⟩
 ·exact h
 obtain ⟨S,_,h⟩:=h
 rcases h with ⟨_,_,_,_,h,_⟩ | ⟨hs,h⟩
 ·exact h
 ·exact yP h.2.1 hc
theorem zz.back {out':List (List OpR)} {c who':Int} (h:zz ms out c who) (h':zz ms.reverse out' 0 who'):c=0:=by
 have:=h'.rev
 rw [List.reverse_reverse] at this
 exact (h.one this).2.1
theorem zNI (a:Option Addr) (cap:Nat) (l:List UInt8) (w:JY) (hl:l.length<=maxLen) (N:l.length<=cap) (h:zJf w a l) (hm:zFa w) :
  Calls Tryz.prog 3 #[.slice a l.length cap] w fun e w'=>e = .returned (.bool true)/\Below w.heap.size w w':=by
 by_cases Hk:1048576<l.length
 ·have hI:(1048576:Int)<(l.length:Int):=by omega
  go_enter Tryz.func3,Tryz.ntmps3
  go_wp2
  go_ret
  exact ⟨rfl,yG _ _⟩
 have hI:¬ (1048576:Int)<(l.length:Int):=by omega
 have HM:=zB hm
 have HA:=zB h
 have C:=zB (zE7 a cap l w (by omega) N h)
 clear hm h
 go_enter Tryz.func3,Tryz.ntmps3
 go_wp2_with fail
 (with_reducible refine (zA C).mono ?_)
 rintro e w1 ⟨⟨g,c,ms,rfl,hm1,hm2,HD,HMZ,HR⟩,hb1⟩
 have hg:=zB hb1
 have hf:=zB ((zA HMZ).sized (by decide) (by decide))
 have hh:=zB (zBw (some ⟨g,0,none⟩) c ms w1 (by omega) (zA HR).arg (zA hf))
 clear hb1 C
 go_wp2_with fail
 (with_reducible refine (zA hh).mono ?_)
 rintro e w2 ⟨sv,tabs,cd,who,rfl,HLD,HTS,hmt,hb2⟩
 have O:=zB ((zA hg).trans (hb2.mono (zA hg).size))
 have hB:=zB ((zA HR).below hb2)
 have hG:=zB (zA HTS).tabs
 have C:=zB (zE7 a cap l w2 (by omega) N ((zA HA).step (zA O)))
 have Ho:=zB hmt
 clear hb2 hh HR HTS hmt
 go_wp2_with fail
 (with_reducible refine (zA C).mono ?_)
 rintro e w3 ⟨⟨g',c',ms',rfl,_,_,HD',_,HR'⟩,hb3⟩
 obtain rfl:=(zA HD).one (zA HD')
 have R:=zB ((zA O).trans (hb3.mono (zA O).size))
 have hz:=zB ((zA hB).below hb3)
 have m:=zB ((zA hG).below hb3)
 have D:=zB (zE6 (some ⟨g',0,none⟩) c' ms w3 (fun hn=>⟨hn,(zA HR').arg,zA hf,(zA HM).below (zA R)⟩) (zA HLD))
 clear hb3 C hB hG HD'
 go_wp2_with fail
 (with_reducible refine (zA D).mono ?_)
 rintro e w4 ⟨gv,rfl,HG,hb4⟩
 have hJ:=zB ((zA R).trans (hb4.mono (zA R).size))
 have T:=zB ((zA hz).below hb4)
 have h4:=zB ((zA m).below hb4)
 have Hi:=zB (zA HG).at'
 have ecc:(cd != cd)=false:=by simp
 have ell:(who != who)=false:=by simp
 have hr:=zB (ZH.nil (w:=w4) (B:=w4.heap.size) (yh _))
 obtain ⟨i2,hD,hM,hH,hF⟩:=info_parts zEP
 have HQ:=zB (yH hD (yH hM (yH hH hF)))
 have hV:=((zA T).lt g rfl).2
 clear hb4 D hz m HR' HG hD hM hH hF
 go_wp2_with fail
 go_loopw [10,11] (fun tv iv wr=>∃ (gt ct:Nat) (us:List zF) (d:Int),tv = .slice (some ⟨gt,0,none⟩) us.length ct/\iv = .int .i64 d/\us.length<=ms.length/\Hid (d=(ms.length:Int)-1-(us.length:Int))/\Hid (us=zKy ms us.length)/\Hid (ZH wr w4.heap.size (.slice (some ⟨gt,0,none⟩) us.length ct) us)/\Hid (Below w4.heap.size w4 wr)) (fun tv _ _=>ms.length-zMj tv)
 case atStart=>exact ⟨w4.heap.size,0,[],_,rfl,rfl,yj _,zB (by simp),zB rfl,hr,zB (zC _ _)⟩
 case round=>
  clear hr
  obtain ⟨gt,ct,us,d,rfl,rfl,Hn,hu,HU,V,Q⟩:=hrel
  obtain ⟨wo,hN⟩:∃ wo,wo=wr:=⟨_,rfl⟩
  subst hN
  have Hc:=(zA Q).size
  by_cases Hm:us.length<ms.length
  ·obtain ⟨j,hj⟩:∃ j,j=ms.length-1-us.length:=⟨_,rfl⟩
   have hU:d=(j:Int):=by rw [zA hu,hj]; omega
   subst hU
   have Hg:(0:Int)<=(j:Int):=by omega
   have hK:j<ms.length:=by omega
   have He:(j:Int)<(ms.length:Int):=by omega
   obtain ⟨c0,c1⟩:=(((zA T).ops).below (zA Q) hV) j hK
   simp only [yV] at c0 c1
   obtain ⟨x,hx⟩:∃ x,x=atM ms j:=⟨_,rfl⟩
   rw [<- hx] at c0 c1
   have hv:=zB (show us++[x]=zKy ms (us.length+1) by simp only [zKy]; rw [<- zA HU,hx,hj])
   have h8:=zC wo (.cells #[.string x.n,.string x.t] 29)
   have M:=zB ((zA V).below h8)
   have HJ:=zB hj
   clear hx hj
   go_wp2_with (at_builtin; refine yJ _ rfl (.tmp 50) (.tmp 55) 23 rfl w4.heap.size 29 i2 _ 2 32 Tryz.underlying23 (zA HQ).1 (zA HQ).2.1 (zA HQ).2.2.1 (zA HQ).2.2.2 rfl (by decide) _ us.length (zY us) rfl (zA M) ⟨wo.heap.size,0,none⟩ 1 1 (zY [x]) rfl rfl (Z6 wo x) (Z9 _) ?b1 ?b2 ?b3 ?next)
   case b1=>unfold maxLen; omega
   case b2=>omega
   case b3=>simp; omega
   case next=>
    intro v6 w6 u Y Z hC
    have G:ZH w6 w4.heap.size v6 (us++[x]):=by
     unfold ZH
     rw [zAr,ym]
     exact u
    obtain ⟨g6,c6,rfl⟩:=G.has (by simp)
    have b:Below w4.heap.size w4 w6:=((zA Q).alloc Hc _).grown Y (by simp; omega) (fun q hq=>by have:=((zA V).lt gt rfl).1; have h7:some gt=some q:=hq; injection h7 with h7; omega)
    obtain ⟨X,J⟩:∃ X,X=us++[x]:=⟨_,rfl⟩
    rw [<- J] at G hv
    rw [<- J]
    have z:X.length=us.length+1:=by rw [J]; simp
    have hw:=zB z
    have Hb:=zB (show X=zKy ms X.length by rw [z]; exact zA hv)
    have hX:=zB G
    have K:=zB b
    have Hf:X.length<=ms.length:=by omega
    clear u Y Z hC G b J z M h8 V Q
    go_wp2_with fail
    refine ⟨⟨g6,c6,X,_,rfl,rfl,Hf,zB ?_,Hb,hX,K⟩,by have:=zA hw; simp [zMj]; omega⟩
    have:=zA hw
    have:=zA HJ
    omega
  ·have Hp:¬ (0:Int)<=d:=by rw [zA hu]; omega
   have ha:=zB (show us=ms.reverse by
    have e:us.length=ms.length:=by omega
    rw [zA HU,e,zPP])
   have L:=zB (show zG2 us by rw [zA ha]; exact (zA HMZ).rev.sized (by decide) (by decide))
   have hd:=zB ((zA hJ).trans ((zA Q).mono (zA hJ).size))
   have h3:=zB ((zA Hi).below (zA Q))
   have h9:=zB ((zA h4).below (zA Q))
   obtain ⟨U,c2,who2,hO,h5⟩:∃ U c2 who2,Hid (zz us U c2 who2)/\Hid ((cd=0->c2=0/\U=tabs.reverse)/\(cd≠0->c2≠0)):=by
    by_cases hc:cd=0
    ·refine ⟨tabs.reverse,0,0,zB ?_,zB ⟨fun _=>⟨rfl,rfl⟩,fun x=>yP hc x⟩⟩
     have h:=zA HLD
     rw [hc] at h
     rw [zA ha]
     exact h.rev
    ·obtain ⟨e,w',v',out',c',who',_,ho,_⟩:=zPO (zBw (some ⟨gt,0,none⟩) ct us wo (by omega) (zA V).arg (zA L))
     refine ⟨out',c',who',ho,zB ⟨fun x=>yP x hc,fun _ x=>?_⟩⟩
     have h':=zA ho
     rw [x,zA ha] at h'
     exact hc ((zA HLD).back h')
   have D:=zB (zE6 (some ⟨gt,0,none⟩) ct us wo (fun hn=>⟨hn,(zA V).arg,zA L,(zA HM).below (zA hd)⟩) (zA hO))
   go_wp2_with fail
   (with_reducible refine (zA D).mono ?_)
   rintro e w5 ⟨ov,rfl,HO5,hb5⟩
   have o:=zB ((zA hd).trans (hb5.mono (zA hd).size))
   have s:=zB ((zA h3).below hb5)
   have hA:=zB ((zA h9).below hb5)
   have I:=zB (zA HO5).at'
   clear hb5 D h3 h9 HO5 V Q T
   by_cases hc:cd=0
   ·have Ha:(cd != 0)=false:=by simpa using hc
    obtain ⟨e2,e3⟩:=(zA h5).1 hc
    subst e2 e3
    subst hc
    obtain ⟨Hj,_,E⟩:=(zA HLD).good
    have HV:=zB (zA HLD).valid
    have hp:=(zA HLD).small.2
    have Hh:=zB hp
    have H:=zB E
    obtain ⟨ag,cg,A,_⟩:=id (zA s)
    obtain ⟨ao,co,hE,_⟩:=id (zA I)
    obtain ⟨as2,cs2,h6,_⟩:=id (zA hA)
    rw [E] at A h6
    rw [List.length_reverse,E] at hE
    have emm:((ms.length:Int) != (ms.length:Int))=false:=by simp
    clear hp E
    subst A hE h6
    go_wp2_with fail
    go_loopw [15] (fun iv wr=>∃ (k:Nat),k<=ms.length/\iv = .int .i64 (k:Int)/\Hid (Below w5.heap.size w5 wr)) (fun iv _=>ms.length-(intOf iv).toNat)
    case atStart=>exact ⟨0,yj _,rfl,zB (yG _ _)⟩
    case round=>
     obtain ⟨k,hk,rfl,v⟩:=hrel
     by_cases hS:k<ms.length
     ·have hP:(k:Int)<(ms.length:Int):=by omega
      obtain ⟨j,hj⟩:∃ j,j=ms.length-1-k:=⟨_,rfl⟩
      have hK:j<ms.length:=by omega
      have He:(j:Int)<(ms.length:Int):=by omega
      have Hg:(0:Int)<=(j:Int):=by omega
      obtain ⟨q,hq⟩:∃ q,q=ms.length-1:=⟨_,rfl⟩
      have ev1:(ms.length:Int)-1=(q:Int):=by omega
      have ev2:(q:Int)-(k:Int)=(j:Int):=by omega
      have ew1:IntKind.i64.wrap (q:Int)=(q:Int):=Go.IntWalk.i64_in _ (by omega)
      have ew2:IntKind.i64.wrap (j:Int)=(j:Int):=Go.IntWalk.i64_in _ (by omega)
      obtain ⟨t1,d1,o1⟩:∃ t1,(∃ g1,ag=some ⟨g1,0,none⟩/\wr.cell? ⟨g1,k,none⟩=some t1)/\zt wr t1 (zBQ tabs k):=by
       obtain ⟨x,y,e,h0 | ⟨g1,e1,_,h⟩⟩:=(zA s).below (zA v)
       ·have:=zA H; omega
       ·obtain ⟨t,h1,h2⟩:=h k (by have:=zA H; omega)
        injection e with e _ _
        exact ⟨t,⟨g1,by rw [e,e1],h1⟩,h2⟩
      obtain ⟨t3,d3,o3⟩:∃ t3,(∃ g3,as2=some ⟨g3,0,none⟩/\wr.cell? ⟨g3,k,none⟩=some t3)/\zt wr t3 (zBQ tabs k):=by
       obtain ⟨x,y,e,h0 | ⟨g1,e1,_,h⟩⟩:=(zA hA).below (zA v)
       ·have:=zA H; omega
       ·obtain ⟨t,h1,h2⟩:=h k (by have:=zA H; omega)
        injection e with e _ _
        exact ⟨t,⟨g1,by rw [e,e1],h1⟩,h2⟩
      obtain ⟨t2,d2,o2⟩:∃ t2,(∃ g2,ao=some ⟨g2,0,none⟩/\wr.cell? ⟨g2,j,none⟩=some t2)/\zt wr t2 (zBQ tabs k):=by
       obtain ⟨x,y,e,h0 | ⟨g1,e1,_,h⟩⟩:=(zA I).below (zA v)
       ·have:=zA H; rw [List.length_reverse] at h0; omega
       ·obtain ⟨t,h1,h2⟩:=h j (by have:=zA H; rw [List.length_reverse]; omega)
        injection e with e _ _
        have ee:zBQ tabs.reverse j=zBQ tabs k:=by
         have hx:=zPQ (out:=tabs) (i:=k) (by have:=zA H; omega)
         have hy:tabs.length-1-k=j:=by have:=zA H; omega
         rw [hy] at hx
         exact hx
        rw [ee] at h2
        exact ⟨t,⟨g1,by rw [e,e1],h1⟩,h2⟩
      obtain ⟨g1,rfl,x1⟩:=d1
      obtain ⟨g2,rfl,x2⟩:=d2
      obtain ⟨g3,rfl,x3⟩:=d3
      obtain ⟨os,f⟩:∃ os,os=zBQ tabs k:=⟨_,rfl⟩
      have Hl:os.length<=500:=by rw [f]; exact (zA Hh) _ (by unfold zBQ; have:=zA H; simp [show k<tabs.length by omega])
      have hs:=zB (show zR os 0 by rw [f]; exact (zA HV) k hS)
      rw [<- f] at o1 o2 o3
      have hW:=zB o1
      have hY:=zB o2
      have hR:=zB o3
      have S:=block_lt_of_cell x1
      have r:=block_lt_of_cell x2
      have hb:=block_lt_of_cell x3
      have he:=zB (show Zg os from fun i hi=>by have:=(zKV (zKS (zA hs)).2).1 i; unfold maxLen; omega)
      have hQ:=zB (zCi t1 t3 os wr.drew (by omega) (o1.belowW (yG _ _).drew) (o3.belowW (yG _ _).drew))
      clear f o1 o2 o3 hj hq
      go_wp2_with fail
      go_region_held3 (fun W=>W.cell? ⟨g1,k,none⟩=some t1/\W.cell? ⟨g2,j,none⟩=some t2/\W.cell? ⟨g3,k,none⟩=some t3) (first | (go_keep; done) | exact ⟨y1,y2,y3⟩)
       (first
        | (go_at_call 7; (with_reducible refine (zA hQ).mono ?_); rintro e w6 ⟨rfl,b⟩; have K:=zB (show Below wr.heap.size wr w6 from (yG _ _).drew.trans (b.mono (yh _))); have y1:=((zA K).cell (p:=⟨g1,k,none⟩) S).trans x1; have y2:=((zA K).cell (p:=⟨g2,j,none⟩) r).trans x2; have y3:=((zA K).cell (p:=⟨g3,k,none⟩) hb).trans x3; have Hd:=zB (zCi t2 t3 os w6 (by omega) ((zA hY).belowW (zA K)) ((zA hR).belowW (zA K))); clear b)
        | (go_at_call 7; (with_reducible refine (zA Hd).mono ?_); rintro e w7 ⟨rfl,hb7⟩; have P:=zB ((zA K).trans (hb7.mono (zA K).size)); have y1:=((zA P).cell (p:=⟨g1,k,none⟩) S).trans x1; have y2:=((zA P).cell (p:=⟨g2,j,none⟩) r).trans x2; have y3:=((zA P).cell (p:=⟨g3,k,none⟩) hb).trans x3; have hZ:=zB (zHh t1 os w7 (by omega) ((zA hW).belowW (zA P)) (zA he)); clear hb7)
        | (go_at_call 8; (with_reducible refine (zA hZ).mono ?_); rintro e w8 ⟨⟨ck,rfl,hck⟩,hb8⟩; have eck:ck=0:=zAD hck (zA hs); subst eck; have F:=zB ((zA P).trans (hb8.mono (zA P).size)); have y1:=((zA F).cell (p:=⟨g1,k,none⟩) S).trans x1; have y2:=((zA F).cell (p:=⟨g2,j,none⟩) r).trans x2; have y3:=((zA F).cell (p:=⟨g3,k,none⟩) hb).trans x3; clear hb8 hck))
      all_goals
       go_wp2_with fail
       simp only [ev1]
       refine ⟨?_,by simp [intOf]; omega⟩
       repeat apply Exists.intro
       refine ⟨⟨k+1,by omega,?_,zB ((zA v).trans ((zA F).mono (zA v).size))⟩,rfl⟩
       go_num
     ·have hP:¬ (k:Int)<(ms.length:Int):=by omega
      go_wp2_with fail
      go_ret
      exact ⟨rfl,(zA o).trans ((zA v).mono (zA o).size)⟩
   ·have Ha:(cd != 0)=true:=by simpa using hc
    have h2:(c2 != 0)=true:=by simpa using (zA h5).2 hc
    obtain ⟨ag,cg,A,_⟩:=id (zA s)
    have ht:=(zA HLD).bad hc
    rw [ht] at A
    subst A
    clear hc ht
    go_wp2_with fail
    go_ret
    exact ⟨rfl,zA o⟩
open Go.ChangeShapes Go.WideShapes Go.ChangeAt Go.Joins
theorem ByP.own:ownKnob Tryz.prog.godebug=none:=by kernel_rfl
theorem ByP.laidOut:laidOutB Tryz.prog=true:=by kernel_rfl
theorem ByP.cellsB:Tryz.prog.cellsOf 5=1:=by kernel_rfl
theorem zLw {x:Addr} {v:Value} (h:W.cell? (x.add 0)=some v):x=⟨x.block,x.off,none⟩:=by
 obtain ⟨b,H,spot⟩:=x
 have hs:spot=none:=by
  have:=World.cell?_spot h
  simpa [Addr.add] using this
 subst hs
 rfl
theorem zHw (zs:List Int) (len i:Nat) (hi:i<len) (hz:len<=zs.length):((zs.take len).map fun n=>UInt8.ofNat n.toNat).getD i 0=UInt8.ofNat (zs.getD i 0).toNat:=by
 have h1:i<zs.length:=by omega
 simp [List.getD,hi,h1]
theorem zKz {H:Type} {enc:TypeId×Value->H} {q:Bool} {fuel:Nat} {cs:List Value} {x:DataW H×List MemPlace} (h:DataW.trod enc Tryz.prog W 0 (fun _=>true) q fuel 22 cs=some x) :
  ∃ (a:Option Addr) (cap:Nat) (l:List UInt8),cs=[.slice a l.length cap]/\l.length<=maxLen/\l.length<=cap/\zJf W a l:=by
 rcases open_ints Tryz.underlying22 Tryz.underlying5 ByP.cellsB h with ⟨rfl,_⟩ | ⟨a,len,cap,zs,rfl,_,hl,hm,hz,_,k,Q⟩
 ·exact ⟨none,0,[],rfl,yj _,yj _,yQ rfl⟩
 simp only [if_true] at hz
 have K:((zs.take len).map fun n=>UInt8.ofNat n.toNat).length=len:=by simp; omega
 refine ⟨some a,cap,(zs.take len).map fun n=>UInt8.ofNat n.toNat,by rw [K],by rw [K]; omega,by rw [K]; exact hl,?_⟩
 by_cases h0:len=0
 ·exact yQ (by rw [K]; exact h0)
 ·have c0:=k 0 (by omega)
  have hs:=zLw c0
  refine yR ⟨a.block,a.off,by rw [<- hs],?_,fun i hi=>?_⟩
  ·have:=block_lt_of_cell c0
   simpa [Addr.add] using this
  ·rw [K] at hi
   have hc:=k i (by omega)
   rw [hs,Addr.add_mid] at hc
   have hb:=range_u8 Q i
   have e:zs.getD i 0=zs[i]?.getD 0:=rfl
   rw [hc,zHw zs len i hi (by omega),e]
   obtain ⟨z,hz⟩:∃ z:Int,z=zs[i]?.getD 0:=⟨_,rfl⟩
   rw [<- hz] at hb ⊢
   congr 2
   have:(UInt8.ofNat z.toNat).toNat=z.toNat:=by
    rw [UInt8.toNat_ofNat']
    omega
   rw [this]
   omega
open Go
theorem zQp (h:W.ShapedOpen Tryz.prog):zFa W:=
 cell_of_shapedOpen_int (g:=0) (t:=3) (zero:=#[.int .i64 0]) h (of_decide_eq_true (by kernel_rfl)) (by kernel_rfl) rfl (by kernel_rfl) (by kernel_rfl) Tryz.underlying3
theorem LfP.lifted (os:Os) (started:os.Started) (H:Type) (enc:TypeId×Value->H) :
  ReturnsInHanded {} Tryz.checked os 3 .any (fun w args=>(Rows.fnLoadedSpec.pre enc Tryz.prog Tryz.f3 Rows.fnLoadedRow.domain false w args/\laidMetH Tryz.prog Rows.fnLoadedRow.laid w)/\sizedMet enc Tryz.prog Tryz.f3 (OpenSpec.ofChange Rows.fnLoadedSpec) false w args)
   (Rows.fnLoadedSpec.post enc Tryz.prog Tryz.f3 false true false false):=by
 refine returnsInHanded_of_calls (C:=Tryz.checked) ByP.own started (by kernel_rfl)
  (ChangeSpec.witness_shaped (enc:=enc) (C:=Tryz.checked) (os:=os) (X:=fun w _=>laidMetH Tryz.prog Rows.fnLoadedRow.laid w) false (World.laidAll Tryz.prog os Rows.fnLoadedRow.laid) #[.slice none 0 0] 8 (World.laidAll_os _ _ _)
   (World.shaped_of_ZipB (by kernel_rfl) (by kernel_rfl)) (by kernel_rfl) (by kernel_rfl) (by kernel_rfl)
   (by rw [MakeChecks.laidMetH_plain _ _ _ (by kernel_rfl)]; exact laidMet_laidAll _ (by kernel_rfl) (by kernel_rfl))) ?_
 intro w tape i _ V _ U Y _
 obtain ⟨_,_,_,fn',y,_,_,_,_,K⟩:=U
 obtain rfl:fn'=Tryz.f3:=Option.some.inj (y.symm.trans Tryz.func3)
 obtain ⟨⟨⟨ds,gs,before,hw,_⟩,_⟩,_⟩:=Y
 have hW:=DataW.Whole.of_heap (w':=w.forCall tape i) (by rfl) hw
 suffices hc:Calls Tryz.prog 3 i.args (w.forCall tape i) fun e W'=>∃ v,e = .returned v/\Rows.fnLoadedSpec.post enc Tryz.prog Tryz.f3 false true false false (w.forCall tape i) i.args v W' from
  hc.mono fun e W' ⟨v,he,hp⟩=>by
   subst he
   exact ChangeSpec.post_blind hp
 generalize w.forCall tape i=W at *
 generalize i.args=args at *
 have Q:∀ (j:Nat) t v,Tryz.f3.params[j]?=some t->args[j]?=some v->Value.okWide Tryz.prog W .any w.heap.size t v:=K
 have P:=hW
 obtain ⟨p,q,J,hV,rfl,A,B⟩:=hW
 have hA:DataW.TrodAll enc Tryz.prog W 0 (fun _=>true) true Tryz.f3.params.toList args.toList ds p:=J
 rw [Tryz.params3] at hA Q
 obtain ⟨v0,b,d0,ds0,p0,q0,u,rfl,rfl,h0,r0⟩:=trodAll_cons hA
 obtain ⟨rfl,rfl,rfl⟩:=trodAll_nil r0
 obtain rfl:args=#[v0]:=by cases args; simp_all
 obtain ⟨rfl,rfl⟩:=trodVars_none hV
 have k0:=h0
 have lt0:∀ x∈p0,x.block<W.heap.size:=by obtain ⟨m,hm⟩:=k0; exact DataW.trod_lt m _ _ _ hm
 obtain ⟨a,len,cap,rfl⟩:=okWide_slice Tryz.underlying22 (Q 0 22 v0 rfl rfl)
 obtain ⟨a',k,l,e,e1,e2,e3⟩:∃ (a':Option Addr) (k:Nat) (l:List UInt8),[Value.slice a len cap]=[.slice a' l.length k]/\l.length<=maxLen/\l.length<=k/\zJf W a' l:=by
  obtain ⟨fuel,hf⟩:=h0
  exact zKz hf
 simp at e
 obtain ⟨rfl,rfl,rfl⟩:=e
 clear J K
 refine (zNI a cap l W e1 e2 e3 (zQp V)).mono fun e W' ⟨he,bel⟩=>?_
 subst he
 exact ⟨_,rfl,_,_,_,[],_,[],P,trodAll_mk1 (shut_bool Tryz.underlying4 _),(trodAll_cons_mk (Below.trod ByP.laidOut (by kernel_rfl) (of_decide_eq_true (by kernel_rfl)) k0 bel lt0) trodAll_mk0),rfl,bel.frame _,fun h=>by cases h⟩
theorem zLx:Rows.FnLoadedSaid:=
 OpenClaim.holds_of_wide 3 Tryz.f3 rfl rfl rfl rfl rfl rfl rfl ⟨rfl,rfl,rfl,rfl,rfl⟩ rfl rfl rfl rfl rfl (by as_aux_lemma=>kernel_rfl) Tryz.func3 (by as_aux_lemma=>kernel_rfl)
  (of_decide_eq_true (by as_aux_lemma=>kernel_rfl)) (by unfold Func.isWrapper; first | (rw [yO (by as_aux_lemma=>decide +kernel)]; kernel_rfl) | (rw [yN (by as_aux_lemma=>decide +kernel)]; exact ⟨rfl,rfl⟩))
  (fun os started H enc _=>LfP.lifted os started H enc)
theorem loaded_holds:Rows.FnLoadedCardSaid:=
 Claim7.holds_tied_plain_at .later [] [.data,.data,.data,.data,.sentinel,.sentinel,.pinned] true Rows.fnLoadedCard.stood.harness true
  zLx (fun _ h=>by cases h) (by as_aux_lemma=>kernel_rfl) (fun _ h=>by cases h) fnLoaded_row_tie rfl ⟨rfl,rfl⟩ (by as_aux_lemma=>kernel_rfl) rfl
  (fun f fn hf k=>by
   obtain rfl:f=3:=Option.some.inj ((show Tryz.prog.funcNamed "loop.example/s0059/laws.FnLoaded" = some 3 by kernel_rfl).symm.trans hf) |>.symm
   obtain rfl:fn=Tryz.f3:=(Option.some.inj (Tryz.func3.symm.trans k)).symm
   exact ⟨by kernel_rfl,fun j t ht=>by
    rw [Tryz.params3] at ht
    have hm:t∈[22]:=by simpa using Array.mem_of_getElem? ht
    have H:([22].all fun u=>!Tryz.prog.wantsStandIn u)=true:=by kernel_rfl
    exact (show Tryz.prog.wantsStandIn t=false by simpa using List.all_eq_true.1 H t hm)⟩)
  (by as_aux_lemma=>kernel_rfl)
#print axioms loaded_holds
end Go.Proofs.YtgbkgkdpdfdokaaGreatDoor
