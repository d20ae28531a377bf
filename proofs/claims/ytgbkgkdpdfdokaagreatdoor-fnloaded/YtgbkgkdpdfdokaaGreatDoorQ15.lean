import Derived.Test.YtgbkgkdpdfdokaaGreatDoorQ14
namespace Go.Proofs.YtgbkgkdpdfdokaaGreatDoor
set_option linter.all false
set_option maxHeartbeats 16000000
set_option maxRecDepth 100000
open Go.RowKit
variable {W w:World} {a:Option Addr} {b c cap ct g gt p rp:Nat} {bs:List UInt8} {ns:List OpR} {ws:List ByteArray}
structure LnS (w wr:JY) (rp cap:Nat) (a:Option Addr) (bs:List UInt8) (gt ct:Nat) (ns:List OpR) (g c:Nat) (ws:List JZ) (p:Nat):Prop where
 row:zZ wr w.heap.size (.slice (some ⟨g,0,none⟩) ws.length c) ws
 rd:RdS wr rp a cap bs p
 kp:zG w wr rp
 tb:wr.cell? ⟨w.heap.size,0,none⟩=some (.slice (some ⟨gt,0,none⟩) ns.length ct)
 gne:w.heap.size<g
 rpl:rp<w.heap.size
 sz:∀ s∈ws,s.size<=16
theorem LnS.below {w wr wr':JY} {rp cap:Nat} {a:Option Addr} {bs:List UInt8} {gt ct:Nat} {ns:List OpR} {g c:Nat} {ws:List JZ} {p:Nat} (h:LnS w wr rp cap a bs gt ct ns g c ws p) (hb:Below wr.heap.size wr wr'):LnS w wr' rp cap a bs gt ct ns g c ws p:=
 ⟨h.row.below hb,h.rd.below hb,h.kp.trans (zG.of_below hb),(hb.cell (p:=⟨w.heap.size,0,none⟩) (block_lt_of_cell h.tb)).trans h.tb,h.gne,h.rpl,h.sz⟩
theorem LnS.read {wr wr':JY} {p':Nat} (h:LnS w wr rp cap a bs gt ct ns g c ws p) (hk:zG wr wr' rp) (hr:RdS wr' rp a cap bs p'):LnS w wr' rp cap a bs gt ct ns g c ws p':=by
 have H:=h.rpl
 have hg:=h.gne
 exact ⟨h.row.grown (zr hk) (fun k hk e=>by simp [Value.ownBlock] at hk; injection e with e; omega),hr,h.kp.trans hk,(hk.cell (b:=w.heap.size) (block_lt_of_cell h.tb) (by omega) 0).trans h.tb,h.gne,h.rpl,h.sz⟩
theorem LnS.app {w6:JY} {t:JZ} {v6:Value} (h:LnS w W rp cap a bs gt ct ns g c ws p) (ht:t.size<=16)
  (K:w6.ownsRow w.heap.size 9 1 v6 (ws.length+1) (zI ws++zI [t])) (H:(W.alloc (.cells #[.string t] 9)).grownBy w6 (some g)) (Q:v6.ownBlock=some g\/∃ k,v6.ownBlock=some k/\w.heap.size<k) :
  ∃ g6 c6 ws6,ws6=ws++[t]/\v6 = .slice (some ⟨g6,0,none⟩) ws6.length c6/\LnS w w6 rp cap a bs gt ct ns g6 c6 ws6 p:=by
 have h1:=h.below (zC W (.cells #[.string t] 9))
 have hz:=h1.kp.size
 have hr:zZ w6 w.heap.size v6 (ws++[t]):=zZ.join K rfl
 obtain ⟨g6,c6,rfl⟩:=hr.has (by simp)
 have x:=h.rpl
 have hg:=h.gne
 have q:w.heap.size<g6:=by
  rcases Q with e | ⟨k,e,hk⟩
  ·simp [Value.ownBlock] at e; omega
  ·simp [Value.ownBlock] at e; omega
 refine ⟨g6,c6,ws++[t],rfl,rfl,hr,h1.rd.row H (by omega),⟨H.os.trans h1.kp.os,H.tape.trans h1.kp.tape,H.output.trans h1.kp.output,yr h1.kp.size H.size,fun i hi a=>(H.block i (yi hi h1.kp.size) (fun e=>by injection e with e; omega)).trans (h1.kp.block i hi a)⟩,?_,q,x,?_⟩
 ·exact (zE H (b:=w.heap.size) (block_lt_of_cell h1.tb) (by intro e; injection e with e; omega) 0).trans h1.tb
 ·intro s hs
  rcases List.mem_append.1 hs with hs | hs
  ·exact h.sz s hs
  ·simp at hs; subst hs; exact ht
theorem zOT (o:OpR) {u0 u1 u2 u3:Value} (h0:W.cell? ⟨b,0,none⟩=some u0) (h1:W.cell? ⟨b,1,none⟩=some u1) (h2:W.cell? ⟨b,2,none⟩=some u2) (h3:W.cell? ⟨b,3,none⟩=some u3) :
  zCg ((((W.setCell ⟨b,0,none⟩ (.string o.s)).setCell ⟨b,1,none⟩ (.int .i64 o.k)).setCell ⟨b,2,none⟩ (.int .i64 o.l)).setCell ⟨b,3,none⟩ (.int .i64 o.sd)).drew b o:=by
 refine zCg.below (w:=(((W.setCell ⟨b,0,none⟩ (.string o.s)).setCell ⟨b,1,none⟩ (.int .i64 o.k)).setCell ⟨b,2,none⟩ (.int .i64 o.l)).setCell ⟨b,3,none⟩ (.int .i64 o.sd)) ?_ (yG _ _).drew
 have ne:∀ (i j:Nat) (v:Value) (X:JY),i≠j->(X.setCell ⟨b,i,none⟩ v).cell? ⟨b,j,none⟩=X.cell? ⟨b,j,none⟩:=fun i j v X h=>yg _ _ _ _ (fun e=>h (by injection e with _ e))
 have s0:=yo W ⟨b,0,none⟩ (.string o.s) h0
 have s1:=yo (W.setCell ⟨b,0,none⟩ (.string o.s)) ⟨b,1,none⟩ (.int .i64 o.k) ((ne 0 1 _ _ (by decide)).trans h1)
 have s2:=yo ((W.setCell ⟨b,0,none⟩ (.string o.s)).setCell ⟨b,1,none⟩ (.int .i64 o.k)) ⟨b,2,none⟩ (.int .i64 o.l) ((ne 1 2 _ _ (by decide)).trans ((ne 0 2 _ _ (by decide)).trans h2))
 have s3:=yo (((W.setCell ⟨b,0,none⟩ (.string o.s)).setCell ⟨b,1,none⟩ (.int .i64 o.k)).setCell ⟨b,2,none⟩ (.int .i64 o.l)) ⟨b,3,none⟩ (.int .i64 o.sd) ((ne 2 3 _ _ (by decide)).trans ((ne 1 3 _ _ (by decide)).trans ((ne 0 3 _ _ (by decide)).trans h3)))
 exact ⟨(ne 3 0 _ _ (by decide)).trans ((ne 2 0 _ _ (by decide)).trans ((ne 1 0 _ _ (by decide)).trans s0)),(ne 3 1 _ _ (by decide)).trans ((ne 2 1 _ _ (by decide)).trans s1),(ne 3 2 _ _ (by decide)).trans s2,s3⟩
theorem zLW {B:Nat} (h:Below B w W) (hb:B<=b) (v0 v1 v2 v3:Value):Below B w ((((W.setCell ⟨b,0,none⟩ v0).setCell ⟨b,1,none⟩ v1).setCell ⟨b,2,none⟩ v2).setCell ⟨b,3,none⟩ v3).drew:=
 ((((h.setCell hb v0).setCell hb v1).setCell hb v2).setCell hb v3).drew
theorem zP4 (w:JY):∃ W,W=w.alloc (.cells #[.string ⟨#[]⟩,.int .i64 0,.int .i64 0,.int .i64 0] 57)/\Below w.heap.size w W/\(W.cell? ⟨w.heap.size,0,none⟩=some (.string ⟨#[]⟩)/\W.cell? ⟨w.heap.size,1,none⟩=some (.int .i64 0)/\W.cell? ⟨w.heap.size,2,none⟩=some (.int .i64 0)/\W.cell? ⟨w.heap.size,3,none⟩=some (.int .i64 0)) /\
  W.frozen? ⟨w.heap.size,0,none⟩=false/\W.frozen? ⟨w.heap.size,1,none⟩=false/\W.frozen? ⟨w.heap.size,2,none⟩=false/\W.frozen? ⟨w.heap.size,3,none⟩=false:=
 ⟨_,rfl,zC _ _,⟨by simp [go_sem],by simp [go_sem],by simp [go_sem],by simp [go_sem]⟩,by simp [go_sem],by simp [go_sem],by simp [go_sem],by simp [go_sem]⟩
theorem zRN (k n:Nat) (hk:k<256) (hn:n≠0):∃ m,m=k/8%n/\m<n/\((k:Int)/8%(n:Int)=(m:Int))/\((m:Int)<(n:Int))/\((0:Int)<=(m:Int))/\(IntKind.i64.wrap ((k:Int)/8)=(k:Int)/8)/\(((n:Int)==0)=false)/\(((k:Int)/8).tmod (n:Int)=(m:Int))/\(0:Int)<(n:Int):=by
 have h:=Nat.mod_lt (k/8) (show 0<n by omega)
 refine ⟨_,rfl,h,by simp,by omega,by omega,Go.IntWalk.i64_in _ (by omega),yU.2 (by omega),?_,by omega⟩
 rw [yu (by omega)]
 simp
theorem zCU {ops:Array Oper} {rest:List Oper} {o:Oper} {b:Act} {Q:Exit->Act->World->Prop} {t:JZ} (Y:o.guard=none) (s x:Operand)
  (ho:o.op = .call { callee:=.builtin .append,args:=#[s,x],argTypes:=#[39,39] }) (hs:b.eval s = .slice (some ⟨g,0,none⟩) ws.length c) (h:LnS w W rp cap a bs gt ct ns g c ws p) (ad:Nat) (P:W.heap.size=ad) (hx:b.eval x = .slice (some ⟨ad,0,none⟩) 1 1) (ht:t.size<=16) (hl:ws.length<=90000)
  (next:∀ g6 c6 H w6,H=ws++[t]->LnS w w6 rp cap a bs gt ct ns g6 c6 H p->wpList Tryz.prog ops Q rest (b.put o.dst (.slice (some ⟨g6,0,none⟩) H.length c6)) w6):wpList Tryz.prog ops Q (o::rest) b (W.alloc (.cells #[.string t] 9)):=by
 obtain ⟨i0,y,v,u,X⟩:=zN zCL
 subst P
 refine yJ _ Y s x 39 ho w.heap.size 9 i0 _ 1 16 Tryz.underlying39 y v u X rfl (by decide) _ ws.length (zI ws) hs (h.below (zC _ _)).row ⟨W.heap.size,0,none⟩ 1 1 (zI [t]) hx rfl (ZG W t) (zT _) (by unfold maxLen; omega) (by omega) (by have:=h.kp.size; simp; omega) ?_
 intro v6 w6 K k J q
 obtain ⟨g6,c6,H,j,rfl,V⟩:=h.app ht K k (q.imp id (fun e=>⟨_,e,by have:w.heap.size<W.heap.size:=block_lt_of_cell h.tb; simp; omega⟩))
 exact next g6 c6 H w6 j V
def zLX (w:JY) (rp cap:Nat) (a:Option Addr) (bs:List UInt8) (D:List ByteArray->Nat->Prop) (e:Ending) (w':JY):Prop:=
 ∃ (g c q:Nat) (ws:List JZ),e = .returned (.slice (some ⟨g,0,none⟩) ws.length c)/\Hid (zZ w' w.heap.size (.slice (some ⟨g,0,none⟩) ws.length c) ws)/\1<=ws.length/\ws.length<=4000/\Hid (∀ s∈ws,s.size<=16)/\Hid (D ws q)/\Hid (RdS w' rp a cap bs q)/\Hid (zG w w' rp)
theorem LnS.post {p0:Nat} (h:LnS w W rp cap a bs gt ct ns g c ws p) (h1:1<=ws.length) (h2:ws.length<=3601) (h3:lnF bs ns 3601 [] false 0 p0=(ws,p)) :
  zLX w rp cap a bs (fun ws q=>lnF bs ns 3601 [] false 0 p0=(ws,q)) (.returned (.slice (some ⟨g,0,none⟩) ws.length c)) W:=
 ⟨g,c,p,ws,rfl,zB h.row,h1,by omega,zB h.sz,zB h3,zB h.rd,zB h.kp⟩
theorem zLY (rp cap p gt ct:Nat) (a:Option Addr) (bs:List UInt8) (ns:List OpR) (w:JY) (h:RdS w rp a cap bs p) (hl:bs.length<=1200) (h5:ns.length<=100000) (ht:Ops w gt 0 ns) (hr:gt<w.heap.size) (hm:gt≠rp) (hs:∀ i,(atO ns i).s.size<=16) :
  Calls Tryz.prog 73 #[.pointer (some ⟨rp,0,none⟩),.agg #[.slice (some ⟨gt,0,none⟩) ns.length ct]] w (zLX w rp cap a bs (fun ws q=>lnF bs ns 3601 [] false 0 p=(ws,q))):=by
 have hy:=h.lt
 have H:=zB h
 have HT:=zB ht
 have hh:=zB hs
 clear h ht hs
 go_enter Tryz.func73,Tryz.ntmps73
 go_wp2_with fail
 have hg:=zB (show LnS w ((w.alloc (.cells #[.slice (some ⟨gt,0,none⟩) ns.length ct] 33)).alloc (.cells #[] 9)) rp cap a bs gt ct ns (w.heap.size+1) 0 [] p from by
  have hb:Below w.heap.size w ((w.alloc (.cells #[.slice (some ⟨gt,0,none⟩) ns.length ct] 33)).alloc (.cells #[] 9)):=(zC _ _).alloc (by simp) _
  refine ⟨?_,(zA H).below hb,zG.of_below hb,by simp [go_sem],by omega,hy,fun s hs=>by simp at hs⟩
  have:=zZ.nil (w:=w.alloc (.cells #[.slice (some ⟨gt,0,none⟩) ns.length ct] 33)) (B:=w.heap.size) (by simp)
  simpa using this)
 go_loopg [5,6,7] (3601) (fun k ov bv nv wr=>∃ (g c:Nat) (ws:List JZ) (bh:Bool) (op q:Nat),ov = .slice (some ⟨g,0,none⟩) ws.length c/\bv = .bool bh/\nv = .int .i64 (op:Int)/\Hid (LnS w wr rp cap a bs gt ct ns g c ws q)/\Hid (LnP bs ns p ws bh op q k))
 case atStart=>exact ⟨w.heap.size+1,0,[],false,0,p,rfl,rfl,rfl,hg,zB (LnP.start bs ns p hl)⟩
 case round=>
  clear H hg
  obtain ⟨g,c,ws,bh,op,q,rfl,rfl,rfl,HS,HP⟩:=hrel
  obtain ⟨r,hz⟩:=(zA HP).len
  obtain ⟨L,HL⟩:∃ L,Hid (L=bs.length-q):=⟨_,zB rfl⟩
  have h6:=(zA HS).kp.size
  have h7:=(zA HS).rd.le
  go_upto_region 4 with fail
  go_cut [26] from 11 to 121 (fun s26 wc=>∃ bC:Bool,s26 = .bool bC/\Hid (bC=decide ((ws.length<30/\q<bs.length)\/bh=false\/0<op))/\Hid (LnS w wc rp cap a bs gt ct ns g c ws q))
  case first=>
   cases bh with
   | false=>
    by_cases hn:ws.length<30
    ·have F:(ws.length:Int)<30:=by omega
     have V:=zB (zCX rp cap q a bs _ (zA HS).rd hl)
     rw [<- zA HL] at V
     go_wp2_with fail
     (with_reducible refine (zA V).mono ?_)
     rintro e w2 ⟨rfl,H2,hb2⟩
     have v:=zB ((zA HS).below hb2)
     clear V H2 hb2
     by_cases hL:L=0
     ·have N:¬ (0:Int)<(L:Int):=by omega
      go_wp2_with fail
      go_meet
      case rel=>exact ⟨_,rfl,zB (by have:=zA HL; simp <;> omega),v⟩
     ·have N:(0:Int)<(L:Int):=by omega
      go_wp2_with fail
      go_meet
      case rel=>exact ⟨_,rfl,zB (by have:=zA HL; simp <;> omega),v⟩
    ·have F:¬ (ws.length:Int)<30:=by omega
     have v:=HS
     go_wp2_with fail
     go_meet
     case rel=>exact ⟨_,rfl,zB (by have:=zA HL; simp <;> omega),v⟩
   | true=>
    by_cases hn:ws.length<30
    ·have F:(ws.length:Int)<30:=by omega
     have V:=zB (zCX rp cap q a bs _ (zA HS).rd hl)
     rw [<- zA HL] at V
     go_wp2_with fail
     (with_reducible refine (zA V).mono ?_)
     rintro e w2 ⟨rfl,H2,hb2⟩
     have v:=zB ((zA HS).below hb2)
     clear V H2 hb2
     by_cases hL:L=0
     ·have N:¬ (0:Int)<(L:Int):=by omega
      by_cases E:0<op
      ·have b:(0:Int)<(op:Int):=by omega
       go_wp2_with fail
       go_meet
       case rel=>exact ⟨_,rfl,zB (by have:=zA HL; simp <;> omega),v⟩
      ·have b:¬ (0:Int)<(op:Int):=by omega
       go_wp2_with fail
       go_meet
       case rel=>exact ⟨_,rfl,zB (by have:=zA HL; simp <;> omega),v⟩
     ·have N:(0:Int)<(L:Int):=by omega
      go_wp2_with fail
      go_meet
      case rel=>exact ⟨_,rfl,zB (by have:=zA HL; simp <;> omega),v⟩
    ·have F:¬ (ws.length:Int)<30:=by omega
     have v:=HS
     by_cases E:0<op
     ·have b:(0:Int)<(op:Int):=by omega
      go_wp2_with fail
      go_meet
      case rel=>exact ⟨_,rfl,zB (by have:=zA HL; simp <;> omega),v⟩
     ·have b:¬ (0:Int)<(op:Int):=by omega
      go_wp2_with fail
      go_meet
      case rel=>exact ⟨_,rfl,zB (by have:=zA HL; simp <;> omega),v⟩
  case rest=>
   obtain ⟨bC,rfl,HC,v⟩:=hcut
   cases bC with
   | false=>
    have hD:=zA HC
    rw [eq_comm,yT] at hD
    have hb:bh=true:=by cases bh; exact yP (yR (yQ rfl)) hD; rfl
    subst hb
    have h1:=(zA HP).one rfl
    have HF:=zB ((zA HP).fin hD)
    clear HC hD
    go_wp2_with fail
    go_ret
    exact (zA v).post h1 r (zA HF)
   | true=>
    go_wp2_with fail
    (with_reducible refine (zAj rp cap q a bs _ (zA v).rd hl).mono ?_)
    rintro e w3 ⟨⟨k,rfl,hk,HK⟩,H3,HP3⟩
    have D:=zB ((zA v).read (zA HP3) (zA H3))
    have tb3:=(zA D).tb
    have z3:=(zA D).kp.size
    have hp:w.heap.size<w3.heap.size:=block_lt_of_cell tb3
    have h8:¬ w.heap.size=w3.heap.size:=by omega
    have h4:¬ w3.heap.size=w.heap.size:=by omega
    clear v H3 HP3
    go_upto_if 33 with fail
    go_cut [9] from 11 to 121 (fun s9 wc=>∃ o:OpR,s9 = .pointer (some ⟨w3.heap.size,0,none⟩)/\Hid (o=atO ns (k/8%ns.length))/\Hid (zCg wc w3.heap.size o)/\Hid (LnS w wc rp cap a bs gt ct ns g c ws (adv bs q)))
    case first=>
     by_cases h0:ns.length=0
     ·have e0:¬ (0:Int)<(ns.length:Int):=by omega
      have Q:=zB ((zA D).below (zC w3 (.cells #[.string ⟨#[]⟩,.int .i64 0,.int .i64 0,.int .i64 0] 57)))
      have J:=zB (show OpR.zero=atO ns (k/8%ns.length) by rw [yY.1 h0]; rfl)
      clear D h0
      go_wp2_with fail
      go_meet
      case rel=>exact ⟨OpR.zero,rfl,J,zB ⟨by simp [go_sem,OpR.zero],by simp [go_sem,OpR.zero],by simp [go_sem,OpR.zero],by simp [go_sem,OpR.zero]⟩,Q⟩
     ·obtain ⟨m,he,hx,e4,e5,e6,e7,e9,e10,e0⟩:=zRN k ns.length hk h0
      have T:gt<w3.heap.size:=by omega
      obtain ⟨W4,Z,S,⟨x0,x1,x2,x3⟩,y0,y1,y2,y3⟩:=zP4 w3
      have hu:=zB (((zA D).kp.ops (zA HT) hr hm).below S T)
      obtain ⟨b0,b1,b2,b3⟩:=(zA hu) m hx
      simp only [yV] at b0 b1 b2 b3
      obtain ⟨o,R⟩:∃ o,o=atO ns m:=⟨_,rfl⟩
      rw [<- R] at b0 b1 b2 b3
      have nn3:¬ gt=w3.heap.size:=by omega
      have nn2:¬ w3.heap.size=gt:=by omega
      go_wp2_with fail
      have tb4:=(S.cell (p:=⟨w.heap.size,0,none⟩) hp).trans tb3
      rw [<- Z]
      have J:=zB (show o=atO ns (k/8%ns.length) by rw [R,he])
      clear Z tb3 R he
      go_region_held3 (fun W=>W.cell? ⟨w.heap.size,0,none⟩=some (.slice (some ⟨gt,0,none⟩) ns.length ct)/\W.cell? ⟨gt,m*4,none⟩=some (.string o.s)/\W.cell? ⟨gt,m*4+1,none⟩=some (.int .i64 o.k)/\W.cell? ⟨gt,m*4+2,none⟩=some (.int .i64 o.l)/\W.cell? ⟨gt,m*4+3,none⟩=some (.int .i64 o.sd)) (go_keep) (fail)
      obtain ⟨W5,n⟩:∃ W5,W5=((((W4.setCell ⟨w3.heap.size,0,none⟩ (.string o.s)).setCell ⟨w3.heap.size,1,none⟩ (.int .i64 o.k)).setCell ⟨w3.heap.size,2,none⟩ (.int .i64 o.l)).setCell ⟨w3.heap.size,3,none⟩ (.int .i64 o.sd)).drew:=⟨_,rfl⟩
      rw [<- n]
      have G:=zB (show zCg W5 w3.heap.size o by rw [n]; exact zOT o x0 x1 x2 x3)
      have Q:=zB ((zA D).below (show Below w3.heap.size w3 W5 by rw [n]; exact zLW S (yh _) _ _ _ _))
      clear n
      go_wp2_with fail
      go_meet
      case rel=>exact ⟨o,rfl,J,G,Q⟩
    case rest=>
     obtain ⟨o,rfl,J,G,Q⟩:=hcut
     rename World=>W5
     have f:o.s.size<=16:=by rw [zA J]; exact (zA hh) _
     obtain ⟨q0,q1,q2,q3⟩:=zA G
     cases bh with
     | false=>
      by_cases h1:k%8=1/\ws.length<30
      ·obtain ⟨hd,hn⟩:=h1
       have e81:((k:Int)%8==1)=true:=by simp; omega
       have F:(ws.length:Int)<30:=by omega
       go_wp2_with (at_builtin; refine zCU (t:=⟨#[40]⟩) rfl (.tmp 54) (.tmp 55) rfl rfl (zA Q) W5.heap.size rfl rfl (by decide) (by omega) ?next)
       case next=>
        intro g6 c6 y w6 X x
        obtain ⟨f6,Y,K⟩:=(zA HP).stepA (zA HK) hd hn
        rw [show _=y from X.symm] at K
        have P:=zB x
        have j:=zB K
        clear x K X Q
        go_wp2_with fail
        go_roundg f6
        case measure=>exact Y
        case rel=>exact ⟨g6,c6,y,false,op+1,adv bs q,rfl,rfl,(by first | rfl | (congr 1; omega)),P,j⟩
      ·have hA:=h1
       by_cases h2:4<k%8/\o.k=1
       ·obtain ⟨z,hf⟩:=h2
        have e81:((k:Int)%8==1)=false:=by simp; omega
        have e84:(4:Int)<(k:Int)%8:=by omega
        have eo1:(o.k==1)=true:=by simp [hf]
        go_wp2_with (at_builtin; refine zCU (t:=o.s) rfl (.tmp 67) (.tmp 70) rfl rfl (zA Q) W5.heap.size rfl rfl (f) (by omega) ?next)
        case next=>
         intro g6 c6 y w6 X x
         obtain ⟨f6,Y,K⟩:=(zA HP).stepB (zA HK) hA z (by rw [<- zA J]; exact hf)
         rw [<- zA J] at K
         rw [show _=y from X.symm] at K
         have P:=zB x
         have j:=zB K
         clear x K X Q
         go_wp2_with fail
         go_roundg f6
         case measure=>exact Y
         case rel=>exact ⟨g6,c6,y,false,op,adv bs q,rfl,rfl,(by first | rfl | (congr 1; omega)),P,j⟩
       ·have hB:¬ (4<k%8/\(atO ns (k/8%ns.length)).k=1):=by rw [<- zA J]; exact h2
        by_cases hd:k%8=1
        case' pos=>
         have e81:((k:Int)%8==1)=true:=by simp; omega
         have F:¬ (ws.length:Int)<30:=by omega
         have e84:¬ (4:Int)<(k:Int)%8:=by omega
        case' neg=>
         have e81:((k:Int)%8==1)=false:=by simp; omega
         by_cases z:4<k%8
         case' pos=>
          have e84:(4:Int)<(k:Int)%8:=by omega
          have eo1:(o.k==1)=false:=by simp; omega
         case' neg=>have e84:¬ (4:Int)<(k:Int)%8:=by omega
        all_goals
         have i1:(0:Int)<=(k:Int)/8%4:=by omega
         have i2:(k:Int)/8%4<=3:=by omega
         go_wp2_with (at_builtin; refine zCU (t:=(⟨#[97]⟩:JZ)++(⟨#[49,50,51]⟩:JZ).extract 0 (k/8%4)) rfl (.tmp 72) (.tmp 78) rfl rfl (zA Q) W5.heap.size rfl rfl (by rw [ByteArray.size_append,yw]; show 1+_<=16; have:(⟨#[49,50,51]⟩:JZ).size=3:=rfl; omega) (by omega) ?next)
         case next=>
          intro g6 c6 y w6 X x
          obtain ⟨f6,Y,K⟩:=(zA HP).stepC (zA HK) hA hB
          rw [show ws++[nmK k]=y from X.symm] at K
          have P:=zB x
          have j:=zB K
          clear x K X Q
          go_wp2_with fail
          go_roundg f6
          case measure=>exact Y
          case rel=>exact ⟨g6,c6,y,true,op,adv bs q,rfl,rfl,(by first | rfl | (congr 1; omega)),P,j⟩
     | true=>
      by_cases E:0<op
      ·have b:(0:Int)<(op:Int):=by omega
       by_cases hi:k%8=0
       ·have e80:((k:Int)%8==0)=true:=by simp; omega
        go_wp2_with (at_builtin; refine zCU (t:=⟨#[41]⟩) rfl (.tmp 97) (.tmp 98) rfl rfl (zA Q) W5.heap.size rfl rfl (by decide) (by omega) ?next)
        case next=>
         intro g6 c6 y w6 X x
         obtain ⟨f6,Y,K⟩:=(zA HP).stepD (zA HK) E (yQ hi)
         rw [show _=y from X.symm] at K
         have P:=zB x
         have j:=zB K
         clear x K X Q
         go_wp2_with fail
         go_roundg f6
         case measure=>exact Y
         case rel=>exact ⟨g6,c6,y,true,op-1,adv bs q,rfl,rfl,(by first | rfl | (congr 1; omega)),P,j⟩
       ·have e80:((k:Int)%8==0)=false:=by simp; omega
        by_cases hn:ws.length<30
        ·have ha:¬ (30:Int)<=(ws.length:Int):=by omega
         have hq:q<bs.length:=zJA (by rw [<- zA HK]; omega)
         have V:=zB (zCX rp cap (adv bs q) a bs _ (zA Q).rd hl)
         obtain ⟨LM,O⟩:∃ LM,Hid (LM=bs.length-adv bs q):=⟨_,zB rfl⟩
         rw [<- zA O] at V
         go_wp2_with fail
         (with_reducible refine (zA V).mono ?_)
         rintro e w5 ⟨rfl,H5,hb5⟩
         have hc:=zB ((zA Q).below hb5)
         have ho:=zB ((zA G).below hb5)
         clear V H5 q0 q1 q2 q3 Q G hb5
         obtain ⟨q0,q1,q2,q3⟩:=zA ho
         have Q:=hc
         clear hc
         rename World=>W5
         by_cases hM:LM=0
         ·have hj:((LM:Nat):Int)<=0:=by omega
          go_wp2_with (at_builtin; refine zCU (t:=⟨#[41]⟩) rfl (.tmp 97) (.tmp 98) rfl rfl (zA Q) W5.heap.size rfl rfl (by decide) (by omega) ?next)
          case next=>
           intro g6 c6 y w6 X x
           obtain ⟨f6,Y,K⟩:=(zA HP).stepD (zA HK) E (yR (yR (by have:=zA O; omega)))
           rw [show _=y from X.symm] at K
           have P:=zB x
           have j:=zB K
           clear x K X Q
           go_wp2_with fail
           go_roundg f6
           case measure=>exact Y
           case rel=>exact ⟨g6,c6,y,true,op-1,adv bs q,rfl,rfl,(by first | rfl | (congr 1; omega)),P,j⟩
         ·have hj:¬ ((LM:Nat):Int)<=0:=by omega
          have hE:¬ (0<op/\(k%8=0\/30<=ws.length\/bs.length<=adv bs q)):=by have:=zA O; omega
          by_cases u:o.k=3
          ·have eo3:(o.k==3)=true:=by simp [u]
           go_wp2_with (at_builtin; refine zCU (t:=o.s) rfl (.tmp 105) (.tmp 108) rfl rfl (zA Q) W5.heap.size rfl rfl (f) (by omega) ?next)
           case next=>
            intro g6 c6 y w6 X x
            obtain ⟨f6,Y,K⟩:=((zA HP).stepE (zA HK) hq hn hE).1 (by rw [<- zA J]; exact u)
            rw [<- zA J] at K
            rw [show _=y from X.symm] at K
            have P:=zB x
            have j:=zB K
            clear x K X Q
            go_wp2_with fail
            go_roundg f6
            case measure=>exact Y
            case rel=>exact ⟨g6,c6,y,true,op,adv bs q,rfl,rfl,(by first | rfl | (congr 1; omega)),P,j⟩
          ·have eo3:(o.k==3)=false:=by simp [u]
           by_cases A:o.k=2
           ·have eo2:(o.k==2)=true:=by simp [A]
            go_wp2_with (at_builtin; refine zCU (t:=o.s) rfl (.tmp 113) (.tmp 116) rfl rfl (zA Q) W5.heap.size rfl rfl (f) (by omega) ?next)
            case next=>
             intro g6 c6 y w6 X x
             obtain ⟨f6,Y,K⟩:=((zA HP).stepE (zA HK) hq hn hE).2.1 (by rw [<- zA J]; exact A)
             rw [<- zA J] at K
             rw [show _=y from X.symm] at K
             have P:=zB x
             have j:=zB K
             clear x K X Q
             go_wp2_with fail
             go_roundg f6
             case measure=>exact Y
             case rel=>exact ⟨g6,c6,y,false,op,adv bs q,rfl,rfl,(by first | rfl | (congr 1; omega)),P,j⟩
           ·have eo2:(o.k==2)=false:=by simp [A]
            have d:=zB (zCX rp cap (adv bs q) a bs _ (zA Q).rd hl)
            obtain ⟨L2,C⟩:∃ L2,Hid (L2=bs.length-adv bs q):=⟨_,zB rfl⟩
            rw [<- zA C] at d
            go_wp2_with fail
            (with_reducible refine (zA d).mono ?_)
            rintro e w8 ⟨rfl,H8,hb8⟩
            have I:=zB ((zA Q).below hb8)
            clear d H8 Q hb8
            have U:=((zA HP).stepE (zA HK) hq hn hE).2.2
            have h3:(atO ns (k/8%ns.length)).k≠3:=by rw [<- zA J]; exact u
            have h2:(atO ns (k/8%ns.length)).k≠2:=by rw [<- zA J]; exact A
            by_cases hw:L2=0
            ·have M:((L2:Nat):Int)<=0:=by omega
             have HF:=zB (U.2 h3 h2 (by have:=zA C; omega))
             have h1:=(zA HP).one rfl
             clear U h3 h2
             go_wp2_with fail
             go_ret
             exact (zA I).post h1 r (zA HF)
            ·have M:¬ ((L2:Nat):Int)<=0:=by omega
             obtain ⟨f6,Y,K⟩:=U.1 h3 h2 (by have:=zA C; omega)
             have j:=zB K
             clear K U h3 h2
             go_wp2_with fail
             go_roundg f6
             case measure=>exact Y
             case rel=>exact ⟨g,c,ws,true,op,adv bs q,rfl,rfl,rfl,I,j⟩
        ·have ha:(30:Int)<=(ws.length:Int):=by omega
         go_wp2_with (at_builtin; refine zCU (t:=⟨#[41]⟩) rfl (.tmp 97) (.tmp 98) rfl rfl (zA Q) W5.heap.size rfl rfl (by decide) (by omega) ?next)
         case next=>
          intro g6 c6 y w6 X x
          obtain ⟨f6,Y,K⟩:=(zA HP).stepD (zA HK) E (yR (yQ (by omega)))
          rw [show _=y from X.symm] at K
          have P:=zB x
          have j:=zB K
          clear x K X Q
          go_wp2_with fail
          go_roundg f6
          case measure=>exact Y
          case rel=>exact ⟨g6,c6,y,true,op-1,adv bs q,rfl,rfl,(by first | rfl | (congr 1; omega)),P,j⟩
      ·have b:¬ (0:Int)<(op:Int):=by omega
       have hv:ws.length<30/\q<bs.length:=by
        have hD:=zA HC
        rw [eq_comm,decide_eq_true_iff] at hD
        rcases hD with h | h | h
        ·exact h
        ·cases h
        ·omega
       obtain ⟨hn,hq⟩:=hv
       have hE:¬ (0<op/\(k%8=0\/30<=ws.length\/bs.length<=adv bs q)):=by omega
       by_cases u:o.k=3
       ·have eo3:(o.k==3)=true:=by simp [u]
        go_wp2_with (at_builtin; refine zCU (t:=o.s) rfl (.tmp 105) (.tmp 108) rfl rfl (zA Q) W5.heap.size rfl rfl (f) (by omega) ?next)
        case next=>
         intro g6 c6 y w6 X x
         obtain ⟨f6,Y,K⟩:=((zA HP).stepE (zA HK) hq hn hE).1 (by rw [<- zA J]; exact u)
         rw [<- zA J] at K
         rw [show _=y from X.symm] at K
         have P:=zB x
         have j:=zB K
         clear x K X Q
         go_wp2_with fail
         go_roundg f6
         case measure=>exact Y
         case rel=>exact ⟨g6,c6,y,true,op,adv bs q,rfl,rfl,(by first | rfl | (congr 1; omega)),P,j⟩
       ·have eo3:(o.k==3)=false:=by simp [u]
        by_cases A:o.k=2
        ·have eo2:(o.k==2)=true:=by simp [A]
         go_wp2_with (at_builtin; refine zCU (t:=o.s) rfl (.tmp 113) (.tmp 116) rfl rfl (zA Q) W5.heap.size rfl rfl (f) (by omega) ?next)
         case next=>
          intro g6 c6 y w6 X x
          obtain ⟨f6,Y,K⟩:=((zA HP).stepE (zA HK) hq hn hE).2.1 (by rw [<- zA J]; exact A)
          rw [<- zA J] at K
          rw [show _=y from X.symm] at K
          have P:=zB x
          have j:=zB K
          clear x K X Q
          go_wp2_with fail
          go_roundg f6
          case measure=>exact Y
          case rel=>exact ⟨g6,c6,y,false,op,adv bs q,rfl,rfl,(by first | rfl | (congr 1; omega)),P,j⟩
        ·have eo2:(o.k==2)=false:=by simp [A]
         have d:=zB (zCX rp cap (adv bs q) a bs _ (zA Q).rd hl)
         obtain ⟨L2,C⟩:∃ L2,Hid (L2=bs.length-adv bs q):=⟨_,zB rfl⟩
         rw [<- zA C] at d
         go_wp2_with fail
         (with_reducible refine (zA d).mono ?_)
         rintro e w8 ⟨rfl,H8,hb8⟩
         have I:=zB ((zA Q).below hb8)
         clear d H8 Q hb8
         have U:=((zA HP).stepE (zA HK) hq hn hE).2.2
         have h3:(atO ns (k/8%ns.length)).k≠3:=by rw [<- zA J]; exact u
         have h2:(atO ns (k/8%ns.length)).k≠2:=by rw [<- zA J]; exact A
         by_cases hw:L2=0
         ·have M:((L2:Nat):Int)<=0:=by omega
          have HF:=zB (U.2 h3 h2 (by have:=zA C; omega))
          have h1:=(zA HP).one rfl
          clear U h3 h2
          go_wp2_with fail
          go_ret
          exact (zA I).post h1 r (zA HF)
         ·have M:¬ ((L2:Nat):Int)<=0:=by omega
          obtain ⟨f6,Y,K⟩:=U.1 h3 h2 (by have:=zA C; omega)
          have j:=zB K
          clear K U h3 h2
          go_wp2_with fail
          go_roundg f6
          case measure=>exact Y
          case rel=>exact ⟨g,c,ws,true,op,adv bs q,rfl,rfl,rfl,I,j⟩
open Go.Deep (BT)
theorem zOU (h:ze (b:Int)=1):b=3\/b=5\/b=6:=by
 unfold ze at h
 split at h
 ·omega
 ·split at h
  ·omega
  ·omega
theorem zOV (h:ze (b:Int)=2):b=4:=by
 unfold ze at h
 split at h
 ·omega
 ·split at h <;> omega
theorem zOW (h:ze (b:Int)=0):b≠3/\b≠4/\b≠5/\b≠6:=by
 refine ⟨?_,?_,?_,?_⟩ <;> (rintro rfl; revert h; decide)
theorem zGK {T:ET} (h:Sh T):0<(wdT T).length:=by
 have:=zN1 h
 unfold wdT
 rw [List.length_map]
 omega
theorem zKP (bz cz:Nat) (zs:List zD) (q:zs.length<=20000):∀ (T:ET),Sh T->∀ (s:Nat),zFG zs T s->s+tsz T<=zs.length->zLV bz cz zs (s+tsz T-1) (wdT T):=by
 intro T
 induction T with
 | nil=>intro h; exact h.elim
 | node b o t l r ihl ihr=>
  rintro Y s ⟨h1,h2,h3⟩ hz
  have y:=zGH (.node b o t l r)
  obtain ⟨rfl,h⟩:=Y
  simp only [tsz] at hz y
  have e:s+tsz (.node b 0 t l r)-1=s+tsz l+tsz r:=by simp only [tsz]; omega
  rw [e]
  have k:∀ ja jb:Nat,(if ze (b:Int)=0 then (0:Int) else ((s+tsz l:Nat):Int)-1)=(ja:Int)->(if ze (b:Int)=2 then ((s+tsz l+tsz r:Nat):Int)-1 else 0)=(jb:Int)->atN zs (s+tsz l+tsz r)=⟨(b:Int),t,(ja:Int),(jb:Int)⟩:=fun ja jb ha hb=>by
   rw [h3,tN,ha,hb]
  rcases h with ⟨hk,rfl,rfl⟩ | ⟨hk,H,rfl⟩ | ⟨hk,H,Q⟩
  ·obtain ⟨b3,b4,b5,b6⟩:=zOW hk
   have hy:wdT (.node b 0 t .nil .nil)=[t]:=by
    simp only [wdT,ySy]
    rw [yN b6,yN b3,yN b5,yN b4]
    rfl
   exact zHJ bz cz _ zs (b:Int) t 0 0 _ (by simp only [tsz] at hz ⊢; omega) q (k 0 0 (by rw [yO hk]; rfl) (by rw [yN (by omega)]; rfl)) (by simp only [tsz] at y; omega) (yQ ⟨hk,hy⟩)
  ·have hp:=H.pos
   have X:=zGK H
   have K:=ihl H s h1 (by omega)
   have x:=k (s+tsz l-1) 0 (by rw [yN (by omega)]; omega) (by rw [yN (by omega)]; rfl)
   rcases zOU hk with rfl | rfl | rfl
   ·exact zHJ bz cz _ zs 3 t (s+tsz l-1) 0 _ (by simp only [tsz] at hz ⊢; omega) q x (by omega) (yR (yQ ⟨rfl,wdT l,X,K,by simp [wdT,ySy]⟩))
   ·exact zHJ bz cz _ zs 5 t (s+tsz l-1) 0 _ (by simp only [tsz] at hz ⊢; omega) q x (by omega) (yR (yR (yR (yQ ⟨rfl,wdT l,X,K,by simp [wdT,ySy]⟩))))
   ·exact zHJ bz cz _ zs 6 t (s+tsz l-1) 0 _ (by simp only [tsz] at hz ⊢; omega) q x (by omega) (yR (yR (yQ ⟨rfl,wdT l,X,K,by simp [wdT,ySy]⟩)))
  ·have hp:=H.pos
   have hq:=Q.pos
   obtain rfl:=zOV hk
   exact zHJ bz cz _ zs 4 t (s+tsz l-1) (s+tsz l+tsz r-1) _ (by omega) q (k _ _ (by rw [yN (by omega)]; omega) (by rw [yO hk]; omega)) (by omega) (yR (yR (yR (yR ⟨rfl,wdT l,wdT r,zGK H,zGK Q,ihl H s h1 (by omega),ihr Q (s+tsz l) h2 (by omega),by simp [wdT,ySy]⟩))))
theorem zHK {o:zD} {H:Int} {us k vs U:List zD} (hv:vs=us++zDK ns o H us.length U) (h4:k=us++U):(zAN ns o<H->vs=k++[⟨6,ByteArray.empty,(k.length:Int)-1,0⟩])/\(¬ zAN ns o<H->vs=k):=by
 constructor
 ·intro h
  rw [hv,zDK,yO h,h4,yx,ym]
 ·intro h
  rw [hv,zDK,yN h,h4]
theorem zP5 (b v cap bz offz cz j:Nat) (ns:List OpR) (zs:List zD) (o:zD) (q:Int) (B:Nat) (u:Value) (us vs:List zD) (w:JY) (hm:ns.length<=1048576) (hw:Ops w b v ns) (hb:b<B) (hg:zBC w bz offz zs) (hy:bz<B) (hB:B<=w.heap.size) (H:ZD w B u us) (hj:j<zs.length) (h4:zs.length<=20000) (ho:atN zs j=⟨o.k,o.t,0,0⟩) (hk:ze o.k=0) (ht:us.length<=90000) (hd:vs=us++zDK ns o q us.length [⟨o.k,o.t,0,0⟩]) :
  Calls Tryz.prog 92 #[.agg #[.slice (some ⟨b,v,none⟩) ns.length cap],.slice (some ⟨bz,offz,none⟩) zs.length cz,.int .i64 (j:Int),.int .i64 q,u] w (zAm w B u vs):=by
 obtain ⟨i0,n,z,he,hf⟩:=zN zC7
 have HI:=zB n
 have HZ:=zB (yH z (yH he hf))
 clear n z he hf
 have hv:(j:Int)<(zs.length:Int):=by omega
 have hs:bz<w.heap.size:=by omega
 obtain ⟨h0,h1,h2,h3⟩:=hg j hj
 rw [ho] at h0 h1 h2 h3
 simp only at h0 h1 h2 h3
 have Y:¬ (3<=o.k/\o.k<=5):=by
  intro h
  have:o.k=3\/o.k=4\/o.k=5:=by omega
  rcases this with e | e | e <;> rw [e] at hk <;> simp [ze] at hk
 have HD:=zB (show false=decide (3<=o.k/\o.k<=5) by rw [eq_comm,yT]; exact Y)
 have hr:=zB (show 3<=o.k->o.k<=5->fnd ns o.t (o.k-2)≠none from fun a b=>yP ⟨a,b⟩ Y)
 obtain ⟨K,L⟩:∃ K,Hid (K=us++[⟨o.k,o.t,0,0⟩]):=⟨_,zB rfl⟩
 have hz:K.length<=90001:=by rw [zA L,ym]; simp; omega
 have U:=zB (zHK hd (zA L))
 have R:=zB H.base
 have F:∀ x,w.heap.size<=x->x<w.heap.size+3->u.ownBlock≠some x:=fun x hx _ e=>by have:=H.lt _ e; omega
 obtain ⟨a1,c1,rfl⟩:=ZQ H
 obtain ⟨u,hu⟩:∃ u,u=Value.slice a1 us.length c1:=⟨_,rfl⟩
 have P:=zB F
 have HW:=zB hw
 have HR:=zB H
 have hc:=zB (show ∀ o1 o2 o3:Obj,Below w.heap.size w (((w.alloc o1).alloc o2).alloc o3) from fun o1 o2 o3=>((zC w o1).alloc (by simp) o2).alloc (by simp; omega) o3)
 have ha:=zB (show zAm w B (Value.slice a1 us.length c1) vs=zAm w B u vs by rw [hu])
 rw [zA ha]
 have S:=zB hu
 clear hw hg H ho hd Y hk F hu ha
 go_enter Tryz.func92,Tryz.ntmps92
 go_wp2_with fail
 refine (zAf ⟨o.k,o.t,0,0⟩ _ false (zA HD)).mono ?_
 rintro e w1 ⟨rfl,hb1⟩
 have V:Below w.heap.size w w1:=((zA hc) _ _ _).trans (hb1.mono (by simp; omega))
 have N:=zB ((zA HR).below V)
 have C:=zB (show w.grownBy w1 u.ownBlock from zH V _)
 have I:=zB (show (Value.slice a1 us.length c1).ownBlock=u.ownBlock\/∃ k,(Value.slice a1 us.length c1).ownBlock=some k/\w.heap.size<=k from yQ (by rw [zA S]))
 rw [<- zA S] at R
 have i:=zB (show w1.cell? ⟨w.heap.size,0,none⟩=some (.slice (some ⟨b,v,none⟩) ns.length cap) from (hb1.cell (p:=⟨w.heap.size,0,none⟩) (by simp; omega)).trans (by simp [go_sem]))
 have s:=zB (show ZB w1 (w.heap.size+1) ⟨o.k,o.t,0,0⟩ from ZB.below ⟨by simp [go_sem],by simp [go_sem],by simp [go_sem],by simp [go_sem],by simp [go_sem],by simp [go_sem]⟩ hb1)
 have W:=zB (show ZB w1 (w.heap.size+1+1) ⟨o.k,o.t,0,0⟩ from ZB.below ⟨by simp [go_sem],by simp [go_sem],by simp [go_sem],by simp [go_sem],by simp [go_sem],by simp [go_sem]⟩ hb1)
 have z1:=V.size
 clear hb1 HR hc
 obtain ⟨mk0,mk1,mk2,mk3,_,_⟩:=zA W
 simp only at mk0 mk1 mk2 mk3
 go_wp2_with (at_builtin; refine yJ _ rfl (.tmp 56) (.tmp 58) 123 rfl B 144 i0 _ 4 40 Tryz.underlying123 (zA HI) (zA HZ).1 (zA HZ).2.1 (zA HZ).2.2 rfl (by decide) _ us.length (zL us) rfl ((zA N).below (zC _ _)) ⟨(w1).heap.size,0,none⟩ 1 1 (zL [⟨o.k,o.t,0,0⟩]) rfl rfl (by simpa using ZN (w1) ⟨o.k,o.t,0,0⟩) (zS _) ?b1 ?b2 ?b3 ?next)
 case b1=>unfold maxLen; omega
 case b2=>omega
 case b3=>first | omega | (have:=(zA C).size; simp at this ⊢; omega)
 case next=>
  intro v4 w4 y Q l E
  have D:ZD w4 B v4 (us++[⟨o.k,o.t,0,0⟩]):=by
   unfold ZD
   rw [zm,ym]
   exact y
  rw [<- zA L] at D
  have c:=zB (zh (zC (w1) _) Q)
  have O:=zB (show v4.ownBlock=(Value.slice a1 us.length c1).ownBlock\/∃ k,v4.ownBlock=some k/\(w1).heap.size<=k from E.imp id (fun h=>⟨_,h,by first | exact yh _ | simp⟩))
  have d:=zB (zQ (zA C) (zA c) (zA I))
  have G:=zB (zAU (zA C) (zA I) v4.ownBlock (zA O))
  have r:=zB ((zA s).grown (zA c) (zA P _ (by omega) (by omega)))
  have t4:w4.cell? ⟨w.heap.size,0,none⟩=some (.slice (some ⟨b,v,none⟩) ns.length cap):=(zE (zA c) (b:=w.heap.size) (block_lt_of_cell (zA i)) (zA P _ (by omega) (by omega)) 0).trans (zA i)
  have hh:=zB (zCh (zA HW) (zA d) hb hB (zA R))
  have z4:=(zA d).size
  obtain ⟨n0,n1,n2,n3,_,_⟩:=zA r
  simp only at n0 n1 n2 n3
  obtain ⟨a4,c4,rfl⟩:=ZQ D
  have T:=zB D
  clear y Q l E D c O mk0 mk1 mk2 mk3 W s i N P C I
  go_wp2_with fail
  refine (zA8 b v cap ns ⟨o.k,o.t,0,0⟩ _ hm (zA hh) (by omega) (zA hr)).mono ?_
  rintro e w5 ⟨rfl,hb5⟩
  have Z:zAN ns ⟨o.k,o.t,0,0⟩=zAN ns o:=rfl
  rw [Z]
  have A:=zB (zQ (zA d) (zH hb5 u.ownBlock) (yQ rfl))
  have m:=zB ((zA T).below hb5)
  have z5:w.heap.size<=w5.heap.size:=yr z4 hb5.size
  clear Z hb5 d T r hh t4 n0 n1 n2 n3 z4
  by_cases hl:zAN ns o<q
  ·have M:=zB ((zA U).1 (by omega))
   clear U
   go_wp2_with (at_builtin; refine yJ _ rfl (.tmp 65) (.tmp 70) 123 rfl B 144 i0 _ 4 40 Tryz.underlying123 (zA HI) (zA HZ).1 (zA HZ).2.1 (zA HZ).2.2 rfl (by decide) _ K.length (zL K) rfl ((zA m).below (zC _ _)) ⟨w5.heap.size,0,none⟩ 1 1 (zL [⟨6,⟨#[]⟩,(K.length:Int)-1,0⟩]) rfl rfl (by simpa using ZN w5 ⟨6,⟨#[]⟩,(K.length:Int)-1,0⟩) (zS _) ?b4 ?b5 ?b6 ?next2)
   case b4=>unfold maxLen; omega
   case b5=>omega
   case b6=>first | omega | (simp; omega)
   case next2=>
    intro v6 w6 J X g f
    have hp:=zB (show ZD w6 B v6 vs by
     rw [zA M]
     unfold ZD
     rw [zm,ym]
     exact J)
    have hi:=zB (zh (zC w5 _) X)
    have hq:=zB (zQ (zA A) (zA hi) (zA G))
    have hn:=zB (zAU (zA A) (zA G) v6.ownBlock (f.imp id (fun h=>⟨_,h,by first | exact yh _ | simp⟩)))
    clear J X g f hi A m
    go_wp2_with fail
    go_ret
    exact ⟨v6,rfl,hp,hq,hn⟩
  ·have M:=zB ((zA U).2 (by omega))
   clear U
   go_wp2_with fail
   go_ret
   exact ⟨_,rfl,by rw [zA M]; exact m,A,G⟩
end Go.Proofs.YtgbkgkdpdfdokaaGreatDoor
