import Derived.Deep.RegionHeld3
import Derived.Deep.CutRange
import Derived.Deep.LoopGhost
import Derived.Test.YtgiemobdmbijiaaGreatDoorN20
import Derived.Test.YtgiemobdmbijiaaGreatDoorN22
namespace Go.Proofs.YtgiemobdmbijiaaGreatDoor
set_option linter.unusedSimpArgs false
set_option linter.unusedVariables false
set_option maxHeartbeats 16000000
set_option maxRecDepth 100000
open Go.RowKit
structure LnS (w wr:World) (rp cap:Nat) (a:Option Addr) (bs:List UInt8) (gt ct:Nat) (ns:List OpR) (g c:Nat) (ws:List ByteArray) (p:Nat):Prop where
 row:za wr w.heap.size (.slice (some ⟨g,0,none⟩) ws.length c) ws
 rd:RdS wr rp a cap bs p
 kp:zF w wr rp
 tb:wr.cell? ⟨w.heap.size,0,none⟩ = some (.slice (some ⟨gt,0,none⟩) ns.length ct)
 gne:w.heap.size < g
 rpl:rp < w.heap.size
 sz:∀ s ∈ ws,s.size <= 16
theorem LnS.below {w wr wr':World} {rp cap:Nat} {a:Option Addr} {bs:List UInt8} {gt ct:Nat} {ns:List OpR} {g c:Nat} {ws:List ByteArray} {p:Nat} (h:LnS w wr rp cap a bs gt ct ns g c ws p) (hb:Below wr.heap.size wr wr'):LnS w wr' rp cap a bs gt ct ns g c ws p:=
 ⟨h.row.below hb,h.rd.below hb,h.kp.trans (zF.of_below hb),(hb.cell (p:=⟨w.heap.size,0,none⟩) (block_lt_of_cell h.tb)).trans h.tb,h.gne,h.rpl,h.sz⟩
theorem LnS.read {w wr wr':World} {rp cap:Nat} {a:Option Addr} {bs:List UInt8} {gt ct:Nat} {ns:List OpR} {g c:Nat} {ws:List ByteArray} {p p':Nat} (h:LnS w wr rp cap a bs gt ct ns g c ws p) (hk:zF wr wr' rp) (hr:RdS wr' rp a cap bs p'):LnS w wr' rp cap a bs gt ct ns g c ws p':=by
 have hrp:=h.rpl
 have hg:=h.gne
 exact ⟨h.row.grown (ZE hk) (fun k hk e=>by simp [Value.ownBlock] at hk; injection e with e; omega),hr,h.kp.trans hk,(hk.cell (b:=w.heap.size) (block_lt_of_cell h.tb) (by omega) 0).trans h.tb,h.gne,h.rpl,h.sz⟩
theorem LnS.app {w W w6:World} {rp cap:Nat} {a:Option Addr} {bs:List UInt8} {gt ct:Nat} {ns:List OpR} {g c:Nat} {ws:List ByteArray} {p:Nat} {t:ByteArray} {v6:Value} (h:LnS w W rp cap a bs gt ct ns g c ws p) (ht:t.size <= 16)
  (hown:w6.ownsRow w.heap.size 9 1 v6 (ws.length + 1) (zH ws ++ zH [t])) (hgr:(W.alloc (.cells #[.string t] 9)).grownBy w6 (some g)) (hat:v6.ownBlock = some g \/ ∃ k,v6.ownBlock = some k /\ w.heap.size < k) :
  ∃ g6 c6 ws6,ws6 = ws ++ [t] /\ v6 = .slice (some ⟨g6,0,none⟩) ws6.length c6 /\ LnS w w6 rp cap a bs gt ct ns g6 c6 ws6 p:=by
 have h1:=h.below (zC W (.cells #[.string t] 9))
 have hz:=h1.kp.size
 have hr:za w6 w.heap.size v6 (ws ++ [t]):=za.join hown rfl
 obtain ⟨g6,c6,rfl⟩:=hr.has (by simp)
 have hrp:=h.rpl
 have hg:=h.gne
 have hg6:w.heap.size < g6:=by
  rcases hat with e | ⟨k,e,hk⟩
  ·simp [Value.ownBlock] at e; omega
  ·simp [Value.ownBlock] at e; omega
 refine ⟨g6,c6,ws ++ [t],rfl,rfl,hr,h1.rd.row hgr (by omega),⟨hgr.os.trans h1.kp.os,hgr.tape.trans h1.kp.tape,hgr.output.trans h1.kp.output,Nat.le_trans h1.kp.size hgr.size,fun i hi a=>(hgr.block i (Nat.lt_of_lt_of_le hi h1.kp.size) (fun e=>by injection e with e; omega)).trans (h1.kp.block i hi a)⟩,?_,hg6,hrp,?_⟩
 ·exact (zE hgr (b:=w.heap.size) (block_lt_of_cell h1.tb) (by intro e; injection e with e; omega) 0).trans h1.tb
 ·intro s hs
  rcases List.mem_append.1 hs with hs | hs
  ·exact h.sz s hs
  ·simp at hs; subst hs; exact ht
theorem zMc {W:World} {b:Nat} (o:OpR) {u0 u1 u2 u3:Value} (h0:W.cell? ⟨b,0,none⟩ = some u0) (h1:W.cell? ⟨b,1,none⟩ = some u1) (h2:W.cell? ⟨b,2,none⟩ = some u2) (h3:W.cell? ⟨b,3,none⟩ = some u3) :
  zB7 ((((W.setCell ⟨b,0,none⟩ (.string o.s)).setCell ⟨b,1,none⟩ (.int .i64 o.k)).setCell ⟨b,2,none⟩ (.int .i64 o.l)).setCell ⟨b,3,none⟩ (.int .i64 o.sd)).drew b o:=by
 refine zB7.below (w:=(((W.setCell ⟨b,0,none⟩ (.string o.s)).setCell ⟨b,1,none⟩ (.int .i64 o.k)).setCell ⟨b,2,none⟩ (.int .i64 o.l)).setCell ⟨b,3,none⟩ (.int .i64 o.sd)) ?_ (Below.refl _ _).drew
 have ne:∀ (i j:Nat) (v:Value) (X:World),i ≠ j -> (X.setCell ⟨b,i,none⟩ v).cell? ⟨b,j,none⟩ = X.cell? ⟨b,j,none⟩:=fun i j v X h=>World.cell?_setCell_other _ _ _ _ (fun e=>h (by injection e with _ e))
 have s0:=World.cell?_setCell_same W ⟨b,0,none⟩ (.string o.s) h0
 have s1:=World.cell?_setCell_same (W.setCell ⟨b,0,none⟩ (.string o.s)) ⟨b,1,none⟩ (.int .i64 o.k) ((ne 0 1 _ _ (by decide)).trans h1)
 have s2:=World.cell?_setCell_same ((W.setCell ⟨b,0,none⟩ (.string o.s)).setCell ⟨b,1,none⟩ (.int .i64 o.k)) ⟨b,2,none⟩ (.int .i64 o.l) ((ne 1 2 _ _ (by decide)).trans ((ne 0 2 _ _ (by decide)).trans h2))
 have s3:=World.cell?_setCell_same (((W.setCell ⟨b,0,none⟩ (.string o.s)).setCell ⟨b,1,none⟩ (.int .i64 o.k)).setCell ⟨b,2,none⟩ (.int .i64 o.l)) ⟨b,3,none⟩ (.int .i64 o.sd) ((ne 2 3 _ _ (by decide)).trans ((ne 1 3 _ _ (by decide)).trans ((ne 0 3 _ _ (by decide)).trans h3)))
 exact ⟨(ne 3 0 _ _ (by decide)).trans ((ne 2 0 _ _ (by decide)).trans ((ne 1 0 _ _ (by decide)).trans s0)),(ne 3 1 _ _ (by decide)).trans ((ne 2 1 _ _ (by decide)).trans s1),(ne 3 2 _ _ (by decide)).trans s2,s3⟩
theorem zJ7 {B:Nat} {w W:World} {b:Nat} (h:Below B w W) (hb:B <= b) (v0 v1 v2 v3:Value):Below B w ((((W.setCell ⟨b,0,none⟩ v0).setCell ⟨b,1,none⟩ v1).setCell ⟨b,2,none⟩ v2).setCell ⟨b,3,none⟩ v3).drew:=
 ((((h.setCell hb v0).setCell hb v1).setCell hb v2).setCell hb v3).drew
theorem zN2 (w:World):∃ W,W = w.alloc (.cells #[.string ⟨#[]⟩,.int .i64 0,.int .i64 0,.int .i64 0] 46) /\ Below w.heap.size w W /\ (W.cell? ⟨w.heap.size,0,none⟩ = some (.string ⟨#[]⟩) /\ W.cell? ⟨w.heap.size,1,none⟩ = some (.int .i64 0) /\ W.cell? ⟨w.heap.size,2,none⟩ = some (.int .i64 0) /\ W.cell? ⟨w.heap.size,3,none⟩ = some (.int .i64 0)) /\
  W.frozen? ⟨w.heap.size,0,none⟩ = false /\ W.frozen? ⟨w.heap.size,1,none⟩ = false /\ W.frozen? ⟨w.heap.size,2,none⟩ = false /\ W.frozen? ⟨w.heap.size,3,none⟩ = false:=
 ⟨_,rfl,zC _ _,⟨by simp [go_sem],by simp [go_sem],by simp [go_sem],by simp [go_sem]⟩,by simp [go_sem],by simp [go_sem],by simp [go_sem],by simp [go_sem]⟩
theorem zO7 (k n:Nat) (hk:k < 256) (hn:n ≠ 0):∃ m,m = k / 8 % n /\ m < n /\ ((k:Int) / 8 % (n:Int) = (m:Int)) /\ ((m:Int) < (n:Int)) /\ ((0:Int) <= (m:Int)) /\ (IntKind.i64.wrap ((k:Int) / 8) = (k:Int) / 8) /\ (((n:Int) == 0) = false) /\ (((k:Int) / 8).tmod (n:Int) = (m:Int)) /\ (0:Int) < (n:Int):=by
 have h:=Nat.mod_lt (k / 8) (show 0 < n by omega)
 refine ⟨_,rfl,h,by simp,by omega,by omega,Go.IntWalk.i64_in _ (by omega),beq_eq_false_iff_ne.2 (by omega),?_,by omega⟩
 rw [Int.tmod_eq_emod_of_nonneg (by omega)]
 simp
theorem zBx {ops:Array Oper} {rest:List Oper} {o:Oper} {b:Act} {Q:Exit -> Act -> World -> Prop} {w W:World} {rp cap:Nat} {a:Option Addr} {bs:List UInt8} {gt ct:Nat} {ns:List OpR} {g c:Nat} {ws:List ByteArray} {p:Nat} {t:ByteArray} (hgd:o.guard = none) (s x:Operand)
  (ho:o.op = .call { callee:=.builtin .append,args:=#[s,x],argTypes:=#[24,24] }) (hs:b.eval s = .slice (some ⟨g,0,none⟩) ws.length c) (h:LnS w W rp cap a bs gt ct ns g c ws p) (ad:Nat) (had:W.heap.size = ad) (hx:b.eval x = .slice (some ⟨ad,0,none⟩) 1 1) (ht:t.size <= 16) (hl:ws.length <= 90000)
  (next:∀ g6 c6 ws6 w6,ws6 = ws ++ [t] -> LnS w w6 rp cap a bs gt ct ns g6 c6 ws6 p -> wpList Tryz.prog ops Q rest (b.put o.dst (.slice (some ⟨g6,0,none⟩) ws6.length c6)) w6):wpList Tryz.prog ops Q (o :: rest) b (W.alloc (.cells #[.string t] 9)):=by
 obtain ⟨i0,hi0,hz0,hz1,hz2⟩:=zQ zCQ
 subst had
 refine wpList_append_own_at _ hgd s x 24 ho w.heap.size 9 i0 _ 1 16 Tryz.underlying24 hi0 hz0 hz1 hz2 rfl (by decide) _ ws.length (zH ws) hs (h.below (zC _ _)).row ⟨W.heap.size,0,none⟩ 1 1 (zH [t]) hx rfl (ZL W t) (zS _) (by unfold maxLen; omega) (by omega) (by have:=h.kp.size; simp; omega) ?_
 intro v6 w6 hown6 hgrow6 hnil6 hat6
 obtain ⟨g6,c6,ws6,hw6,rfl,hs6⟩:=h.app ht hown6 hgrow6 (hat6.imp id (fun e=>⟨_,e,by have:w.heap.size < W.heap.size:=block_lt_of_cell h.tb; simp; omega⟩))
 exact next g6 c6 ws6 w6 hw6 hs6
def zJ8 (w:World) (rp cap:Nat) (a:Option Addr) (bs:List UInt8) (D:List ByteArray -> Nat -> Prop) (e:Ending) (w':World):Prop:=
 ∃ (g c q:Nat) (ws:List ByteArray),e = .returned (.slice (some ⟨g,0,none⟩) ws.length c) /\ Hid (za w' w.heap.size (.slice (some ⟨g,0,none⟩) ws.length c) ws) /\ 1 <= ws.length /\ ws.length <= 4000 /\ Hid (∀ s ∈ ws,s.size <= 16) /\ Hid (D ws q) /\ Hid (RdS w' rp a cap bs q) /\ Hid (zF w w' rp)
theorem LnS.post {w W:World} {rp cap:Nat} {a:Option Addr} {bs:List UInt8} {gt ct:Nat} {ns:List OpR} {g c:Nat} {ws:List ByteArray} {p p0:Nat} (h:LnS w W rp cap a bs gt ct ns g c ws p) (h1:1 <= ws.length) (h2:ws.length <= 3601) (h3:lnF bs ns 3601 [] false 0 p0 = (ws,p)) :
  zJ8 w rp cap a bs (fun ws q=>lnF bs ns 3601 [] false 0 p0 = (ws,q)) (.returned (.slice (some ⟨g,0,none⟩) ws.length c)) W:=
 ⟨g,c,p,ws,rfl,zB h.row,h1,by omega,zB h.sz,zB h3,zB h.rd,zB h.kp⟩
theorem zJ9 (rp cap p gt ct:Nat) (a:Option Addr) (bs:List UInt8) (ns:List OpR) (w:World) (h:RdS w rp a cap bs p) (hl:bs.length <= 1200) (hnl:ns.length <= 100000) (ht:Ops w gt 0 ns) (hgt:gt < w.heap.size) (hne:gt ≠ rp) (hs:∀ i,(atO ns i).s.size <= 16) :
  Calls Tryz.prog 56 #[.pointer (some ⟨rp,0,none⟩),.agg #[.slice (some ⟨gt,0,none⟩) ns.length ct]] w (zJ8 w rp cap a bs (fun ws q=>lnF bs ns 3601 [] false 0 p = (ws,q))):=by
 have hrp:=h.lt
 have H:=zB h
 have HT:=zB ht
 have HSZ:=zB hs
 clear h ht hs
 go_enter Tryz.func56,Tryz.ntmps56
 go_wp2_with fail
 have HS0:=zB (show LnS w ((w.alloc (.cells #[.slice (some ⟨gt,0,none⟩) ns.length ct] 55)).alloc (.cells #[] 9)) rp cap a bs gt ct ns (w.heap.size + 1) 0 [] p from by
  have hb:Below w.heap.size w ((w.alloc (.cells #[.slice (some ⟨gt,0,none⟩) ns.length ct] 55)).alloc (.cells #[] 9)):=(zC _ _).alloc (by simp) _
  refine ⟨?_,(zA H).below hb,zF.of_below hb,by simp [go_sem],by omega,hrp,fun s hs=>by simp at hs⟩
  have:=za.nil (w:=w.alloc (.cells #[.slice (some ⟨gt,0,none⟩) ns.length ct] 55)) (B:=w.heap.size) (by simp)
  simpa using this)
 go_loopg [5,6,7] (3601) (fun k ov bv nv wr=>∃ (g c:Nat) (ws:List ByteArray) (bh:Bool) (op q:Nat),ov = .slice (some ⟨g,0,none⟩) ws.length c /\ bv = .bool bh /\ nv = .int .i64 (op:Int) /\ Hid (LnS w wr rp cap a bs gt ct ns g c ws q) /\ Hid (LnP bs ns p ws bh op q k))
 case atStart=>exact ⟨w.heap.size + 1,0,[],false,0,p,rfl,rfl,rfl,HS0,zB (LnP.start bs ns p hl)⟩
 case round=>
  clear H HS0
  obtain ⟨g,c,ws,bh,op,q,rfl,rfl,rfl,HS,HP⟩:=hrel
  obtain ⟨hn3,hop3⟩:=(zA HP).len
  obtain ⟨L,HL⟩:∃ L,Hid (L = bs.length - q):=⟨_,zB rfl⟩
  have hwz:=(zA HS).kp.size
  have hql:=(zA HS).rd.le
  go_upto_region 4 with fail
  go_cut [26] from 11 to 121 (fun s26 wc=>∃ bC:Bool,s26 = .bool bC /\ Hid (bC = decide ((ws.length < 30 /\ q < bs.length) \/ bh = false \/ 0 < op)) /\ Hid (LnS w wc rp cap a bs gt ct ns g c ws q))
  case first=>
   cases bh with
   | false=>
    by_cases hn:ws.length < 30
    ·have hnI:(ws.length:Int) < 30:=by omega
     have HLE:=zB (zB0 rp cap q a bs _ (zA HS).rd hl)
     rw [<- zA HL] at HLE
     go_wp2_with fail
     (with_reducible refine (zA HLE).mono ?_)
     rintro e w2 ⟨rfl,H2,hb2⟩
     have HS2:=zB ((zA HS).below hb2)
     clear HLE H2 hb2
     by_cases hL:L = 0
     ·have hLI:¬ (0:Int) < (L:Int):=by omega
      go_wp2_with fail
      go_meet
      case rel=>exact ⟨_,rfl,zB (by have:=zA HL; simp <;> omega),HS2⟩
     ·have hLI:(0:Int) < (L:Int):=by omega
      go_wp2_with fail
      go_meet
      case rel=>exact ⟨_,rfl,zB (by have:=zA HL; simp <;> omega),HS2⟩
    ·have hnI:¬ (ws.length:Int) < 30:=by omega
     have HS2:=HS
     go_wp2_with fail
     go_meet
     case rel=>exact ⟨_,rfl,zB (by have:=zA HL; simp <;> omega),HS2⟩
   | true=>
    by_cases hn:ws.length < 30
    ·have hnI:(ws.length:Int) < 30:=by omega
     have HLE:=zB (zB0 rp cap q a bs _ (zA HS).rd hl)
     rw [<- zA HL] at HLE
     go_wp2_with fail
     (with_reducible refine (zA HLE).mono ?_)
     rintro e w2 ⟨rfl,H2,hb2⟩
     have HS2:=zB ((zA HS).below hb2)
     clear HLE H2 hb2
     by_cases hL:L = 0
     ·have hLI:¬ (0:Int) < (L:Int):=by omega
      by_cases hop:0 < op
      ·have hopI:(0:Int) < (op:Int):=by omega
       go_wp2_with fail
       go_meet
       case rel=>exact ⟨_,rfl,zB (by have:=zA HL; simp <;> omega),HS2⟩
      ·have hopI:¬ (0:Int) < (op:Int):=by omega
       go_wp2_with fail
       go_meet
       case rel=>exact ⟨_,rfl,zB (by have:=zA HL; simp <;> omega),HS2⟩
     ·have hLI:(0:Int) < (L:Int):=by omega
      go_wp2_with fail
      go_meet
      case rel=>exact ⟨_,rfl,zB (by have:=zA HL; simp <;> omega),HS2⟩
    ·have hnI:¬ (ws.length:Int) < 30:=by omega
     have HS2:=HS
     by_cases hop:0 < op
     ·have hopI:(0:Int) < (op:Int):=by omega
      go_wp2_with fail
      go_meet
      case rel=>exact ⟨_,rfl,zB (by have:=zA HL; simp <;> omega),HS2⟩
     ·have hopI:¬ (0:Int) < (op:Int):=by omega
      go_wp2_with fail
      go_meet
      case rel=>exact ⟨_,rfl,zB (by have:=zA HL; simp <;> omega),HS2⟩
  case rest=>
   obtain ⟨bC,rfl,HC,HS2⟩:=hcut
   cases bC with
   | false=>
    have hD:=zA HC
    rw [eq_comm,decide_eq_false_iff_not] at hD
    have hb:bh = true:=by cases bh; exact absurd (Or.inr (Or.inl rfl)) hD; rfl
    subst hb
    have h1:=(zA HP).one rfl
    have HF:=zB ((zA HP).fin hD)
    clear HC hD
    go_wp2_with fail
    go_ret
    exact (zA HS2).post h1 hn3 (zA HF)
   | true=>
    go_wp2_with fail
    (with_reducible refine (Z4 rp cap q a bs _ (zA HS2).rd hl).mono ?_)
    rintro e w3 ⟨⟨k,rfl,hk,HK⟩,H3,HP3⟩
    have HS3:=zB ((zA HS2).read (zA HP3) (zA H3))
    have tb3:=(zA HS3).tb
    have z3:=(zA HS3).kp.size
    have hNl:w.heap.size < w3.heap.size:=block_lt_of_cell tb3
    have hNn:¬ w.heap.size = w3.heap.size:=by omega
    have hNm:¬ w3.heap.size = w.heap.size:=by omega
    clear HS2 H3 HP3
    go_upto_if 33 with fail
    go_cut [9] from 11 to 121 (fun s9 wc=>∃ o:OpR,s9 = .pointer (some ⟨w3.heap.size,0,none⟩) /\ Hid (o = atO ns (k / 8 % ns.length)) /\ Hid (zB7 wc w3.heap.size o) /\ Hid (LnS w wc rp cap a bs gt ct ns g c ws (adv bs q)))
    case first=>
     by_cases h0:ns.length = 0
     ·have e0:¬ (0:Int) < (ns.length:Int):=by omega
      have HS5:=zB ((zA HS3).below (zC w3 (.cells #[.string ⟨#[]⟩,.int .i64 0,.int .i64 0,.int .i64 0] 46)))
      have HOE:=zB (show OpR.zero = atO ns (k / 8 % ns.length) by rw [List.length_eq_zero_iff.1 h0]; rfl)
      clear HS3 h0
      go_wp2_with fail
      go_meet
      case rel=>exact ⟨OpR.zero,rfl,HOE,zB ⟨by simp [go_sem,OpR.zero],by simp [go_sem,OpR.zero],by simp [go_sem,OpR.zero],by simp [go_sem,OpR.zero]⟩,HS5⟩
     ·obtain ⟨m,hmE,hmi,e4,e5,e6,e7,e9,e10,e0⟩:=zO7 k ns.length hk h0
      have hgt3:gt < w3.heap.size:=by omega
      obtain ⟨W4,hW4,hb4,⟨x0,x1,x2,x3⟩,y0,y1,y2,y3⟩:=zN2 w3
      have HO3:=zB (((zA HS3).kp.ops (zA HT) hgt hne).below hb4 hgt3)
      obtain ⟨b0,b1,b2,b3⟩:=(zA HO3) m hmi
      simp only [Nat.zero_add] at b0 b1 b2 b3
      obtain ⟨o,hoE⟩:∃ o,o = atO ns m:=⟨_,rfl⟩
      rw [<- hoE] at b0 b1 b2 b3
      have nn3:¬ gt = w3.heap.size:=by omega
      have nn2:¬ w3.heap.size = gt:=by omega
      go_wp2_with fail
      have tb4:=(hb4.cell (p:=⟨w.heap.size,0,none⟩) hNl).trans tb3
      rw [<- hW4]
      have HOE:=zB (show o = atO ns (k / 8 % ns.length) by rw [hoE,hmE])
      clear hW4 tb3 hoE hmE
      go_region_held3 (fun W=>W.cell? ⟨w.heap.size,0,none⟩ = some (.slice (some ⟨gt,0,none⟩) ns.length ct) /\ W.cell? ⟨gt,m * 4,none⟩ = some (.string o.s) /\ W.cell? ⟨gt,m * 4 + 1,none⟩ = some (.int .i64 o.k) /\ W.cell? ⟨gt,m * 4 + 2,none⟩ = some (.int .i64 o.l) /\ W.cell? ⟨gt,m * 4 + 3,none⟩ = some (.int .i64 o.sd)) (go_keep) (fail)
      obtain ⟨W5,hW5⟩:∃ W5,W5 = ((((W4.setCell ⟨w3.heap.size,0,none⟩ (.string o.s)).setCell ⟨w3.heap.size,1,none⟩ (.int .i64 o.k)).setCell ⟨w3.heap.size,2,none⟩ (.int .i64 o.l)).setCell ⟨w3.heap.size,3,none⟩ (.int .i64 o.sd)).drew:=⟨_,rfl⟩
      rw [<- hW5]
      have HOA:=zB (show zB7 W5 w3.heap.size o by rw [hW5]; exact zMc o x0 x1 x2 x3)
      have HS5:=zB ((zA HS3).below (show Below w3.heap.size w3 W5 by rw [hW5]; exact zJ7 hb4 (Nat.le_refl _) _ _ _ _))
      clear hW5
      go_wp2_with fail
      go_meet
      case rel=>exact ⟨o,rfl,HOE,HOA,HS5⟩
    case rest=>
     obtain ⟨o,rfl,HOE,HOA,HS5⟩:=hcut
     rename World=>W5
     have hos:o.s.size <= 16:=by rw [zA HOE]; exact (zA HSZ) _
     obtain ⟨q0,q1,q2,q3⟩:=zA HOA
     cases bh with
     | false=>
      by_cases h1:k % 8 = 1 /\ ws.length < 30
      ·obtain ⟨h81,hn⟩:=h1
       have e81:((k:Int) % 8 == 1) = true:=by simp; omega
       have hnI:(ws.length:Int) < 30:=by omega
       go_wp2_with (at_builtin; refine zBx (t:=⟨#[40]⟩) rfl (.tmp 54) (.tmp 55) rfl rfl (zA HS5) W5.heap.size rfl rfl (by decide) (by omega) ?next)
       case next=>
        intro g6 c6 ws6 w6 hw6 hs6
        obtain ⟨f6,hm6,hp6⟩:=(zA HP).stepA (zA HK) h81 hn
        rw [show _ = ws6 from hw6.symm] at hp6
        have HS6:=zB hs6
        have HP6:=zB hp6
        clear hs6 hp6 hw6 HS5
        go_wp2_with fail
        go_roundg f6
        case measure=>exact hm6
        case rel=>exact ⟨g6,c6,ws6,false,op + 1,adv bs q,rfl,rfl,(by first | rfl | (congr 1; omega)),HS6,HP6⟩
      ·have hA:=h1
       by_cases h2:4 < k % 8 /\ o.k = 1
       ·obtain ⟨h84,ho1⟩:=h2
        have e81:((k:Int) % 8 == 1) = false:=by simp; omega
        have e84:(4:Int) < (k:Int) % 8:=by omega
        have eo1:(o.k == 1) = true:=by simp [ho1]
        go_wp2_with (at_builtin; refine zBx (t:=o.s) rfl (.tmp 67) (.tmp 70) rfl rfl (zA HS5) W5.heap.size rfl rfl (hos) (by omega) ?next)
        case next=>
         intro g6 c6 ws6 w6 hw6 hs6
         obtain ⟨f6,hm6,hp6⟩:=(zA HP).stepB (zA HK) hA h84 (by rw [<- zA HOE]; exact ho1)
         rw [<- zA HOE] at hp6
         rw [show _ = ws6 from hw6.symm] at hp6
         have HS6:=zB hs6
         have HP6:=zB hp6
         clear hs6 hp6 hw6 HS5
         go_wp2_with fail
         go_roundg f6
         case measure=>exact hm6
         case rel=>exact ⟨g6,c6,ws6,false,op,adv bs q,rfl,rfl,(by first | rfl | (congr 1; omega)),HS6,HP6⟩
       ·have hB:¬ (4 < k % 8 /\ (atO ns (k / 8 % ns.length)).k = 1):=by rw [<- zA HOE]; exact h2
        by_cases h81:k % 8 = 1
        case' pos=>
         have e81:((k:Int) % 8 == 1) = true:=by simp; omega
         have hnI:¬ (ws.length:Int) < 30:=by omega
         have e84:¬ (4:Int) < (k:Int) % 8:=by omega
        case' neg=>
         have e81:((k:Int) % 8 == 1) = false:=by simp; omega
         by_cases h84:4 < k % 8
         case' pos=>
          have e84:(4:Int) < (k:Int) % 8:=by omega
          have eo1:(o.k == 1) = false:=by simp; omega
         case' neg=>have e84:¬ (4:Int) < (k:Int) % 8:=by omega
        all_goals
         have i1:(0:Int) <= (k:Int) / 8 % 4:=by omega
         have i2:(k:Int) / 8 % 4 <= 3:=by omega
         go_wp2_with (at_builtin; refine zBx (t:=(⟨#[97]⟩:ByteArray) ++ (⟨#[49,50,51]⟩:ByteArray).extract 0 (k / 8 % 4)) rfl (.tmp 72) (.tmp 78) rfl rfl (zA HS5) W5.heap.size rfl rfl (by rw [ByteArray.size_append,ByteArray.size_extract]; show 1 + _ <= 16; have:(⟨#[49,50,51]⟩:ByteArray).size = 3:=rfl; omega) (by omega) ?next)
         case next=>
          intro g6 c6 ws6 w6 hw6 hs6
          obtain ⟨f6,hm6,hp6⟩:=(zA HP).stepC (zA HK) hA hB
          rw [show ws ++ [nmK k] = ws6 from hw6.symm] at hp6
          have HS6:=zB hs6
          have HP6:=zB hp6
          clear hs6 hp6 hw6 HS5
          go_wp2_with fail
          go_roundg f6
          case measure=>exact hm6
          case rel=>exact ⟨g6,c6,ws6,true,op,adv bs q,rfl,rfl,(by first | rfl | (congr 1; omega)),HS6,HP6⟩
     | true=>
      by_cases hop:0 < op
      ·have hopI:(0:Int) < (op:Int):=by omega
       by_cases h80:k % 8 = 0
       ·have e80:((k:Int) % 8 == 0) = true:=by simp; omega
        go_wp2_with (at_builtin; refine zBx (t:=⟨#[41]⟩) rfl (.tmp 97) (.tmp 98) rfl rfl (zA HS5) W5.heap.size rfl rfl (by decide) (by omega) ?next)
        case next=>
         intro g6 c6 ws6 w6 hw6 hs6
         obtain ⟨f6,hm6,hp6⟩:=(zA HP).stepD (zA HK) hop (Or.inl h80)
         rw [show _ = ws6 from hw6.symm] at hp6
         have HS6:=zB hs6
         have HP6:=zB hp6
         clear hs6 hp6 hw6 HS5
         go_wp2_with fail
         go_roundg f6
         case measure=>exact hm6
         case rel=>exact ⟨g6,c6,ws6,true,op - 1,adv bs q,rfl,rfl,(by first | rfl | (congr 1; omega)),HS6,HP6⟩
       ·have e80:((k:Int) % 8 == 0) = false:=by simp; omega
        by_cases hn:ws.length < 30
        ·have hn30:¬ (30:Int) <= (ws.length:Int):=by omega
         have hq:q < bs.length:=zHx (by rw [<- zA HK]; omega)
         have HLE:=zB (zB0 rp cap (adv bs q) a bs _ (zA HS5).rd hl)
         obtain ⟨LM,HLM⟩:∃ LM,Hid (LM = bs.length - adv bs q):=⟨_,zB rfl⟩
         rw [<- zA HLM] at HLE
         go_wp2_with fail
         (with_reducible refine (zA HLE).mono ?_)
         rintro e w5 ⟨rfl,H5,hb5⟩
         have HS7:=zB ((zA HS5).below hb5)
         have HOB:=zB ((zA HOA).below hb5)
         clear HLE H5 q0 q1 q2 q3 HS5 HOA hb5
         obtain ⟨q0,q1,q2,q3⟩:=zA HOB
         have HS5:=HS7
         clear HS7
         rename World=>W5
         by_cases hM:LM = 0
         ·have hMI:((LM:Nat):Int) <= 0:=by omega
          go_wp2_with (at_builtin; refine zBx (t:=⟨#[41]⟩) rfl (.tmp 97) (.tmp 98) rfl rfl (zA HS5) W5.heap.size rfl rfl (by decide) (by omega) ?next)
          case next=>
           intro g6 c6 ws6 w6 hw6 hs6
           obtain ⟨f6,hm6,hp6⟩:=(zA HP).stepD (zA HK) hop (Or.inr (Or.inr (by have:=zA HLM; omega)))
           rw [show _ = ws6 from hw6.symm] at hp6
           have HS6:=zB hs6
           have HP6:=zB hp6
           clear hs6 hp6 hw6 HS5
           go_wp2_with fail
           go_roundg f6
           case measure=>exact hm6
           case rel=>exact ⟨g6,c6,ws6,true,op - 1,adv bs q,rfl,rfl,(by first | rfl | (congr 1; omega)),HS6,HP6⟩
         ·have hMI:¬ ((LM:Nat):Int) <= 0:=by omega
          have hE:¬ (0 < op /\ (k % 8 = 0 \/ 30 <= ws.length \/ bs.length <= adv bs q)):=by have:=zA HLM; omega
          by_cases ho3:o.k = 3
          ·have eo3:(o.k == 3) = true:=by simp [ho3]
           go_wp2_with (at_builtin; refine zBx (t:=o.s) rfl (.tmp 105) (.tmp 108) rfl rfl (zA HS5) W5.heap.size rfl rfl (hos) (by omega) ?next)
           case next=>
            intro g6 c6 ws6 w6 hw6 hs6
            obtain ⟨f6,hm6,hp6⟩:=((zA HP).stepE (zA HK) hq hn hE).1 (by rw [<- zA HOE]; exact ho3)
            rw [<- zA HOE] at hp6
            rw [show _ = ws6 from hw6.symm] at hp6
            have HS6:=zB hs6
            have HP6:=zB hp6
            clear hs6 hp6 hw6 HS5
            go_wp2_with fail
            go_roundg f6
            case measure=>exact hm6
            case rel=>exact ⟨g6,c6,ws6,true,op,adv bs q,rfl,rfl,(by first | rfl | (congr 1; omega)),HS6,HP6⟩
          ·have eo3:(o.k == 3) = false:=by simp [ho3]
           by_cases ho2:o.k = 2
           ·have eo2:(o.k == 2) = true:=by simp [ho2]
            go_wp2_with (at_builtin; refine zBx (t:=o.s) rfl (.tmp 113) (.tmp 116) rfl rfl (zA HS5) W5.heap.size rfl rfl (hos) (by omega) ?next)
            case next=>
             intro g6 c6 ws6 w6 hw6 hs6
             obtain ⟨f6,hm6,hp6⟩:=((zA HP).stepE (zA HK) hq hn hE).2.1 (by rw [<- zA HOE]; exact ho2)
             rw [<- zA HOE] at hp6
             rw [show _ = ws6 from hw6.symm] at hp6
             have HS6:=zB hs6
             have HP6:=zB hp6
             clear hs6 hp6 hw6 HS5
             go_wp2_with fail
             go_roundg f6
             case measure=>exact hm6
             case rel=>exact ⟨g6,c6,ws6,false,op,adv bs q,rfl,rfl,(by first | rfl | (congr 1; omega)),HS6,HP6⟩
           ·have eo2:(o.k == 2) = false:=by simp [ho2]
            have HLF:=zB (zB0 rp cap (adv bs q) a bs _ (zA HS5).rd hl)
            obtain ⟨L2,HL2⟩:∃ L2,Hid (L2 = bs.length - adv bs q):=⟨_,zB rfl⟩
            rw [<- zA HL2] at HLF
            go_wp2_with fail
            (with_reducible refine (zA HLF).mono ?_)
            rintro e w8 ⟨rfl,H8,hb8⟩
            have HS8:=zB ((zA HS5).below hb8)
            clear HLF H8 HS5 hb8
            have HSE:=((zA HP).stepE (zA HK) hq hn hE).2.2
            have h3:(atO ns (k / 8 % ns.length)).k ≠ 3:=by rw [<- zA HOE]; exact ho3
            have h2:(atO ns (k / 8 % ns.length)).k ≠ 2:=by rw [<- zA HOE]; exact ho2
            by_cases hL2:L2 = 0
            ·have hLI2:((L2:Nat):Int) <= 0:=by omega
             have HF:=zB (HSE.2 h3 h2 (by have:=zA HL2; omega))
             have h1:=(zA HP).one rfl
             clear HSE h3 h2
             go_wp2_with fail
             go_ret
             exact (zA HS8).post h1 hn3 (zA HF)
            ·have hLI2:¬ ((L2:Nat):Int) <= 0:=by omega
             obtain ⟨f6,hm6,hp6⟩:=HSE.1 h3 h2 (by have:=zA HL2; omega)
             have HP6:=zB hp6
             clear hp6 HSE h3 h2
             go_wp2_with fail
             go_roundg f6
             case measure=>exact hm6
             case rel=>exact ⟨g,c,ws,true,op,adv bs q,rfl,rfl,rfl,HS8,HP6⟩
        ·have hn30:(30:Int) <= (ws.length:Int):=by omega
         go_wp2_with (at_builtin; refine zBx (t:=⟨#[41]⟩) rfl (.tmp 97) (.tmp 98) rfl rfl (zA HS5) W5.heap.size rfl rfl (by decide) (by omega) ?next)
         case next=>
          intro g6 c6 ws6 w6 hw6 hs6
          obtain ⟨f6,hm6,hp6⟩:=(zA HP).stepD (zA HK) hop (Or.inr (Or.inl (by omega)))
          rw [show _ = ws6 from hw6.symm] at hp6
          have HS6:=zB hs6
          have HP6:=zB hp6
          clear hs6 hp6 hw6 HS5
          go_wp2_with fail
          go_roundg f6
          case measure=>exact hm6
          case rel=>exact ⟨g6,c6,ws6,true,op - 1,adv bs q,rfl,rfl,(by first | rfl | (congr 1; omega)),HS6,HP6⟩
      ·have hopI:¬ (0:Int) < (op:Int):=by omega
       have hnq:ws.length < 30 /\ q < bs.length:=by
        have hD:=zA HC
        rw [eq_comm,decide_eq_true_iff] at hD
        rcases hD with h | h | h
        ·exact h
        ·cases h
        ·omega
       obtain ⟨hn,hq⟩:=hnq
       have hE:¬ (0 < op /\ (k % 8 = 0 \/ 30 <= ws.length \/ bs.length <= adv bs q)):=by omega
       by_cases ho3:o.k = 3
       ·have eo3:(o.k == 3) = true:=by simp [ho3]
        go_wp2_with (at_builtin; refine zBx (t:=o.s) rfl (.tmp 105) (.tmp 108) rfl rfl (zA HS5) W5.heap.size rfl rfl (hos) (by omega) ?next)
        case next=>
         intro g6 c6 ws6 w6 hw6 hs6
         obtain ⟨f6,hm6,hp6⟩:=((zA HP).stepE (zA HK) hq hn hE).1 (by rw [<- zA HOE]; exact ho3)
         rw [<- zA HOE] at hp6
         rw [show _ = ws6 from hw6.symm] at hp6
         have HS6:=zB hs6
         have HP6:=zB hp6
         clear hs6 hp6 hw6 HS5
         go_wp2_with fail
         go_roundg f6
         case measure=>exact hm6
         case rel=>exact ⟨g6,c6,ws6,true,op,adv bs q,rfl,rfl,(by first | rfl | (congr 1; omega)),HS6,HP6⟩
       ·have eo3:(o.k == 3) = false:=by simp [ho3]
        by_cases ho2:o.k = 2
        ·have eo2:(o.k == 2) = true:=by simp [ho2]
         go_wp2_with (at_builtin; refine zBx (t:=o.s) rfl (.tmp 113) (.tmp 116) rfl rfl (zA HS5) W5.heap.size rfl rfl (hos) (by omega) ?next)
         case next=>
          intro g6 c6 ws6 w6 hw6 hs6
          obtain ⟨f6,hm6,hp6⟩:=((zA HP).stepE (zA HK) hq hn hE).2.1 (by rw [<- zA HOE]; exact ho2)
          rw [<- zA HOE] at hp6
          rw [show _ = ws6 from hw6.symm] at hp6
          have HS6:=zB hs6
          have HP6:=zB hp6
          clear hs6 hp6 hw6 HS5
          go_wp2_with fail
          go_roundg f6
          case measure=>exact hm6
          case rel=>exact ⟨g6,c6,ws6,false,op,adv bs q,rfl,rfl,(by first | rfl | (congr 1; omega)),HS6,HP6⟩
        ·have eo2:(o.k == 2) = false:=by simp [ho2]
         have HLF:=zB (zB0 rp cap (adv bs q) a bs _ (zA HS5).rd hl)
         obtain ⟨L2,HL2⟩:∃ L2,Hid (L2 = bs.length - adv bs q):=⟨_,zB rfl⟩
         rw [<- zA HL2] at HLF
         go_wp2_with fail
         (with_reducible refine (zA HLF).mono ?_)
         rintro e w8 ⟨rfl,H8,hb8⟩
         have HS8:=zB ((zA HS5).below hb8)
         clear HLF H8 HS5 hb8
         have HSE:=((zA HP).stepE (zA HK) hq hn hE).2.2
         have h3:(atO ns (k / 8 % ns.length)).k ≠ 3:=by rw [<- zA HOE]; exact ho3
         have h2:(atO ns (k / 8 % ns.length)).k ≠ 2:=by rw [<- zA HOE]; exact ho2
         by_cases hL2:L2 = 0
         ·have hLI2:((L2:Nat):Int) <= 0:=by omega
          have HF:=zB (HSE.2 h3 h2 (by have:=zA HL2; omega))
          have h1:=(zA HP).one rfl
          clear HSE h3 h2
          go_wp2_with fail
          go_ret
          exact (zA HS8).post h1 hn3 (zA HF)
         ·have hLI2:¬ ((L2:Nat):Int) <= 0:=by omega
          obtain ⟨f6,hm6,hp6⟩:=HSE.1 h3 h2 (by have:=zA HL2; omega)
          have HP6:=zB hp6
          clear hp6 HSE h3 h2
          go_wp2_with fail
          go_roundg f6
          case measure=>exact hm6
          case rel=>exact ⟨g,c,ws,true,op,adv bs q,rfl,rfl,rfl,HS8,HP6⟩
end Go.Proofs.YtgiemobdmbijiaaGreatDoor
namespace Go.Proofs.YtgiemobdmbijiaaGreatDoor
set_option linter.unusedSimpArgs false
set_option linter.unusedVariables false
set_option maxHeartbeats 16000000
set_option maxRecDepth 100000
open Go.RowKit
open Go.Deep (BT)
theorem zMd {b:Nat} (h:zY (b:Int) = 1):b = 3 \/ b = 5 \/ b = 6:=by
 unfold zY at h
 split at h
 ·omega
 ·split at h
  ·omega
  ·omega
theorem zMe {b:Nat} (h:zY (b:Int) = 2):b = 4:=by
 unfold zY at h
 split at h
 ·omega
 ·split at h <;> omega
theorem zMf {b:Nat} (h:zY (b:Int) = 0):b ≠ 3 /\ b ≠ 4 /\ b ≠ 5 /\ b ≠ 6:=by
 refine ⟨?_,?_,?_,?_⟩ <;> (rintro rfl; revert h; decide)
theorem zFR {T:ET} (h:Sh T):0 < (wdT T).length:=by
 have:=zME h
 unfold wdT
 rw [List.length_map]
 omega
theorem zI9 (bz cz:Nat) (zs:List zD) (hzl:zs.length <= 20000):∀ (T:ET),Sh T -> ∀ (s:Nat),zFA zs T s -> s + tsz T <= zs.length -> zJ6 bz cz zs (s + tsz T - 1) (wdT T):=by
 intro T
 induction T with
 | nil=>intro h; exact h.elim
 | node b o t l r ihl ihr=>
  rintro hsh s ⟨h1,h2,h3⟩ hz
  have hwl:=zFP (.node b o t l r)
  obtain ⟨rfl,h⟩:=hsh
  simp only [tsz] at hz hwl
  have e:s + tsz (.node b 0 t l r) - 1 = s + tsz l + tsz r:=by simp only [tsz]; omega
  rw [e]
  have hcell:∀ ja jb:Nat,(if zY (b:Int) = 0 then (0:Int) else ((s + tsz l:Nat):Int) - 1) = (ja:Int) -> (if zY (b:Int) = 2 then ((s + tsz l + tsz r:Nat):Int) - 1 else 0) = (jb:Int) -> atN zs (s + tsz l + tsz r) = ⟨(b:Int),t,(ja:Int),(jb:Int)⟩:=fun ja jb ha hb=>by
   rw [h3,tN,ha,hb]
  rcases h with ⟨hk,rfl,rfl⟩ | ⟨hk,hsl,rfl⟩ | ⟨hk,hsl,hsr⟩
  ·obtain ⟨b3,b4,b5,b6⟩:=zMf hk
   have hy:wdT (.node b 0 t .nil .nil) = [t]:=by
    simp only [wdT,ySy]
    rw [if_neg b6,if_neg b3,if_neg b5,if_neg b4]
    rfl
   exact zGF bz cz _ zs (b:Int) t 0 0 _ (by simp only [tsz] at hz ⊢; omega) hzl (hcell 0 0 (by rw [if_pos hk]; rfl) (by rw [if_neg (by omega)]; rfl)) (by simp only [tsz] at hwl; omega) (Or.inl ⟨hk,hy⟩)
  ·have hp:=hsl.pos
   have hwp:=zFR hsl
   have hrec:=ihl hsl s h1 (by omega)
   have hat:=hcell (s + tsz l - 1) 0 (by rw [if_neg (by omega)]; omega) (by rw [if_neg (by omega)]; rfl)
   rcases zMd hk with rfl | rfl | rfl
   ·exact zGF bz cz _ zs 3 t (s + tsz l - 1) 0 _ (by simp only [tsz] at hz ⊢; omega) hzl hat (by omega) (Or.inr (Or.inl ⟨rfl,wdT l,hwp,hrec,by simp [wdT,ySy]⟩))
   ·exact zGF bz cz _ zs 5 t (s + tsz l - 1) 0 _ (by simp only [tsz] at hz ⊢; omega) hzl hat (by omega) (Or.inr (Or.inr (Or.inr (Or.inl ⟨rfl,wdT l,hwp,hrec,by simp [wdT,ySy]⟩))))
   ·exact zGF bz cz _ zs 6 t (s + tsz l - 1) 0 _ (by simp only [tsz] at hz ⊢; omega) hzl hat (by omega) (Or.inr (Or.inr (Or.inl ⟨rfl,wdT l,hwp,hrec,by simp [wdT,ySy]⟩)))
  ·have hp:=hsl.pos
   have hq:=hsr.pos
   obtain rfl:=zMe hk
   exact zGF bz cz _ zs 4 t (s + tsz l - 1) (s + tsz l + tsz r - 1) _ (by omega) hzl (hcell _ _ (by rw [if_neg (by omega)]; omega) (by rw [if_pos hk]; omega)) (by omega) (Or.inr (Or.inr (Or.inr (Or.inr ⟨rfl,wdT l,wdT r,zFR hsl,zFR hsr,ihl hsl s h1 (by omega),ihr hsr (s + tsz l) h2 (by omega),by simp [wdT,ySy]⟩))))
end Go.Proofs.YtgiemobdmbijiaaGreatDoor
