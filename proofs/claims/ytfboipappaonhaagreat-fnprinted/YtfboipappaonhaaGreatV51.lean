import Derived.OpenShut
import Derived.ProofKit
import Derived.Lib.SmallJoins
import Derived.ChangeSlices
import Derived.Deep.Slices
import Derived.ShutString
import Derived.ChangeOld
import Derived.Below
import Derived.Test.YtfboipappaonhaaGreatV00
import Derived.Test.YtfboipappaonhaaGreatV20
import Derived.Test.YtfboipappaonhaaGreatV27
import Derived.Test.YtfboipappaonhaaGreatV28
import Derived.Test.YtfboipappaonhaaGreatV34
import Derived.Test.YtfboipappaonhaaGreatV35
import Derived.Test.YtfboipappaonhaaGreatV37
import Derived.Test.YtfboipappaonhaaGreatV44
import Derived.Test.YtfboipappaonhaaGreatV45
import Derived.Test.YtfboipappaonhaaGreatV46
import Derived.Test.YtfboipappaonhaaGreatV49
import Derived.Test.YtfboipappaonhaaGreatV50
namespace Go.Proofs.YtfboipappaonhaaGreat
set_option linter.unusedSimpArgs false
set_option linter.unusedVariables false
set_option maxHeartbeats 16000000
set_option maxRecDepth 100000
open Go.RowKit Go.Maps
def zAa (xs:List OpR) (s:ByteArray) (w:World) (e:Ending) (w':World):Prop:=
 (∃ (a:Option Addr) (cc:Nat) (us:List zD) (c p:Int),e = .returned (.tuple #[.agg #[.slice a us.length cc],.int .i64 c,.int .i64 p]) /\ Hid (Zf w' w.heap.size a us) /\ Hid (zDp xs s us c p)) /\ Below w.heap.size w w'
theorem zAa.empty {xs:List OpR} {s:ByteArray} {w w':World} {c p:Int} (h:zDp xs s [] c p) (hb:Below w.heap.size w w'):zAa xs s w (.returned (.tuple #[.agg #[.slice none 0 0],.int .i64 c,.int .i64 p])) w':=
 ⟨⟨none,0,[],c,p,rfl,zB (show Zf w' w.heap.size none [] from Or.inl ⟨rfl,rfl⟩),zB h⟩,hb⟩
def zIZ (N M bo bs:Nat) (W:World):Prop:=
 (W.cell? ⟨N + 1,0,none⟩ = some (.slice none 0 0) /\ W.frozen? ⟨N + 1,0,none⟩ = false) /\ (W.cell? ⟨N + 1 + 1,0,none⟩ = some (.int .i64 0) /\ W.frozen? ⟨N + 1 + 1,0,none⟩ = false) /\ (W.cell? ⟨N + 1 + 1 + 1,0,none⟩ = some (.int .i64 0) /\ W.frozen? ⟨N + 1 + 1 + 1,0,none⟩ = false) /\
 W.cell? ⟨M,0,none⟩ = some (.map (some bo)) /\ W.cell? ⟨M,1,none⟩ = some (.map (some bs))
theorem zIZ.keptO {N M bo bs p:Nat} {W W':World} (h:zIZ N M bo bs W) (hk:zE W W' p) (h1:N + 4 <= p) (h2:M ≠ p):zIZ N M bo bs W':=by
 obtain ⟨⟨a1,b1⟩,⟨a2,b2⟩,⟨a3,b3⟩,i0,i1⟩:=h
 have l1:N + 1 < W.heap.size:=block_lt_of_cell a1
 have l2:N + 1 + 1 < W.heap.size:=block_lt_of_cell a2
 have l3:N + 1 + 1 + 1 < W.heap.size:=block_lt_of_cell a3
 have lm:M < W.heap.size:=block_lt_of_cell i0
 exact ⟨⟨(hk.cell l1 (by omega) 0).trans a1,(hk.frozen l1 (by omega) 0).trans b1⟩,⟨(hk.cell l2 (by omega) 0).trans a2,(hk.frozen l2 (by omega) 0).trans b2⟩,⟨(hk.cell l3 (by omega) 0).trans a3,(hk.frozen l3 (by omega) 0).trans b3⟩,(hk.cell lm h2 0).trans i0,(hk.cell lm h2 1).trans i1⟩
theorem zIZ.below {N M bo bs:Nat} {W W':World} (h:zIZ N M bo bs W) (hb:Below W.heap.size W W'):zIZ N M bo bs W':=by
 have lm:M < W.heap.size:=block_lt_of_cell h.2.2.2.1
 have l3:N + 1 + 1 + 1 < W.heap.size:=block_lt_of_cell h.2.2.1.1
 exact h.keptO (zE.of_below (g:=W.heap.size) hb) (by omega) (by omega)
theorem zCr {tmps:Array Value} {R:Ending -> World -> Prop} {N M bo bs:Nat} {code place:Int} {W:World} (hF:zIZ N M bo bs W)
  (hres:∀ W',W'.cell? ⟨N + 1,0,none⟩ = some (.slice none 0 0) -> W'.cell? ⟨N + 1 + 1,0,none⟩ = some (.int .i64 code) -> W'.cell? ⟨N + 1 + 1 + 1,0,none⟩ = some (.int .i64 place) -> (results Tryz.f13 tmps).run Tryz.prog W' = .ok (.tuple #[.agg #[.slice none 0 0],.int .i64 code,.int .i64 place]) W')
  (hR:∀ W',Below N W W' -> R (.returned (.tuple #[.agg #[.slice none 0 0],.int .i64 code,.int .i64 place])) W') :
  Leaves Tryz.prog Tryz.f13 tmps R [{ target:=.fn (.func 36) #[.pointer (some ⟨N + 1 + 1,0,none⟩),.pointer (some ⟨N + 1 + 1 + 1,0,none⟩)],args:=#[] }] (.panicking [{ v:=.iface 146 (.agg #[.int .i64 code,.int .i64 place]),recovered:=false }]) W:=by
 obtain ⟨⟨a1,b1⟩,⟨a2,b2⟩,⟨a3,b3⟩,_,_⟩:=hF
 have l1:N + 1 < W.heap.size:=block_lt_of_cell a1
 have l2:N + 1 + 1 < W.heap.size:=block_lt_of_cell a2
 have l3:N + 1 + 1 + 1 < W.heap.size:=block_lt_of_cell a3
 refine leaves_cons (f:=36) (args:=#[.pointer (some ⟨N + 1 + 1,0,none⟩),.pointer (some ⟨N + 1 + 1 + 1,0,none⟩)]) (by simp) (by simp [go_sem]) ?_
 refine (zEl _ _ 0 0 code place _ a2 b2 a3 b3 (by omega)).mono ?_
 rintro e u' w'' ⟨rfl,rfl,wz,hbz,rfl⟩
 have y1:=(hbz.cell (p:=⟨N + 1,0,none⟩) l1).trans a1
 have y2:=(hbz.cell (p:=⟨N + 1 + 1,0,none⟩) l2).trans a2
 have y3:=(hbz.cell (p:=⟨N + 1 + 1 + 1,0,none⟩) l3).trans a3
 refine ⟨_,hres _ ?_ ?_ ?_,hR _ ?_⟩
 ·rw [World.cell?_setCell_other _ _ _ _ (fun e=>by injection e with e; omega),World.cell?_setCell_other _ _ _ _ (fun e=>by injection e with e; omega)]
  exact y1
 ·rw [World.cell?_setCell_other _ _ _ _ (fun e=>by injection e with e; omega)]
  exact World.cell?_setCell_same _ _ _ y2
 ·have y4:=(World.cell?_setCell_other wz ⟨N + 1 + 1,0,none⟩ ⟨N + 1 + 1 + 1,0,none⟩ (.int .i64 code) (fun e=>by injection e with e; omega)).trans y3
  exact World.cell?_setCell_same _ _ _ y4
 ·exact ((hbz.mono (by omega)).setCell (by simp only; omega) _).setCell (by simp only; omega) _
theorem zHi {tmps:Array Value} {R:Ending -> World -> Prop} {N:Nat} {v:Value} {W:World}
  (hres:(results Tryz.f13 tmps).run Tryz.prog W = .ok v W) (hR:R (.returned v) W) :
  Leaves Tryz.prog Tryz.f13 tmps R [{ target:=.fn (.func 36) #[.pointer (some ⟨N + 1 + 1,0,none⟩),.pointer (some ⟨N + 1 + 1 + 1,0,none⟩)],args:=#[] }] .returning W:=by
 refine leaves_cons (f:=36) (args:=#[.pointer (some ⟨N + 1 + 1,0,none⟩),.pointer (some ⟨N + 1 + 1 + 1,0,none⟩)]) (by simp) (by simp [go_sem]) ?_
 refine (zJF _ _ _).mono ?_
 rintro e u' w'' ⟨rfl,rfl,rfl⟩
 exact ⟨v,hres,hR⟩
def zN5 (xs:List OpR) (w:World) (e:Ending) (w':World):Prop:=(∃ (x y:Option Nat) (c:Int),e = .returned (.tuple #[.agg #[.map x,.map y],.int .i64 c]) /\ zK xs c /\ (c = 0 -> ∃ bo bs,x = some bo /\ y = some bs /\ Idx w' bo bs xs xs.length)) /\ Below w.heap.size w w'
theorem zHj (a:Option Addr) (cap:Nat) (xs:List OpR) (s:ByteArray) (w:World) (hmx:xs.length <= 1048576) (hI:∀ W,Below w.heap.size w W -> Calls Tryz.prog 38 #[.agg #[.slice a xs.length cap]] W (zN5 xs W)) (hsz:Ze xs) (hs:s.size <= 1048576) :
  Calls Tryz.prog 13 #[.agg #[.slice a xs.length cap],.string s] w (zAa xs s w):=by
 have hmf:∀ (fn:Fn) (first cap:Array Value) (w:World),(Instr.makeFunc fn first cap).run Tryz.prog w = .ok (.func fn first cap) w:=fun _ _ _ _=>rfl
 have HS:=zB hsz
 clear hsz
 have bel0:Below w.heap.size w ((((w.alloc (.cells #[.slice a xs.length cap] 25)).alloc (.cells #[.slice none 0 0] 28)).alloc (.cells #[.int .i64 0] 3)).alloc (.cells #[.int .i64 0] 3)):=(((zC _ _).alloc (by simp) _).alloc (by simp; omega) _).alloc (by simp; omega) _
 have HX:=hI _ bel0
 clear hI
 have HB0:=zB bel0
 clear bel0
 go_enter_defers Tryz.func13,Tryz.ntmps13
 go_wp2_with fail
 refine HX.mono ?_
 clear HX
 rintro e w1 ⟨⟨x,y,c,rfl,hc,hix⟩,hb1⟩
 have HC:=zB hc
 have HIX:=zB hix
 have z1:w.heap.size + 4 <= w1.heap.size:=by have:=hb1.size; simp at this; omega
 have bel1:Below w.heap.size w w1:=(zA HB0).trans (hb1.mono (by simp; omega))
 have t1:w1.cell? ⟨w.heap.size + 1,0,none⟩ = some (.slice none 0 0):=(hb1.cell (p:=⟨w.heap.size + 1,0,none⟩) (by simp)).trans (by simp [go_sem])
 have u1:w1.frozen? ⟨w.heap.size + 1,0,none⟩ = false:=(hb1.frozen (p:=⟨w.heap.size + 1,0,none⟩) (by simp)).trans (by simp [go_sem])
 have t2:w1.cell? ⟨w.heap.size + 1 + 1,0,none⟩ = some (.int .i64 0):=(hb1.cell (p:=⟨w.heap.size + 1 + 1,0,none⟩) (by simp)).trans (by simp [go_sem])
 have u2:w1.frozen? ⟨w.heap.size + 1 + 1,0,none⟩ = false:=(hb1.frozen (p:=⟨w.heap.size + 1 + 1,0,none⟩) (by simp)).trans (by simp [go_sem])
 have t3:w1.cell? ⟨w.heap.size + 1 + 1 + 1,0,none⟩ = some (.int .i64 0):=(hb1.cell (p:=⟨w.heap.size + 1 + 1 + 1,0,none⟩) (by simp)).trans (by simp [go_sem])
 have u3:w1.frozen? ⟨w.heap.size + 1 + 1 + 1,0,none⟩ = false:=(hb1.frozen (p:=⟨w.heap.size + 1 + 1 + 1,0,none⟩) (by simp)).trans (by simp [go_sem])
 have bel2:Below w.heap.size w (w1.alloc (.cells #[.map x,.map y] 69)):=bel1.alloc bel1.size _
 have hb2:=zC w1 (.cells #[.map x,.map y] 69)
 replace t1:=(hb2.cell (p:=⟨w.heap.size + 1,0,none⟩) (by simp only; omega)).trans t1
 replace u1:=(hb2.frozen (p:=⟨w.heap.size + 1,0,none⟩) (by simp only; omega)).trans u1
 replace t2:=(hb2.cell (p:=⟨w.heap.size + 1 + 1,0,none⟩) (by simp only; omega)).trans t2
 replace u2:=(hb2.frozen (p:=⟨w.heap.size + 1 + 1,0,none⟩) (by simp only; omega)).trans u2
 replace t3:=(hb2.cell (p:=⟨w.heap.size + 1 + 1 + 1,0,none⟩) (by simp only; omega)).trans t3
 replace u3:=(hb2.frozen (p:=⟨w.heap.size + 1 + 1 + 1,0,none⟩) (by simp only; omega)).trans u3
 clear hc hix hb1 HB0
 by_cases hc0:c = 0
 case neg=>
  have hc0':(c != 0) = true:=by simpa using hc0
  have HN:=zB (show ¬ zK xs 0 from fun h=>hc0 (zAz (zA HC) h))
  clear hc0
  go_wp2_with fail
  refine zHi (v:=.tuple #[.agg #[.slice none 0 0],.int .i64 1,.int .i64 0]) ?_ ?_
  ·simp [results,Tryz.results13,go_sem,t1,t2,t3]
  ·exact zAa.empty (Or.inl ⟨zA HN,rfl,rfl,rfl⟩) (((bel2.setCell (by simp only; omega) _).setCell (by simp only; omega) _).setCell (by simp only; omega) _)
 subst hc0
 obtain ⟨bo,bs,rfl,rfl,hidx⟩:=(zA HIX) rfl
 by_cases hlen:20000 < s.size
 ·have hlI:(20000:Int) < (s.size:Int):=by omega
  have HN:=zB hlen
  clear HIX hidx hlen
  go_wp2_with fail
  refine zHi (v:=.tuple #[.agg #[.slice none 0 0],.int .i64 2,.int .i64 0]) ?_ ?_
  ·simp [results,Tryz.results13,go_sem,t1,t2,t3]
  ·exact zAa.empty (Or.inr ⟨zA HC,Or.inl ⟨zA HN,rfl,rfl,rfl⟩⟩) (((bel2.setCell (by simp only; omega) _).setCell (by simp only; omega) _).setCell (by simp only; omega) _)
 have h20:s.size <= 20000:=by omega
 have hlI:(s.size:Int) <= 20000:=by omega
 have HF:=zB (show zIZ w.heap.size w1.heap.size bo bs (w1.alloc (.cells #[.map (some bo),.map (some bs)] 69)) from ⟨⟨t1,u1⟩,⟨t2,u2⟩,⟨t3,u3⟩,by simp [go_sem],by simp [go_sem]⟩)
 have HID:=zB (hidx.kept hb2)
 have HX:=zNI bo bs xs s _ (zA HID) (zA HC) (zA HS) h20
 clear HIX hidx hb2 t1 t2 t3 u1 u2 u3 hlen
 go_wp2_with fail
 refine HX.mono ?_
 clear HX
 rintro e w3 ⟨⟨g,cp,ts,rfl,⟨hg,hcp,hcpm⟩,hfil,hlex⟩,hb3⟩
 have bel3:=bel2.trans (hb3.mono bel2.size)
 replace HF:=zB ((zA HF).below hb3)
 replace HID:=zB ((zA HID).kept hb3)
 have hgw:w.heap.size <= g:=by simp at hg; omega
 have hg3:g < w3.heap.size:=(zA hfil).1
 have HT:=zB (show zEe w3 g 0 ts from (zA hfil).2.2)
 have HR:=zB (zKQ (zA hlex))
 have HZ:=zB (zDB ts 0 (zA hlex))
 have hm3:ts.length + ZW ts ts.length <= 1048576:=by have:=zA HR; omega
 have hms:w1.heap.size + 1 <= w3.heap.size:=by have:=hb3.size; simp at this; omega
 have HX:=zGF g 0 cp ts w3 hm3 hcp hcpm (zA HT) hg3 (fun i hi=>by have:=((zA HZ) i hi).1; omega)
 clear hb3 hfil HR hg bel2
 go_wp2_with fail
 refine HX.mono ?_
 clear HX
 rintro e w4 ⟨⟨i,hi,h6,hno,rfl⟩ | ⟨hno,rfl⟩,hb4⟩
 ·refine zCr (zA (zB ((zA HF).below hb4))) (fun W' a b c=>by simp [results,Tryz.results13,go_sem,a,b,c]) (fun W' hb=>zAa.empty (Or.inr ⟨zA HC,Or.inr ⟨h20,ts,zA hlex,Or.inl ⟨i,hi,h6,hno,rfl,rfl,rfl⟩⟩⟩) ((bel3.trans (hb4.mono bel3.size)).trans hb))
 replace HF:=zB ((zA HF).below hb4)
 replace HID:=zB ((zA HID).kept hb4)
 have bel4:=bel3.trans (hb4.mono bel3.size)
 replace HT:=zB ((zA HT).below hb4 hg3)
 have hg4:g < w4.heap.size:=Nat.lt_of_lt_of_le hg3 hb4.size
 have hms4:=Nat.le_trans hms hb4.size
 have HNO:=zB hno
 have HX:=zEO bo bs g 0 cp xs ts w4 hm3 hcp hcpm (zA HID) (zA HC) (zA HT) (fun i hi=>by have:=(zA HZ) i hi; unfold maxLen; omega) hg4 (fun i hi=>by have:=((zA HZ) i hi).1; omega) (zCI ts 0 (zA hlex))
 obtain ⟨⟨t1,u1⟩,⟨t2,u2⟩,⟨t3,u3⟩,i0,i1⟩:=zA HF
 clear hb4 bel3 hno hg3 hms
 go_wp2_with fail
 refine HX.mono ?_
 clear HX t1 t2 t3 u1 u2 u3 i0 i1
 rintro e w5 ⟨⟨i,hi,hfi,hro,rfl⟩ | ⟨hfit,rfl⟩,hb5⟩
 ·refine zCr (zA (zB ((zA HF).below hb5))) (fun W' a b c=>by simp [results,Tryz.results13,go_sem,a,b,c]) (fun W' hb=>zAa.empty (Or.inr ⟨zA HC,Or.inr ⟨h20,ts,zA hlex,Or.inr ⟨zA HNO,Or.inl ⟨i,hi,hfi,hro,rfl,rfl,rfl⟩⟩⟩⟩) ((bel4.trans (hb5.mono bel4.size)).trans hb))
 replace HF:=zB ((zA HF).below hb5)
 replace HID:=zB ((zA HID).kept hb5)
 have bel5:=bel4.trans (hb5.mono bel4.size)
 replace HT:=zB ((zA HT).below hb5 hg4)
 have hg5:g < w5.heap.size:=Nat.lt_of_lt_of_le hg4 hb5.size
 have hms5:=Nat.le_trans hms4 hb5.size
 have HFIT:=zB hfit
 have HX:=zGE bo bs g 0 cp xs ts w5 (zA HID) (zA HC) (zA HS) hmx (zA HT) hg5
 obtain ⟨⟨t1,u1⟩,⟨t2,u2⟩,⟨t3,u3⟩,i0,i1⟩:=zA HF
 clear hb5 bel4 hfit hg4 hms4
 go_wp2_with fail
 refine HX.mono ?_
 clear HX t1 t2 t3 u1 u2 u3 i0 i1
 rintro e w6 ⟨⟨p,bf,bb,rfl,hp,hpc,hpr⟩,hb6⟩
 replace HF:=zB ((zA HF).below hb6)
 have bel6:=bel5.trans (hb6.mono bel5.size)
 have HFS:=zB (zMk (zA HC) (zBW (zA HC)) h20 (zA hlex) (zA HFIT))
 have HSG:=zB (show ZQ xs (false,0) (sgs xs ts 0 ts.length) by have:=(zA HFS).all 0 (zCI ts 0 (zA hlex)).1; rw [Nat.sub_zero] at this; exact this)
 obtain ⟨res,hres⟩:∃ res,res = RD xs 0 none (sgs xs ts 0 ts.length):=⟨_,rfl⟩
 have HX:=zJH (zA HFS) w6 (zA HSG) (zA hpc) (zA hpr) res hres
 have HRES:=zB hres
 have hz6:=hb6.size
 have hl5:w.heap.size + 4 <= w5.heap.size:=by omega
 clear hb6 hres HSG HFS hpc hpr
 go_wp2_with fail
 refine HX.mono ?_
 clear HX
 rintro e w7 ⟨hk7,⟨hn,rfl⟩ | ⟨T,r,hsome,hgd,⟨hhi,rfl⟩ | ⟨hlo,g',c',rfl,hg',hfil⟩⟩⟩
 ·have HF7:=zB ((zA HF).keptO (zA hk7) (by omega) (by omega))
  have bel7:=bel6.trans ((zA hk7).below bel6.size (by omega))
  refine zCr (zA HF7) (fun W' a b c=>by simp [results,Tryz.results13,go_sem,a,b,c]) (fun W' hb=>zAa.empty (Or.inr ⟨zA HC,Or.inr ⟨h20,ts,zA hlex,Or.inr ⟨zA HNO,Or.inr ⟨zA HFIT,Or.inl ⟨(zA HRES).symm.trans hn,rfl,rfl,rfl⟩⟩⟩⟩⟩) (bel7.trans hb))
 ·have HF7:=zB ((zA HF).keptO (zA hk7) (by omega) (by omega))
  have bel7:=bel6.trans ((zA hk7).below bel6.size (by omega))
  refine zCr (zA HF7) (fun W' a b c=>by simp [results,Tryz.results13,go_sem,a,b,c]) (fun W' hb=>zAa.empty (Or.inr ⟨zA HC,Or.inr ⟨h20,ts,zA hlex,Or.inr ⟨zA HNO,Or.inr ⟨zA HFIT,Or.inr ⟨T,r,(zA HRES).symm.trans hsome,Or.inl ⟨hhi,rfl,rfl,rfl⟩⟩⟩⟩⟩⟩) (bel7.trans hb))
 have HF7:=zB ((zA HF).keptO (zA hk7) (by omega) (by omega))
 have bel7:=bel6.trans ((zA hk7).below bel6.size (by omega))
 obtain ⟨us,hus⟩:∃ us,us = nd T 0:=⟨_,rfl⟩
 rw [<- hus] at hfil
 rw [<- hus]
 have HOUT:=zB (show zDp xs s us 0 0 from Or.inr ⟨zA HC,Or.inr ⟨h20,ts,zA hlex,Or.inr ⟨zA HNO,Or.inr ⟨zA HFIT,Or.inr ⟨T,r,(zA HRES).symm.trans hsome,Or.inr ⟨hlo,hus,rfl,rfl⟩⟩⟩⟩⟩⟩)
 obtain ⟨⟨t1,u1⟩,⟨t2,u2⟩,⟨t3,u3⟩,i0,i1⟩:=zA HF7
 clear hus hsome hlo HRES HF hk7 bel6 HNO HFIT HT HID i0 i1 hgd
 go_wp2_with fail
 refine zHi (v:=.tuple #[.agg #[.slice (some ⟨g',0,none⟩) us.length c'],.int .i64 0,.int .i64 0]) ?_ ?_
 ·simp [results,Tryz.results13,go_sem,t1,t2,t3]
 ·refine ⟨⟨some ⟨g',0,none⟩,c',us,0,0,rfl,zB (Or.inr ⟨g',rfl,by omega,?_⟩),HOUT⟩,((bel7.setCell (by simp only; omega) _).setCell (by simp only; omega) _).setCell (by simp only; omega) _⟩
  exact (((zA hfil).setCell _ _ _ (by omega)).setCell _ _ _ (by omega)).setCell _ _ _ (by omega)
theorem zGG (b off cap:Nat) (xs:List OpR) (s:ByteArray) (w:World) (hmx:xs.length <= 1048576) (hw:Ops w b off xs) (hsz:Ze xs) (hB:b < w.heap.size) (hs:s.size <= 1048576) :
  Calls Tryz.prog 13 #[.agg #[.slice (some ⟨b,off,none⟩) xs.length cap],.string s] w (zAa xs s w):=
 zHj _ cap xs s w hmx (fun W hb=>zBD b off cap xs W hmx (hw.below hb hB) hsz (Nat.lt_of_lt_of_le hB hb.size)) hsz hs
end Go.Proofs.YtfboipappaonhaaGreat
namespace Go.Proofs.YtfboipappaonhaaGreat
set_option linter.unusedSimpArgs false
set_option linter.unusedVariables false
set_option maxHeartbeats 16000000
set_option maxRecDepth 100000
open Go.RowKit
theorem Zf.some {w:World} {n:Nat} {a:Option Addr} {us:List zD} (h:Zf w n a us) (h1:1 <= us.length):∃ g,a = some ⟨g,0,none⟩ /\ n <= g /\ zO w g us us.length:=by
 rcases h with ⟨h,_⟩ | h
 ·omega
 ·exact h
theorem zJI (a:Option Addr) (cap:Nat) (l:List UInt8) (w:World) (hm:l.length <= maxLen) (hcap:l.length <= cap) (h:zGq w a l) :
  Calls Tryz.prog 3 #[.slice a l.length cap] w fun e w'=>e = .returned (.bool true) /\ Below w.heap.size w w':=by
 have HA:=zB h
 clear h
 by_cases hl:l.length <= 1048576
 case neg=>
  have hlI:(1048576:Int) < (l.length:Int):=by omega
  unfold maxLen at hm
  go_enter Tryz.func3,Tryz.ntmps3
  go_wp2_with fail
  go_ret
  exact ⟨rfl,Below.refl _ _⟩
 have hlI:¬ (1048576:Int) < (l.length:Int):=by omega
 go_enter Tryz.func3,Tryz.ntmps3
 go_wp2_with fail
 (with_reducible refine (zCw a cap l _ hl hcap (zA HA)).mono ?_)
 rintro e w1 ⟨⟨gt,ct,gn,cn,ns,us,rfl,hgt,hgn,hF1,hN1,hD1⟩,hb1⟩
 obtain ⟨hnl,hns,hul,hus⟩:=(zA hD1).sized
 have HNS:=zB hns
 have HUS:=zB hus
 have HW1:=zB (show Below w1.heap.size w1 ((w1.alloc (.cells #[.slice (some ⟨gt,0,none⟩) ns.length ct] 25)).alloc (.cells #[.slice (some ⟨gn,0,none⟩) us.length cn] 28)) from (zC _ _).alloc (by simp) _)
 have HF1:=zB ((zA hF1).below (zA HW1) (zA hF1).1)
 have HN1:=zB ((zA hN1).below (zA HW1) (zA hN1).1)
 have bel1:=zB (hb1.trans ((zA HW1).mono hb1.size))
 clear hb1 hns hus hF1 hN1 HW1
 go_wp2_with fail
 (with_reducible refine (zGA gt 0 ct gn 0 cn ns us _ hnl (by omega) (zA HF1).ops (zA HNS) (zA HF1).lt1 (zA HN1).ops (zA HUS) (zA HN1).lt1).mono ?_)
 rintro e w2 ⟨⟨s,v,rfl,hP2⟩,hb2⟩
 have HN2:=zB ((zA HN1).below hb2 (zA HN1).1)
 have u2:w2.cell? ⟨w1.heap.size + 1,0,none⟩ = some (.slice (some ⟨gn,0,none⟩) us.length cn):=(hb2.cell (p:=⟨w1.heap.size + 1,0,none⟩) (by simp)).trans (by simp [go_sem])
 have bel2:=zB ((zA bel1).trans (hb2.mono (zA bel1).size))
 clear hb2 HF1 HN1 bel1
 go_wp2_with fail
 (with_reducible refine (zCw a cap l _ hl hcap ((zA HA).step ((zA bel2)))).mono ?_)
 rintro e w3 ⟨⟨gt',ct',gn',cn',ns',us',rfl,hgt',hgn',hF3,hN3,hD3⟩,hb3⟩
 obtain ⟨rfl,rfl⟩:=(zA hD3).one (zA hD1)
 have HW3:=zB (show Below w3.heap.size w3 ((w3.alloc (.cells #[.slice (some ⟨gt',0,none⟩) ns'.length ct'] 25)).alloc (.cells #[.slice (some ⟨gn',0,none⟩) us'.length cn'] 28)) from (zC _ _).alloc (by simp) _)
 have HF3:=zB ((zA hF3).below (zA HW3) (zA hF3).1)
 have HT3:=zB ((zA hN3).below (zA HW3) (zA hN3).1)
 have HN3:=zB (((zA HN2).below hb3 (zA HN2).1).below (zA HW3) (by have:=(zA HN2).1; have:=hb3.size; omega))
 have l2:w1.heap.size + 1 < w2.heap.size:=block_lt_of_cell u2
 have u3:=((zA HW3).cell (p:=⟨w1.heap.size + 1,0,none⟩) (by show w1.heap.size + 1 < w3.heap.size; have:=hb3.size; omega)).trans ((hb3.cell (p:=⟨w1.heap.size + 1,0,none⟩) l2).trans u2)
 have bel3:=zB (((zA bel2).trans (hb3.mono (zA bel2).size)).trans ((zA HW3).mono (by have:=hb3.size; have:=(zA bel2).size; omega)))
 clear hb3 hF3 hN3 hD3 hD1 HW3 u2 HN2 bel2 l2
 go_wp2_with fail
 (with_reducible refine (zGB gt' 0 ct' gn' 0 cn' ns' us' _ hnl (by omega) (zA HF3).ops (zA HNS) (zA HF3).lt1 (zA HT3).ops (zA HUS) (zA HT3).lt1).mono ?_)
 rintro e w4 ⟨⟨s',v',rfl,hP4⟩,hb4⟩
 obtain ⟨rfl,rfl⟩:=(zA hP4).one (zA hP2)
 have HF4:=zB ((zA HF3).below hb4 (zA HF3).1)
 have HN4:=zB ((zA HN3).below hb4 (zA HN3).1)
 have u4:=(hb4.cell (p:=⟨w1.heap.size + 1,0,none⟩) (block_lt_of_cell u3)).trans u3
 have t4:w4.cell? ⟨w3.heap.size,0,none⟩ = some (.slice (some ⟨gt',0,none⟩) ns'.length ct'):=(hb4.cell (p:=⟨w3.heap.size,0,none⟩) (by simp; omega)).trans (by simp [go_sem])
 have bel4:=zB ((zA bel3).trans (hb4.mono (zA bel3).size))
 clear hb4 hP4 HF3 HT3 HN3 u3 bel3
 cases v' with
 | false=>
  have hs0:s' = ⟨#[]⟩:=by
   rcases zA hP2 with ⟨_,h,_⟩ | ⟨_,_,h⟩
   ·cases h
   ·exact h
  subst hs0
  go_wp2_with fail
  go_ret
  exact ⟨rfl,zA bel4⟩
 | true=>
 obtain ⟨T,gs,hT0⟩:=zOG (zA hP2)
 have HT:=zB hT0
 have hpos:=hT0.pos
 have hne:¬ s' = ⟨#[]⟩:=fun e=>by rw [e] at hpos; exact absurd hpos (by decide)
 have hnl':¬ s'.toList = []:=fun e=>hne (zCz (by rw [e,ByteArray.toList_eq]))
 clear hT0 hP2
 go_wp2_with fail
 (with_reducible refine (zI8 gn 0 cn us' _ (by omega) (zA HN4).ops (zA HUS) (zA HN4).lt1).mono ?_)
 rintro e w5 ⟨⟨a5,c5,bs5,v5,rfl,hO5,hE5⟩,hb5⟩
 have hbe:=(zA HT).bare bs5 v5 (zA hE5)
 have HBE:=zB hbe
 have hbl:bs5.length <= 20000:=by rw [hbe,zg]; exact (zA HT).z
 have hbp:1 <= bs5.length:=by rw [hbe,zg]; exact Sh.pos (zA HT).sh
 obtain ⟨g5,rfl,hg5,hF5⟩:=Zf.some (zA hO5) hbp
 have HB5:=zB (zC w5 (.cells #[.slice (some ⟨g5,0,none⟩) bs5.length c5] 28))
 have HG5:=zB (hF5.below (zA HB5) hF5.1)
 have HF5:=zB (((zA HF4).below hb5 (zA HF4).1).below (zA HB5) (by have:=(zA HF4).1; have:=hb5.size; omega))
 have t5:=(hb5.cell (p:=⟨w3.heap.size,0,none⟩) (block_lt_of_cell t4)).trans t4
 have l5:w3.heap.size < w5.heap.size:=block_lt_of_cell t5
 have bel5:=zB (((zA bel4).trans (hb5.mono (zA bel4).size)).trans ((zA HB5).mono (by have:=hb5.size; have:=(zA bel4).size; omega)))
 obtain ⟨hh,HH⟩:∃ hh,Hid (hh = hT (erT T)):=⟨_,zB rfl⟩
 have HZ:=zB (zI7 g5 c5 bs5 (erT T) _ (zA HT).sh hbe (by omega) (zA HG5).ops (zA HG5).lt1)
 rw [<- zA HH] at HZ
 clear hbe hO5 hE5 hb5 hF5 HF4 HN4 u4 t4 bel4
 go_wp2_with fail
 (with_reducible refine (zA HZ).mono ?_)
 rintro e w6 ⟨rfl,hb6⟩
 have HF6:=zB ((zA HF5).below hb6 (zA HF5).1)
 have HG6:=zB ((zA HG5).below hb6 (zA HG5).1)
 have t6:=(hb6.cell (p:=⟨w3.heap.size,0,none⟩) (by simp; omega)).trans (((zA HB5).cell (p:=⟨w3.heap.size,0,none⟩) l5).trans t5)
 have x6:w6.cell? ⟨w5.heap.size,0,none⟩ = some (.slice (some ⟨g5,0,none⟩) bs5.length c5):=(hb6.cell (p:=⟨w5.heap.size,0,none⟩) (by simp)).trans (by simp [go_sem])
 have bel6:=zB ((zA bel5).trans (hb6.mono (zA bel5).size))
 clear hb6 HZ HF5 HG5 t5 bel5 HB5
 by_cases hh1:hh <= 500
 case neg=>
  have hhI:(500:Int) < (hh:Int):=by omega
  go_wp2_with fail
  go_ret
  exact ⟨by simp [hne,hnl'],zA bel6⟩
 have hhI:¬ (500:Int) < (hh:Int):=by omega
 by_cases hs:s'.size <= 20000
 case neg=>
  have hsI:(20000:Int) < (s'.size:Int):=by omega
  go_wp2_with fail
  go_ret
  exact ⟨by simp [hne,hnl'],zA bel6⟩
 have hsI:¬ (20000:Int) < (s'.size:Int):=by omega
 go_wp2_with fail
 (with_reducible refine (zGG gt' 0 ct' ns' s' _ hnl (zA HF6).ops (zA HNS) (zA HF6).lt1 (by omega)).mono ?_)
 rintro e w7 ⟨⟨a7,c7,vs,c,p,rfl,hO7,hP7⟩,hb7⟩
 obtain ⟨rfl,rfl⟩:=(zA HT).par vs c p hs (by rw [<- zA HH]; exact hh1) (zA hP7)
 have hgl1:=(zA HT).l1
 have hgl:=(zA HT).l
 have HSZ:=zB (zA HT).sz
 obtain ⟨g7,rfl,hg7,hF7⟩:=Zf.some (zA hO7) hgl1
 have HB7:=zB (zC w7 (.cells #[.slice (some ⟨g7,0,none⟩) vs.length c7] 28))
 have HG7:=zB (hF7.below (zA HB7) hF7.1)
 have HF7:=zB (((zA HF6).below hb7 (zA HF6).1).below (zA HB7) (by have:=(zA HF6).1; have:=hb7.size; omega))
 have HR7:=zB (((zA HG6).below hb7 (zA HG6).1).below (zA HB7) (by have:=(zA HG6).1; have:=hb7.size; omega))
 have t7:=(hb7.cell (p:=⟨w3.heap.size,0,none⟩) (block_lt_of_cell t6)).trans t6
 have x7:=(hb7.cell (p:=⟨w5.heap.size,0,none⟩) (block_lt_of_cell x6)).trans x6
 have l7:w3.heap.size < w7.heap.size:=block_lt_of_cell t7
 have l7':w5.heap.size < w7.heap.size:=block_lt_of_cell x7
 have n7:¬ w3.heap.size = w7.heap.size:=by omega
 have n7':¬ w5.heap.size = w7.heap.size:=by omega
 have bel7:=zB (((zA bel6).trans (hb7.mono (zA bel6).size)).trans ((zA HB7).mono (by have:=hb7.size; have:=(zA bel6).size; omega)))
 clear hb7 hO7 hP7 hF7 HF6 HG6 t6 x6 bel6
 go_wp2_with fail
 (with_reducible refine (zFz gt' 0 ct' g7 0 c7 ns' vs _ hnl (by omega) (zA HF7).ops (zA HNS) (zA HF7).lt1 (zA HG7).ops (zA HSZ) (zA HG7).lt1).mono ?_)
 rintro e w8 ⟨⟨c8,rfl,hok⟩,hb8⟩
 obtain rfl:=(zA HT).ok c8 hok
 have HG8:=zB ((zA HG7).below hb8 (zA HG7).1)
 have HR8:=zB ((zA HR7).below hb8 (zA HR7).1)
 have x8:=(hb8.cell (p:=⟨w5.heap.size,0,none⟩) (by simp; omega)).trans (((zA HB7).cell (p:=⟨w5.heap.size,0,none⟩) l7').trans x7)
 have y8:w8.cell? ⟨w7.heap.size,0,none⟩ = some (.slice (some ⟨g7,0,none⟩) vs.length c7):=(hb8.cell (p:=⟨w7.heap.size,0,none⟩) (by simp)).trans (by simp [go_sem])
 have bel8:=zB ((zA bel7).trans (hb8.mono (zA bel7).size))
 clear hb8 hok HF7 HG7 HR7 t7 x7 bel7 HB7
 go_wp2_with fail
 (with_reducible refine (zGC g7 0 c7 vs _ (by omega) (zA HG8).ops (zA HSZ) (zA HG8).lt1).mono ?_)
 rintro e w9 ⟨⟨a9,c9,bs9,v9,rfl,hO9,hE9⟩,hb9⟩
 obtain ⟨rfl,hb9e⟩:=(zA HT).er bs9 v9 (zA hE9)
 have hsame:bs9 = bs5:=hb9e.trans (zA HBE).symm
 subst hsame
 have HB9:=zB (zC w9 (.cells #[.slice a9 bs9.length c9] 28))
 have HO9:=zB (Zf.arg ((zA hO9).step (zA HB9)))
 have HR9:=zB (zO.arg (((zA HR8).below hb9 (zA HR8).1).below (zA HB9) (by have:=(zA HR8).1; have:=hb9.size; omega)))
 have x9:=(hb9.cell (p:=⟨w5.heap.size,0,none⟩) (block_lt_of_cell x8)).trans x8
 have l9:w5.heap.size < w9.heap.size:=block_lt_of_cell x9
 have n9:¬ w5.heap.size = w9.heap.size:=by omega
 have bel9:=zB (((zA bel8).trans (hb9.mono (zA bel8).size)).trans ((zA HB9).mono (by have:=hb9.size; have:=(zA bel8).size; omega)))
 clear hb9 hO9 hE9 hb9e HG8 HR8 x8 y8 bel8
 go_wp2_with fail
 (with_reducible refine (zFo a9 (some ⟨g5,0,none⟩) c9 c5 bs9 bs9 _ (by omega) (by omega) (zA HO9) (zA HR9)).mono ?_)
 rintro e wa ⟨⟨v,rfl,hv⟩,hba⟩
 have hvt:v = true:=hv.2 rfl
 subst hvt
 have bela:=zB ((zA bel9).trans (hba.mono (zA bel9).size))
 clear hba
 go_wp2_with fail
 go_ret
 exact ⟨rfl,zA bela⟩
end Go.Proofs.YtfboipappaonhaaGreat
namespace Go.Proofs.YtfboipappaonhaaGreat
set_option linter.unusedVariables false
set_option maxHeartbeats 16000000
set_option maxRecDepth 100000
open Go.ChangeShapes Go.WideShapes Go.ChangeAt Go.RowKit Go.Joins
theorem ByP.own:ownKnob Tryz.prog.godebug = none:=by kernel_rfl
theorem ByP.laidOut:laidOutB Tryz.prog = true:=by kernel_rfl
theorem ByP.cellsB:Tryz.prog.cellsOf 5 = 1:=by kernel_rfl
theorem zJJ {W:World} {x:Addr} {v:Value} (h:W.cell? (x.add 0) = some v):x = ⟨x.block,x.off,none⟩:=by
 obtain ⟨b,off,spot⟩:=x
 have hs:spot = none:=by
  have:=World.cell?_spot h
  simpa [Addr.add] using this
 subst hs
 rfl
theorem zGH (zs:List Int) (len i:Nat) (hi:i < len) (hz:len <= zs.length):((zs.take len).map fun n=>UInt8.ofNat n.toNat).getD i 0 = UInt8.ofNat (zs.getD i 0).toNat:=by
 have h1:i < zs.length:=by omega
 simp [List.getD,hi,h1]
theorem zIa {H:Type} {enc:TypeId × Value -> H} {W:World} {held:Bool} {fuel:Nat} {cs:List Value} {x:DataW H × List MemPlace} (h:DataW.trod enc Tryz.prog W 0 (fun _=>true) held fuel 22 cs = some x) :
  ∃ (a:Option Addr) (cap:Nat) (l:List UInt8),cs = [.slice a l.length cap] /\ l.length <= maxLen /\ l.length <= cap /\ zGq W a l:=by
 rcases open_ints Tryz.underlying22 Tryz.underlying5 ByP.cellsB h with ⟨rfl,_⟩ | ⟨a,len,cap,zs,rfl,_,hl,hm,hz,_,hcell,hwz⟩
 ·exact ⟨none,0,[],rfl,Nat.zero_le _,Nat.zero_le _,Or.inl rfl⟩
 simp only [if_true] at hz
 have hll:((zs.take len).map fun n=>UInt8.ofNat n.toNat).length = len:=by simp; omega
 refine ⟨some a,cap,(zs.take len).map fun n=>UInt8.ofNat n.toNat,by rw [hll],by rw [hll]; omega,by rw [hll]; exact hl,?_⟩
 by_cases h0:len = 0
 ·exact Or.inl (by rw [hll]; exact h0)
 ·have c0:=hcell 0 (by omega)
  have hs:=zJJ c0
  refine Or.inr ⟨a.block,a.off,by rw [<- hs],?_,fun i hi=>?_⟩
  ·have:=block_lt_of_cell c0
   simpa [Addr.add] using this
  ·rw [hll] at hi
   have hc:=hcell i (by omega)
   rw [hs,Addr.add_mid] at hc
   have hb:=range_u8 hwz i
   have e:zs.getD i 0 = zs[i]?.getD 0:=rfl
   rw [hc,zGH zs len i hi (by omega),e]
   obtain ⟨z,hz⟩:∃ z:Int,z = zs[i]?.getD 0:=⟨_,rfl⟩
   rw [<- hz] at hb ⊢
   congr 2
   have:(UInt8.ofNat z.toNat).toNat = z.toNat:=by
    rw [UInt8.toNat_ofNat']
    omega
   rw [this]
   omega
end Go.Proofs.YtfboipappaonhaaGreat
