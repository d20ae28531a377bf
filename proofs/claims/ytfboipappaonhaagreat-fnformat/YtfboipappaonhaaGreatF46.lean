import Derived.Test.YtfboipappaonhaaGreatF08
import Derived.Test.YtfboipappaonhaaGreatF16
import Derived.Test.YtfboipappaonhaaGreatF19
import Derived.Test.YtfboipappaonhaaGreatF24
import Derived.Test.YtfboipappaonhaaGreatF28
import Derived.Test.YtfboipappaonhaaGreatF34
import Derived.Test.YtfboipappaonhaaGreatF40
import Derived.Test.YtfboipappaonhaaGreatF42
import Derived.Test.YtfboipappaonhaaGreatF43
import Derived.Test.YtfboipappaonhaaGreatF45
namespace Go.Proofs.YtfboipappaonhaaGreat
set_option linter.unusedSimpArgs false
set_option linter.unusedVariables false
set_option maxHeartbeats 16000000
set_option maxRecDepth 100000
open Go.RowKit Go.Maps
def Zr (xs:List OpR) (s:ByteArray) (w:World) (e:Ending) (w':World):Prop:=
 (∃ (a:Option Addr) (cc:Nat) (us:List zD) (c p:Int),e = .returned (.tuple #[.agg #[.slice a us.length cc],.int .i64 c,.int .i64 p])/\Hid (Zv w' w.heap.size a us)/\Hid (zAQ xs s us c p))/\Below w.heap.size w w'
theorem Zr.empty {xs:List OpR} {s:ByteArray} {w w':World} {c p:Int} (h:zAQ xs s [] c p) (hb:Below w.heap.size w w'):Zr xs s w (.returned (.tuple #[.agg #[.slice none 0 0],.int .i64 c,.int .i64 p])) w':=
 ⟨⟨none,0,[],c,p,rfl,zB (show Zv w' w.heap.size none [] from Or.inl ⟨rfl,rfl⟩),zB h⟩,hb⟩
def zKk (N M bo bs:Nat) (W:World):Prop:=
 (W.cell? ⟨N+1,0,none⟩=some (.slice none 0 0)/\W.frozen? ⟨N+1,0,none⟩=false)/\(W.cell? ⟨N+1+1,0,none⟩=some (.int .i64 0)/\W.frozen? ⟨N+1+1,0,none⟩=false)/\(W.cell? ⟨N+1+1+1,0,none⟩=some (.int .i64 0)/\W.frozen? ⟨N+1+1+1,0,none⟩=false) /\
 W.cell? ⟨M,0,none⟩=some (.map (some bo))/\W.cell? ⟨M,1,none⟩=some (.map (some bs))
theorem zKk.keptO {N M bo bs p:Nat} {W W':World} (h:zKk N M bo bs W) (hk:zE W W' p) (h1:N+4<=p) (h2:M≠p):zKk N M bo bs W':=by
 obtain ⟨⟨a1,b1⟩,⟨a2,b2⟩,⟨a3,b3⟩,i0,i1⟩:=h
 have l1:N+1<W.heap.size:=block_lt_of_cell a1
 have l2:N+1+1<W.heap.size:=block_lt_of_cell a2
 have l3:N+1+1+1<W.heap.size:=block_lt_of_cell a3
 have lm:M<W.heap.size:=block_lt_of_cell i0
 exact ⟨⟨(hk.cell l1 (by omega) 0).trans a1,(hk.frozen l1 (by omega) 0).trans b1⟩,⟨(hk.cell l2 (by omega) 0).trans a2,(hk.frozen l2 (by omega) 0).trans b2⟩,⟨(hk.cell l3 (by omega) 0).trans a3,(hk.frozen l3 (by omega) 0).trans b3⟩,(hk.cell lm h2 0).trans i0,(hk.cell lm h2 1).trans i1⟩
theorem zKk.below {N M bo bs:Nat} {W W':World} (h:zKk N M bo bs W) (hb:Below W.heap.size W W'):zKk N M bo bs W':=by
 have lm:M<W.heap.size:=block_lt_of_cell h.2.2.2.1
 have l3:N+1+1+1<W.heap.size:=block_lt_of_cell h.2.2.1.1
 exact h.keptO (zE.of_below (g:=W.heap.size) hb) (by omega) (by omega)
theorem zEN {tmps:Array Value} {R:Ending->World->Prop} {N M bo bs:Nat} {code place:Int} {W:World} (hF:zKk N M bo bs W)
  (hres:∀ W',W'.cell? ⟨N+1,0,none⟩=some (.slice none 0 0)->W'.cell? ⟨N+1+1,0,none⟩=some (.int .i64 code)->W'.cell? ⟨N+1+1+1,0,none⟩=some (.int .i64 place)->(results Tryz.f13 tmps).run Tryz.prog W' = .ok (.tuple #[.agg #[.slice none 0 0],.int .i64 code,.int .i64 place]) W')
  (hR:∀ W',Below N W W'->R (.returned (.tuple #[.agg #[.slice none 0 0],.int .i64 code,.int .i64 place])) W') :
  Leaves Tryz.prog Tryz.f13 tmps R [{ target:=.fn (.func 36) #[.pointer (some ⟨N+1+1,0,none⟩),.pointer (some ⟨N+1+1+1,0,none⟩)],args:=#[] }] (.panicking [{ v:=.iface 146 (.agg #[.int .i64 code,.int .i64 place]),recovered:=false }]) W:=by
 obtain ⟨⟨a1,b1⟩,⟨a2,b2⟩,⟨a3,b3⟩,_,_⟩:=hF
 have l1:N+1<W.heap.size:=block_lt_of_cell a1
 have l2:N+1+1<W.heap.size:=block_lt_of_cell a2
 have l3:N+1+1+1<W.heap.size:=block_lt_of_cell a3
 refine leaves_cons (f:=36) (args:=#[.pointer (some ⟨N+1+1,0,none⟩),.pointer (some ⟨N+1+1+1,0,none⟩)]) (by simp) (by simp [go_sem]) ?_
 refine (zGP _ _ 0 0 code place _ a2 b2 a3 b3 (by omega)).mono ?_
 rintro e u' w'' ⟨rfl,rfl,wz,hbz,rfl⟩
 have y1:=(hbz.cell (p:=⟨N+1,0,none⟩) l1).trans a1
 have y2:=(hbz.cell (p:=⟨N+1+1,0,none⟩) l2).trans a2
 have y3:=(hbz.cell (p:=⟨N+1+1+1,0,none⟩) l3).trans a3
 refine ⟨_,hres _ ?_ ?_ ?_,hR _ ?_⟩
 ·rw [World.cell?_setCell_other _ _ _ _ (fun e=>by injection e with e; omega),World.cell?_setCell_other _ _ _ _ (fun e=>by injection e with e; omega)]
  exact y1
 ·rw [World.cell?_setCell_other _ _ _ _ (fun e=>by injection e with e; omega)]
  exact World.cell?_setCell_same _ _ _ y2
 ·have y4:=(World.cell?_setCell_other wz ⟨N+1+1,0,none⟩ ⟨N+1+1+1,0,none⟩ (.int .i64 code) (fun e=>by injection e with e; omega)).trans y3
  exact World.cell?_setCell_same _ _ _ y4
 ·exact ((hbz.mono (by omega)).setCell (by simp only; omega) _).setCell (by simp only; omega) _
theorem zJk {tmps:Array Value} {R:Ending->World->Prop} {N:Nat} {v:Value} {W:World}
  (hres:(results Tryz.f13 tmps).run Tryz.prog W = .ok v W) (hR:R (.returned v) W) :
  Leaves Tryz.prog Tryz.f13 tmps R [{ target:=.fn (.func 36) #[.pointer (some ⟨N+1+1,0,none⟩),.pointer (some ⟨N+1+1+1,0,none⟩)],args:=#[] }] .returning W:=by
 refine leaves_cons (f:=36) (args:=#[.pointer (some ⟨N+1+1,0,none⟩),.pointer (some ⟨N+1+1+1,0,none⟩)]) (by simp) (by simp [go_sem]) ?_
 refine (zLa _ _ _).mono ?_
 rintro e u' w'' ⟨rfl,rfl,rfl⟩
 exact ⟨v,hres,hR⟩
def zOa (xs:List OpR) (w:World) (e:Ending) (w':World):Prop:=(∃ (x y:Option Nat) (c:Int),e = .returned (.tuple #[.agg #[.map x,.map y],.int .i64 c])/\zM xs c/\(c=0->∃ bo bs,x=some bo/\y=some bs/\Idx w' bo bs xs xs.length))/\Below w.heap.size w w'
theorem zH4 (a:Option Addr) (cap:Nat) (xs:List OpR) (s:ByteArray) (w:World) (hmx:xs.length<=1048576) (hI:∀ W,Below w.heap.size w W->Calls Tryz.prog 38 #[.agg #[.slice a xs.length cap]] W (zOa xs W)) (hsz:ZV xs) (hs:s.size<=maxLen) :
  Calls Tryz.prog 13 #[.agg #[.slice a xs.length cap],.string s] w (Zr xs s w):=by
 have hmf:∀ (fn:Fn) (first cap:Array Value) (w:World),(Instr.makeFunc fn first cap).run Tryz.prog w = .ok (.func fn first cap) w:=fun _ _ _ _=>rfl
 have HS:=zB hsz
 clear hsz
 have bel0:Below w.heap.size w ((((w.alloc (.cells #[.slice a xs.length cap] 25)).alloc (.cells #[.slice none 0 0] 28)).alloc (.cells #[.int .i64 0] 3)).alloc (.cells #[.int .i64 0] 3)):=(((zC _ _).alloc (by simp) _).alloc (by simp; omega) _).alloc (by simp; omega) _
 have HX:=hI _ bel0
 clear hI
 have HB0:=zB bel0
 clear bel0
 go_enter_defers Tryz.func13,Tryz.ntmps13
 go_wp2_with fail
 refine HX.mono ?_
 clear HX
 rintro e w1 ⟨⟨x,y,c,rfl,hc,hix⟩,hb1⟩
 have HC:=zB hc
 have HIX:=zB hix
 have z1:w.heap.size+4<=w1.heap.size:=by have:=hb1.size; simp at this; omega
 have bel1:Below w.heap.size w w1:=(zA HB0).trans (hb1.mono (by simp; omega))
 have t1:w1.cell? ⟨w.heap.size+1,0,none⟩=some (.slice none 0 0):=(hb1.cell (p:=⟨w.heap.size+1,0,none⟩) (by simp)).trans (by simp [go_sem])
 have u1:w1.frozen? ⟨w.heap.size+1,0,none⟩=false:=(hb1.frozen (p:=⟨w.heap.size+1,0,none⟩) (by simp)).trans (by simp [go_sem])
 have t2:w1.cell? ⟨w.heap.size+1+1,0,none⟩=some (.int .i64 0):=(hb1.cell (p:=⟨w.heap.size+1+1,0,none⟩) (by simp)).trans (by simp [go_sem])
 have u2:w1.frozen? ⟨w.heap.size+1+1,0,none⟩=false:=(hb1.frozen (p:=⟨w.heap.size+1+1,0,none⟩) (by simp)).trans (by simp [go_sem])
 have t3:w1.cell? ⟨w.heap.size+1+1+1,0,none⟩=some (.int .i64 0):=(hb1.cell (p:=⟨w.heap.size+1+1+1,0,none⟩) (by simp)).trans (by simp [go_sem])
 have u3:w1.frozen? ⟨w.heap.size+1+1+1,0,none⟩=false:=(hb1.frozen (p:=⟨w.heap.size+1+1+1,0,none⟩) (by simp)).trans (by simp [go_sem])
 have bel2:Below w.heap.size w (w1.alloc (.cells #[.map x,.map y] 69)):=bel1.alloc bel1.size _
 have hb2:=zC w1 (.cells #[.map x,.map y] 69)
 replace t1:=(hb2.cell (p:=⟨w.heap.size+1,0,none⟩) (by simp only; omega)).trans t1
 replace u1:=(hb2.frozen (p:=⟨w.heap.size+1,0,none⟩) (by simp only; omega)).trans u1
 replace t2:=(hb2.cell (p:=⟨w.heap.size+1+1,0,none⟩) (by simp only; omega)).trans t2
 replace u2:=(hb2.frozen (p:=⟨w.heap.size+1+1,0,none⟩) (by simp only; omega)).trans u2
 replace t3:=(hb2.cell (p:=⟨w.heap.size+1+1+1,0,none⟩) (by simp only; omega)).trans t3
 replace u3:=(hb2.frozen (p:=⟨w.heap.size+1+1+1,0,none⟩) (by simp only; omega)).trans u3
 clear hc hix hb1 HB0
 by_cases hc0:c=0
 case neg=>
  have hc0':(c != 0)=true:=by simpa using hc0
  have HN:=zB (show ¬ zM xs 0 from fun h=>hc0 (zA0 (zA HC) h))
  clear hc0
  go_wp2_with fail
  refine zJk (v:=.tuple #[.agg #[.slice none 0 0],.int .i64 1,.int .i64 0]) ?_ ?_
  ·simp [results,Tryz.results13,go_sem,t1,t2,t3]
  ·exact Zr.empty (Or.inl ⟨zA HN,rfl,rfl,rfl⟩) (((bel2.setCell (by simp only; omega) _).setCell (by simp only; omega) _).setCell (by simp only; omega) _)
 subst hc0
 obtain ⟨bo,bs,rfl,rfl,hidx⟩:=(zA HIX) rfl
 by_cases hlen:20000<s.size
 ·have hlI:(20000:Int)<(s.size:Int):=by omega
  have HN:=zB hlen
  clear HIX hidx hlen
  go_wp2_with fail
  refine zJk (v:=.tuple #[.agg #[.slice none 0 0],.int .i64 2,.int .i64 0]) ?_ ?_
  ·simp [results,Tryz.results13,go_sem,t1,t2,t3]
  ·exact Zr.empty (Or.inr ⟨zA HC,Or.inl ⟨zA HN,rfl,rfl,rfl⟩⟩) (((bel2.setCell (by simp only; omega) _).setCell (by simp only; omega) _).setCell (by simp only; omega) _)
 have h20:s.size<=20000:=by omega
 have hlI:(s.size:Int)<=20000:=by omega
 have HF:=zB (show zKk w.heap.size w1.heap.size bo bs (w1.alloc (.cells #[.map (some bo),.map (some bs)] 69)) from ⟨⟨t1,u1⟩,⟨t2,u2⟩,⟨t3,u3⟩,by simp [go_sem],by simp [go_sem]⟩)
 have HID:=zB (hidx.kept hb2)
 have HX:=zPd bo bs xs s _ (zA HID) (zA HC) (zA HS) h20
 clear HIX hidx hb2 t1 t2 t3 u1 u2 u3 hlen
 go_wp2_with fail
 refine HX.mono ?_
 clear HX
 rintro e w3 ⟨⟨g,cp,ts,rfl,⟨hg,hcp,hcpm⟩,hfil,hlex⟩,hb3⟩
 have bel3:=bel2.trans (hb3.mono bel2.size)
 replace HF:=zB ((zA HF).below hb3)
 replace HID:=zB ((zA HID).kept hb3)
 have hgw:w.heap.size<=g:=by simp at hg; omega
 have hg3:g<w3.heap.size:=(zA hfil).1
 have HT:=zB (show zCS w3 g 0 ts from (zA hfil).2.2)
 have HR:=zB (zDB (zA hlex))
 have HZ:=zB (zBX ts 0 (zA hlex))
 have hm3:ts.length+ZO ts ts.length<=1048576:=by have:=zA HR; omega
 have hms:w1.heap.size+1<=w3.heap.size:=by have:=hb3.size; simp at this; omega
 have HX:=zH3 g 0 cp ts w3 hm3 hcp hcpm (zA HT) hg3 (fun i hi=>by have:=((zA HZ) i hi).1; omega)
 clear hb3 hfil HR hg bel2
 go_wp2_with fail
 refine HX.mono ?_
 clear HX
 rintro e w4 ⟨⟨i,hi,h6,hno,rfl⟩ | ⟨hno,rfl⟩,hb4⟩
 ·refine zEN (zA (zB ((zA HF).below hb4))) (fun W' a b c=>by simp [results,Tryz.results13,go_sem,a,b,c]) (fun W' hb=>Zr.empty (Or.inr ⟨zA HC,Or.inr ⟨h20,ts,zA hlex,Or.inl ⟨i,hi,h6,hno,rfl,rfl,rfl⟩⟩⟩) ((bel3.trans (hb4.mono bel3.size)).trans hb))
 replace HF:=zB ((zA HF).below hb4)
 replace HID:=zB ((zA HID).kept hb4)
 have bel4:=bel3.trans (hb4.mono bel3.size)
 replace HT:=zB ((zA HT).below hb4 hg3)
 have hg4:g<w4.heap.size:=Nat.lt_of_lt_of_le hg3 hb4.size
 have hms4:=Nat.le_trans hms hb4.size
 have HNO:=zB hno
 have HX:=zFx bo bs g 0 cp xs ts w4 hm3 hcp hcpm (zA HID) (zA HC) (zA HT) (fun i hi=>by have:=(zA HZ) i hi; unfold maxLen; omega) hg4 (fun i hi=>by have:=((zA HZ) i hi).1; omega) (zA3 ts 0 (zA hlex))
 obtain ⟨⟨t1,u1⟩,⟨t2,u2⟩,⟨t3,u3⟩,i0,i1⟩:=zA HF
 clear hb4 bel3 hno hg3 hms
 go_wp2_with fail
 refine HX.mono ?_
 clear HX t1 t2 t3 u1 u2 u3 i0 i1
 rintro e w5 ⟨⟨i,hi,hfi,hro,rfl⟩ | ⟨hfit,rfl⟩,hb5⟩
 ·refine zEN (zA (zB ((zA HF).below hb5))) (fun W' a b c=>by simp [results,Tryz.results13,go_sem,a,b,c]) (fun W' hb=>Zr.empty (Or.inr ⟨zA HC,Or.inr ⟨h20,ts,zA hlex,Or.inr ⟨zA HNO,Or.inl ⟨i,hi,hfi,hro,rfl,rfl,rfl⟩⟩⟩⟩) ((bel4.trans (hb5.mono bel4.size)).trans hb))
 replace HF:=zB ((zA HF).below hb5)
 replace HID:=zB ((zA HID).kept hb5)
 have bel5:=bel4.trans (hb5.mono bel4.size)
 replace HT:=zB ((zA HT).below hb5 hg4)
 have hg5:g<w5.heap.size:=Nat.lt_of_lt_of_le hg4 hb5.size
 have hms5:=Nat.le_trans hms4 hb5.size
 have HFIT:=zB hfit
 have HX:=zH2 bo bs g 0 cp xs ts w5 (zA HID) (zA HC) (zA HS) hmx (zA HT) hg5
 obtain ⟨⟨t1,u1⟩,⟨t2,u2⟩,⟨t3,u3⟩,i0,i1⟩:=zA HF
 clear hb5 bel4 hfit hg4 hms4
 go_wp2_with fail
 refine HX.mono ?_
 clear HX t1 t2 t3 u1 u2 u3 i0 i1
 rintro e w6 ⟨⟨p,bf,bb,rfl,hp,hpc,hpr⟩,hb6⟩
 replace HF:=zB ((zA HF).below hb6)
 have bel6:=bel5.trans (hb6.mono bel5.size)
 have HFS:=zB (zPA (zA HC) (zBd (zA HC)) h20 (zA hlex) (zA HFIT))
 have HSG:=zB (show Zt xs (false,0) (sgs xs ts 0 ts.length) by have:=(zA HFS).all 0 (zA3 ts 0 (zA hlex)).1; rw [Nat.sub_zero] at this; exact this)
 obtain ⟨res,hres⟩:∃ res,res=RD xs 0 none (sgs xs ts 0 ts.length):=⟨_,rfl⟩
 have HX:=zLZ (zA HFS) w6 (zA HSG) (zA hpc) (zA hpr) res hres
 have HRES:=zB hres
 have hz6:=hb6.size
 have hl5:w.heap.size+4<=w5.heap.size:=by omega
 clear hb6 hres HSG HFS hpc hpr
 go_wp2_with fail
 refine HX.mono ?_
 clear HX
 rintro e w7 ⟨hk7,⟨hn,rfl⟩ | ⟨T,r,hsome,hgd,⟨hhi,rfl⟩ | ⟨hlo,g',c',rfl,hg',hfil⟩⟩⟩
 ·have HF7:=zB ((zA HF).keptO (zA hk7) (by omega) (by omega))
  have bel7:=bel6.trans ((zA hk7).below bel6.size (by omega))
  refine zEN (zA HF7) (fun W' a b c=>by simp [results,Tryz.results13,go_sem,a,b,c]) (fun W' hb=>Zr.empty (Or.inr ⟨zA HC,Or.inr ⟨h20,ts,zA hlex,Or.inr ⟨zA HNO,Or.inr ⟨zA HFIT,Or.inl ⟨(zA HRES).symm.trans hn,rfl,rfl,rfl⟩⟩⟩⟩⟩) (bel7.trans hb))
 ·have HF7:=zB ((zA HF).keptO (zA hk7) (by omega) (by omega))
  have bel7:=bel6.trans ((zA hk7).below bel6.size (by omega))
  refine zEN (zA HF7) (fun W' a b c=>by simp [results,Tryz.results13,go_sem,a,b,c]) (fun W' hb=>Zr.empty (Or.inr ⟨zA HC,Or.inr ⟨h20,ts,zA hlex,Or.inr ⟨zA HNO,Or.inr ⟨zA HFIT,Or.inr ⟨T,r,(zA HRES).symm.trans hsome,Or.inl ⟨hhi,rfl,rfl,rfl⟩⟩⟩⟩⟩⟩) (bel7.trans hb))
 have HF7:=zB ((zA HF).keptO (zA hk7) (by omega) (by omega))
 have bel7:=bel6.trans ((zA hk7).below bel6.size (by omega))
 obtain ⟨us,hus⟩:∃ us,us=nd T 0:=⟨_,rfl⟩
 rw [<- hus] at hfil
 rw [<- hus]
 have HOUT:=zB (show zAQ xs s us 0 0 from Or.inr ⟨zA HC,Or.inr ⟨h20,ts,zA hlex,Or.inr ⟨zA HNO,Or.inr ⟨zA HFIT,Or.inr ⟨T,r,(zA HRES).symm.trans hsome,Or.inr ⟨hlo,hus,rfl,rfl⟩⟩⟩⟩⟩⟩)
 obtain ⟨⟨t1,u1⟩,⟨t2,u2⟩,⟨t3,u3⟩,i0,i1⟩:=zA HF7
 clear hus hsome hlo HRES HF hk7 bel6 HNO HFIT HT HID i0 i1 hgd
 go_wp2_with fail
 refine zJk (v:=.tuple #[.agg #[.slice (some ⟨g',0,none⟩) us.length c'],.int .i64 0,.int .i64 0]) ?_ ?_
 ·simp [results,Tryz.results13,go_sem,t1,t2,t3]
 ·refine ⟨⟨some ⟨g',0,none⟩,c',us,0,0,rfl,zB (Or.inr ⟨g',rfl,by omega,?_⟩),HOUT⟩,((bel7.setCell (by simp only; omega) _).setCell (by simp only; omega) _).setCell (by simp only; omega) _⟩
  exact (((zA hfil).setCell _ _ _ (by omega)).setCell _ _ _ (by omega)).setCell _ _ _ (by omega)
theorem zJl (a:Option Addr) (cap:Nat) (xs:List OpR) (s:ByteArray) (w:World) (hmx:xs.length<=1048576) (hI:∀ W,Below w.heap.size w W->Calls Tryz.prog 38 #[.agg #[.slice a xs.length cap]] W (zOa xs W)) (hsz:ZV xs) (hs:s.size<=1048576) :
  Calls Tryz.prog 13 #[.agg #[.slice a xs.length cap],.string s] w (Zr xs s w):=
 zH4 a cap xs s w hmx hI hsz (by unfold maxLen; omega)
theorem zEV (b off cap:Nat) (xs:List OpR) (s:ByteArray) (w:World) (hmx:xs.length<=1048576) (hw:Ops w b off xs) (hsz:ZV xs) (hB:b<w.heap.size) (hs:s.size<=1048576) :
  Calls Tryz.prog 13 #[.agg #[.slice (some ⟨b,off,none⟩) xs.length cap],.string s] w (Zr xs s w):=
 zJl _ cap xs s w hmx (fun W hb=>zD3 b off cap xs W hmx (hw.below hb hB) hsz (Nat.lt_of_lt_of_le hB hb.size)) hsz hs
end Go.Proofs.YtfboipappaonhaaGreat
namespace Go.Proofs.YtfboipappaonhaaGreat
set_option linter.unusedSimpArgs false
set_option linter.unusedVariables false
set_option maxHeartbeats 16000000
set_option maxRecDepth 100000
open Go.RowKit
def SpF (N b off n cap:Nat) (W:World):Prop:=
 W.cell? ⟨N,0,none⟩=some (.slice (some ⟨b,off,none⟩) n cap)/\W.cell? ⟨N+1,0,none⟩=some (.slice none 0 0)/\W.frozen? ⟨N+1,0,none⟩=false
theorem SpF.grown {N b off n cap:Nat} {W W':World} {row:Option Nat} (h:SpF N b off n cap W) (hg:W.grownBy W' row) (hr:∀ k,row=some k->N+2<=k):SpF N b off n cap W':=by
 obtain ⟨h0,h1,h2⟩:=h
 have l0:N<W.heap.size:=block_lt_of_cell h0
 have l1:N+1<W.heap.size:=block_lt_of_cell h1
 exact ⟨(zH hg l0 (fun e=>by have:=hr _ e; omega) 0).trans h0,(zH hg l1 (fun e=>by have:=hr _ e; omega) 0).trans h1,(World.frozen?_of_block (w:=W) (hg.block (N+1) l1 (fun e=>by have:=hr _ e.symm; omega))).trans h2⟩
theorem SpF.below {N b off n cap:Nat} {W W':World} (h:SpF N b off n cap W) (hb:Below W.heap.size W W'):SpF N b off n cap W':=h.grown (zZ hb none) (fun k hk=>by cases hk)
theorem zOb {ns:List OpR} {ts:List zK} (hv:zM ns 0) (hf:zBB ns ts ts.length) (hl:0<ts.length/\(atT ts (ts.length-1)).k=7) {n:Nat} (hn:ts.length<=n) :
  (∀ T,bld ns n (sgs ns ts 0 (ts.length-1))=some T->RD ns 0 none (sgs ns ts 0 ts.length)=some (T,[eoS]))/\(bld ns n (sgs ns ts 0 (ts.length-1))=none->RD ns 0 none (sgs ns ts 0 ts.length)=none):=by
 obtain ⟨hseg,hend⟩:=zI9 hf hl.1 hl.2
 have hb:=fun T=>zP8 hv hseg (n:=n) (by rw [zAD]; omega) T
 rw [hend]
 refine ⟨fun T h=>(hb T).1 h,fun h=>?_⟩
 cases hr:RD ns 0 none (sgs ns ts 0 (ts.length-1)++[eoS]) with
 | none=>rfl
 | some y=>
  obtain ⟨T,r⟩:=y
  have hre:=zNf hv hseg hr
  simp only at hre
  rw [hre] at hr
  have:=(hb T).2 hr
  rw [h] at this
  cases this
theorem TF.of {ns:List OpR} {ts:List zK} {s:ByteArray} (hv:zM ns 0) (hs:s.size<=20000) (hx:ZR ns s 0 ts) (hf:zBB ns ts ts.length) (hno:∀ j,j<ts.length->(atT ts j).k≠6):TF ns ts (Za ns ts ts.length) where
 len:=by have:=(zDB hx).2.1; omega
 us:=rfl
 all:=fun i hi=>by
  refine ⟨zQQ (hf i hi),?_⟩
  rcases zI7 (zAL (zBd hv)) ts 0 hx i hi with h | h | h | h | h | h
  ·have:=h.1; exact ⟨by omega,by omega,hno i hi⟩
  ·have:=h.1; exact ⟨by omega,by omega,hno i hi⟩
  ·have:=h.1; exact ⟨by omega,by omega,hno i hi⟩
  ·have:=h.1; exact ⟨by omega,by omega,hno i hi⟩
  ·exact absurd h (hno i hi)
  ·have:=h.1; exact ⟨by omega,by omega,hno i hi⟩
theorem zEW (b off cap:Nat) (xs:List OpR) (s:ByteArray) (w:World) (hmx:xs.length<=1048576) (hw:Ops w b off xs) (hsz:ZV xs) (hB:b<w.heap.size) (hs:s.size<=1048576) :
  Calls Tryz.prog 27 #[.agg #[.slice (some ⟨b,off,none⟩) xs.length cap],.string s] w (Zr xs s w):=by
 have HW:=zB hw
 have HS:=zB hsz
 clear hw hsz
 have bel0:Below w.heap.size w ((w.alloc (.cells #[.slice (some ⟨b,off,none⟩) xs.length cap] 25)).alloc (.cells #[.slice none 0 0] 28)):=(zC _ _).alloc (by simp) _
 have HX:=Zy b off cap xs _ hmx ((zA HW).below bel0 hB) (zA HS) (by have:=bel0.size; omega)
 go_enter Tryz.func27,Tryz.ntmps27
 go_wp2_with fail
 refine HX.mono ?_
 clear HX
 rintro e w1 ⟨⟨c,rfl,hc⟩,hb1⟩
 have HC:=zB hc
 have z1:w.heap.size+2<=w1.heap.size:=by have:=hb1.size; simp at this; omega
 have bel1:Below w.heap.size w w1:=bel0.trans (hb1.mono bel0.size)
 have HF:=zB (show SpF w.heap.size b off xs.length cap w1 from SpF.below ⟨by simp [go_sem],by simp [go_sem],by simp [go_sem]⟩ hb1)
 obtain ⟨t0,t1,u1⟩:=zA HF
 clear hc hb1 bel0
 by_cases hc0:c=0
 case neg=>
  have hc0':(c != 0)=true:=by simpa using hc0
  have HN:=zB (show ¬ zM xs 0 from fun h=>hc0 (zA0 (zA HC) h))
  clear hc0
  go_wp2_with fail
  refine bodyPost_ret (v:=.tuple #[.agg #[.slice none 0 0],.int .i64 1,.int .i64 0]) ?_ rfl (Zr.empty (Or.inl ⟨zA HN,rfl,rfl,rfl⟩) (bel1.setCell (by simp only; omega) _))
  simp [results,Tryz.results27,go_sem,t1]
 subst hc0
 have HX:=zJa b off cap xs s w1 hmx ((zA HW).below bel1 hB) (zA HS) (Nat.lt_of_lt_of_le hB bel1.size) (by unfold maxLen; omega)
 go_wp2_with fail
 refine HX.mono ?_
 clear HX t0 t1 u1
 rintro e w2 ⟨⟨g,ct,ts,v,rfl,⟨hg,hct,hcm⟩,hfil,hlex⟩,hb2⟩
 have bel2:=bel1.trans (hb2.mono bel1.size)
 replace HF:=zB ((zA HF).below hb2)
 have hgw:w.heap.size<=g:=by omega
 obtain ⟨t0,t1,u1⟩:=zA HF
 rcases hlex with ⟨⟨_,h20⟩,rfl,hlex⟩ | ⟨hno,rfl,_⟩
 case inr=>
  have HN:=zB (show 20000<s.size by
   rcases Nat.lt_or_ge 20000 s.size with h | h
   ·exact h
   ·exact absurd ⟨zA HC,h⟩ hno)
  clear hno hfil
  go_wp2_with fail
  refine bodyPost_ret (v:=.tuple #[.agg #[.slice none 0 0],.int .i64 2,.int .i64 0]) ?_ rfl (Zr.empty (Or.inr ⟨zA HC,Or.inl ⟨zA HN,rfl,rfl,rfl⟩⟩) (bel2.setCell (by simp only; omega) _))
  simp [results,Tryz.results27,go_sem,t1]
 have HLX:=zB hlex
 have hg2:g<w2.heap.size:=hfil.1
 have HT:=zB (show zCS w2 g 0 ts from hfil.2.2)
 have HR:=zB (zDB hlex)
 have HZ:=zB (zBX ts 0 hlex)
 have hm3:ts.length+ZO ts ts.length<=1048576:=by have:=zA HR; omega
 have hln:ts.length<=20001:=by have:=zA HR; omega
 have hla:=zA3 ts 0 hlex
 have h1l:=hla.1
 have HLA:=zB hla
 clear hfil hlex hb2 hla
 go_wp2_with fail
 go_loop [9] (fun iv=>∃ k:Nat,k<=ts.length/\iv = .int .i64 (k:Int)/\Hid (∀ j,j<k->(atT ts j).k≠6)) (fun iv=>ts.length-(intOf iv).toNat)
 case atStart=>exact ⟨0,Nat.zero_le _,rfl,zB (fun j hj=>absurd hj (Nat.not_lt_zero j))⟩
 case round=>
  obtain ⟨k,hk,rfl,hno⟩:=hrel
  by_cases hlt:k<ts.length
  ·have hltI:(k:Int)<(ts.length:Int):=by omega
   obtain ⟨k0,k1,k2⟩:=(zA HT) k hlt
   rw [Nat.zero_add] at k0 k1 k2
   by_cases h6:(atT ts k).k=6
   ·have e6:((atT ts k).k==6)=true:=by rw [h6]; rfl
    have H6:=zB h6
    have HX:=zFR g 0 ct k ts w2 hm3 hlt hct hcm (zA HT) hg2 (by have:=((zA HZ) k hlt).1; omega)
    clear h6
    go_wp2_with fail
    refine HX.mono ?_
    clear HX
    rintro e w3 ⟨rfl,hb3⟩
    have bel3:=bel2.trans (hb3.mono bel2.size)
    obtain ⟨s0,s1,s2⟩:=(zA HF).below hb3
    go_wp2_with fail
    refine bodyPost_ret (v:=.tuple #[.agg #[.slice none 0 0],.int .i64 3,.int .i64 (zGJ ts k:Int)]) ?_ rfl (Zr.empty (Or.inr ⟨zA HC,Or.inr ⟨h20,ts,zA HLX,Or.inl ⟨k,hlt,zA H6,zA hno,rfl,rfl,rfl⟩⟩⟩) (bel3.setCell (by simp only; omega) _))
    simp [results,Tryz.results27,go_sem,s1]
   ·have e6:((atT ts k).k==6)=false:=by simpa using h6
    have HNX:=zB (show ∀ j,j<k+1->(atT ts j).k≠6 from fun j hj=>by
     by_cases e:j=k
     ·subst e; exact h6
     ·exact (zA hno) j (by omega))
    clear h6
    go_wp2_with fail
    exact ⟨⟨k+1,by omega,by go_num,HNX⟩,by simp [intOf]; omega⟩
  ·have hltI:¬ (k:Int)<(ts.length:Int):=by omega
   have e:k=ts.length:=by omega
   subst e
   have HX:=zH0 b off cap g 0 ct xs ts w2 hmx (by omega) ((zA HW).below bel2 hB) (zA HS) (Nat.lt_of_lt_of_le hB bel2.size) (zA HT) hg2
   go_wp2_with fail
   refine HX.mono ?_
   clear HX t0 t1 u1
   rintro e w3 ⟨⟨gr,cr,us,at_,rfl,hgr,hfr,hroles⟩,hb3⟩
   have bel3:=bel2.trans (hb3.mono bel2.size)
   replace HF:=zB ((zA HF).below hb3)
   replace HT:=zB ((zA HT).below hb3 hg2)
   have hg3:g<w3.heap.size:=Nat.lt_of_lt_of_le hg2 hb3.size
   obtain ⟨t0,t1,u1⟩:=zA HF
   rcases hroles with ⟨hnc,_⟩ | ⟨_,⟨i,hi,hfi,hro,_,rfl⟩ | ⟨hfit,⟨_,hus,rfl⟩ | ⟨hnl,_⟩⟩⟩
   ·exact absurd (zA HC) hnc
   ·have eA:decide ((i:Int) ≥ 0)=true:=by simp
    have HFI:=zB hfi
    have HRO:=zB hro
    have HX:=zFR g 0 ct i ts w3 hm3 hi hct hcm (zA HT) hg3 (by have:=((zA HZ) i hi).1; omega)
    clear hfi hro hfr
    go_wp2_with fail
    refine HX.mono ?_
    clear HX
    rintro e w4 ⟨rfl,hb4⟩
    have bel4:=bel3.trans (hb4.mono bel3.size)
    obtain ⟨s0,s1,s2⟩:=(zA HF).below hb4
    go_wp2_with fail
    refine bodyPost_ret (v:=.tuple #[.agg #[.slice none 0 0],.int .i64 4,.int .i64 (zGJ ts i:Int)]) ?_ rfl (Zr.empty (Or.inr ⟨zA HC,Or.inr ⟨h20,ts,zA HLX,Or.inr ⟨zA hno,Or.inl ⟨i,hi,zA HFI,zA HRO,rfl,rfl,rfl⟩⟩⟩⟩) (bel4.setCell (by simp only; omega) _))
    simp [results,Tryz.results27,go_sem,s1]
   case inr.inr.inr=>exact absurd (zA HLA) hnl
   have HFT:=zB hfit
   have HTF:=zB (show TF xs ts us by rw [hus]; exact TF.of (zA HC) h20 (zA HLX) hfit (zA hno))
   have hgr3:gr<w3.heap.size:=hfr.1
   have hBE:BE w3 w3.heap.size b off g 0 gr xs ts us:=⟨(zA HW).below bel3 hB,Nat.lt_of_lt_of_le hB bel3.size,zA HT,hg3,⟨hfr.1,hfr.2.2⟩,hgr3,Nat.le_refl _⟩
   have HBE:=zB (hBE.below (zC w3 (.cells #[] 81)))
   have HROW:=zB (show zx (w3.alloc (.cells #[] 81)) w3.heap.size (.slice (some ⟨w3.heap.size,0,none⟩) 0 0) [] by
    have h0:=World.ownsRow_lit (base:=w3.heap.size) (e:=81) (size:=4) w3 #[] 0 (Nat.le_refl _) (Nat.zero_le _) rfl
    simpa [zx,zJ] using h0)
   have HSG:=zB (zI9 hfit h1l (zA HLA).2).1
   have HX:=zBD (cap:=cap) (ct:=ct) (cr:=cr) (zA HC) hmx (zA HS) (zA HTF) ts.length 0 (ts.length-1) (.slice (some ⟨w3.heap.size,0,none⟩) 0 0) [] _ (Nat.zero_le _) (by omega) (by omega) (by rw [Nat.sub_zero]; exact zA HSG) (zA HBE) (zA HROW) (by simp; omega)
   rw [Nat.sub_zero,show ((0:Nat):Int)=0 from rfl,show ((ts.length-1:Nat):Int)=(ts.length:Int)-1 by omega] at HX
   have HRB:=zB (zOb (zA HC) hfit (zA HLA) (n:=ts.length) (Nat.le_refl _))
   have HGD:=zB (show ∀ T,bld xs ts.length (sgs xs ts 0 (ts.length-1))=some T->zf xs T from fun T h=>(zAG (zA HC) _ _ _ (zA HSG) h).1)
   obtain ⟨bl,hbl⟩:∃ bl,bl=bld xs ts.length (sgs xs ts 0 (ts.length-1)):=⟨_,rfl⟩
   rw [<- hbl] at HX HRB HGD
   have z3:w.heap.size+2<=w3.heap.size:=by have:=hb3.size; omega
   clear hfit hus hfr hBE HROW HSG HTF hbl hb3
   go_wp2_with fail
   refine HX.mono ?_
   clear HX t0 t1 u1
   rintro e w4 ⟨u4,vs,ok,rfl,HR4,HG4,HA4,hl4,HO4⟩
   have HG:=zB (zN (zC w3 (.cells #[] 81)) (zA HG4))
   have HB4:=zB (show Below w.heap.size w w4 from bel3.grown (zA HG) bel3.size (fun q hq=>by simp [Value.ownBlock] at hq; omega))
   replace HF:=zB ((zA HF).grown (zA HG) (fun q hq=>by simp [Value.ownBlock] at hq; omega))
   have z4:=(zA HG).size
   obtain ⟨t0,t1,u1⟩:=zA HF
   rcases zA HO4 with ⟨T,hbT,rfl,hvs⟩ | ⟨hbN,rfl⟩
   case inr=>
    have HRN:=zB ((zA HRB).2 hbN)
    clear hbN HO4 HRB HGD
    go_wp2_with fail
    refine bodyPost_ret (v:=.tuple #[.agg #[.slice none 0 0],.int .i64 5,.int .i64 0]) ?_ rfl (Zr.empty (Or.inr ⟨zA HC,Or.inr ⟨h20,ts,zA HLX,Or.inr ⟨zA hno,Or.inr ⟨zA HFT,Or.inl ⟨zA HRN,rfl,rfl,rfl⟩⟩⟩⟩⟩) ((zA HB4).setCell (by simp only; omega) _))
    simp [results,Tryz.results27,go_sem,t1]
   rw [List.nil_append,List.length_nil] at hvs
   have HGT:=zB ((zA HGD) T hbT)
   have HRS:=zB ((zA HRB).1 T hbT)
   have hv1:1<=vs.length:=by rw [hvs,zi]; exact Sh.pos (zA HGT).sh
   obtain ⟨g4,c4,rfl,hg4,hfl⟩:=zCP (zA HR4) hv1
   rw [List.length_nil,Nat.zero_add] at hl4
   have htz:tsz T=vs.length:=by rw [hvs,zi]
   have hb5:=zC w4 (.cells #[.slice (some ⟨g4,0,none⟩) vs.length c4] 28)
   have HFL:=zB hfl
   have HX:=zJh g4 c4 vs (hL T) _ (hfl.below hb5 hfl.1).2.2 (by have:=hb5.size; have:=hfl.1; omega) (by omega) hv1 (by rw [zEn,htz]) (fun i hi=>by rw [hvs]; exact zOP T (zA HGT).sh 0 i (by omega)) (fun i hi=>by have:=zPN T (i:=i) (by omega); omega)
   have hlast:atI (hL T) (vs.length-1)=(hT T:Int):=by rw [<- htz]; exact zGk (zA HGT).sh
   rw [hlast] at HX
   have HVS:=zB hvs
   obtain ⟨hh,hhe⟩:∃ hh,hh=hT T:=⟨_,rfl⟩
   rw [<- hhe] at HX
   have HHE:=zB hhe
   clear hvs hbT HO4 HRB HGD htz hfl hlast hhe HR4 HG4 HA4 HG
   go_wp2_with fail
   refine HX.mono ?_
   clear HX
   rintro e w5 ⟨rfl,hb6⟩
   have HB5:=zB (((zA HB4).trans (hb5.mono (zA HB4).size)).trans (hb6.mono (by have:=(zA HB4).size; simp; omega)))
   have HF5:=zB (((zA HF).below hb5).below hb6)
   have HFL5:=zB (((zA HFL).below hb5 (zA HFL).1).below hb6 (by have:=hb5.size; have:=(zA HFL).1; omega))
   have tr5:w5.cell? ⟨w4.heap.size,0,none⟩=some (.slice (some ⟨g4,0,none⟩) vs.length c4):=(hb6.cell (p:=⟨w4.heap.size,0,none⟩) (by simp)).trans (by simp [go_sem])
   obtain ⟨s0,s1,s2⟩:=zA HF5
   clear t0 t1 u1 hb5 hb6 HF HFL
   by_cases hgt:1000<hh
   ·have hgI:(1000:Int)<(hh:Int):=by omega
    have HHT:=zB (show 1000<hT T by rw [<- zA HHE]; exact hgt)
    clear hgt
    go_wp2_with fail
    refine bodyPost_ret (v:=.tuple #[.agg #[.slice none 0 0],.int .i64 6,.int .i64 0]) ?_ rfl (Zr.empty (Or.inr ⟨zA HC,Or.inr ⟨h20,ts,zA HLX,Or.inr ⟨zA hno,Or.inr ⟨zA HFT,Or.inr ⟨T,_,zA HRS,Or.inl ⟨zA HHT,rfl,rfl,rfl⟩⟩⟩⟩⟩⟩) ((zA HB5).setCell (by simp only; omega) _))
    simp [results,Tryz.results27,go_sem,s1]
   ·have hgI:¬ (1000:Int)<(hh:Int):=by omega
    have HHT:=zB (show hT T<=1000 by rw [<- zA HHE]; omega)
    clear hgt
    go_wp2_with fail
    refine bodyPost_ret (v:=.tuple #[.agg #[.slice (some ⟨g4,0,none⟩) vs.length c4],.int .i64 0,.int .i64 0]) ?_ rfl ⟨⟨some ⟨g4,0,none⟩,c4,vs,0,0,rfl,zB (Or.inr ⟨g4,rfl,by omega,?_⟩),zB (Or.inr ⟨zA HC,Or.inr ⟨h20,ts,zA HLX,Or.inr ⟨zA hno,Or.inr ⟨zA HFT,Or.inr ⟨T,_,zA HRS,Or.inr ⟨zA HHT,zA HVS,rfl,rfl⟩⟩⟩⟩⟩⟩)⟩,(zA HB5).setCell (by simp only; omega) _⟩
    ·simp [results,Tryz.results27,go_sem,s1]
    ·exact (zA HFL5).setCell _ _ _ (by omega)
end Go.Proofs.YtfboipappaonhaaGreat
namespace Go.Proofs.YtfboipappaonhaaGreat
set_option linter.unusedSimpArgs false
set_option linter.unusedVariables false
set_option maxHeartbeats 16000000
set_option maxRecDepth 100000
open Go.RowKit
open Go.Deep (BT)
theorem zHl (T:ET):(yT T).length=(ySy T).length:=by simp [yT]
theorem zKl (bz offz cz:Nat) (ns:List OpR) (zs:List zD) (B:Nat) (hbz:bz<B) (hzl:zs.length<=20000):∀ (T:ET),zA9 ns T->∀ (s:Nat) (us vs:List zu),zBr zs T s->s+tsz T<=zs.length->us.length+(ySy T).length<=90000->vs=us++yT T->zMa bz offz cz zs B (s+tsz T-1) us vs:=by
 intro T
 induction T with
 | nil=>intro h; exact h.elim
 | node b o t l r ihl ihr=>
  rintro ⟨rfl,h⟩ s us vs ⟨h1,h2,h3⟩ hz hlen hvs
  simp only [tsz] at hz
  have e:s+tsz (.node b 0 t l r)-1=s+tsz l+tsz r:=by simp only [tsz]; omega
  rw [e]
  intro u W hW hB hrow
  have hcell:∀ ja jb:Nat,(if zU (b:Int)=0 then (0:Int) else ((s+tsz l:Nat):Int)-1)=(ja:Int)->(if zU (b:Int)=2 then ((s+tsz l+tsz r:Nat):Int)-1 else 0)=(jb:Int)->atN zs (s+tsz l+tsz r)=⟨(b:Int),t,(ja:Int),(jb:Int)⟩:=fun ja jb ha hb=>by
   rw [h3,tN,ha,hb]
  rcases h with ⟨h12,rfl,rfl⟩ | ⟨rfl,rfl,hl,rfl⟩ | ⟨h35,hk,hl,rfl⟩ | ⟨rfl,hk,hl,hr⟩
  ·have hk0:zU (b:Int)=0:=by rcases h12 with h | h <;> subst h <;> decide
   refine zHL bz offz cz _ zs (b:Int) t 0 0 B u us vs W hW hbz hB hrow (by simp only [tsz] at hz ⊢; omega) hzl (hcell 0 0 (by rw [if_pos hk0]; rfl) (by rw [if_neg (by omega)]; rfl)) (by omega) (Or.inl ⟨hk0,?_⟩)
   rw [hvs]
   have:yT (.node b 0 t .nil .nil)=[⟨t,false,false⟩]:=by
    simp only [yT,ySy]
    rw [if_neg (by omega),if_neg (by omega),if_neg (by omega),if_neg (by omega)]
    simp [wS]
    omega
   rw [this]
  ·have hp:=hl.sh.pos
   have hy:yT (.node 6 0 ByteArray.empty l .nil)=⟨opn,false,false⟩::(yT l++[⟨zA1,false,false⟩]):=by simp [yT,ySy,wS]
   have hy2:(ySy (.node 6 0 ByteArray.empty l .nil)).length=(ySy l).length+2:=by simp [ySy]
   rw [hy2] at hlen
   refine zHL bz offz cz _ zs 6 ByteArray.empty (s+tsz l-1) 0 B u us vs W hW hbz hB hrow (by simp only [tsz] at hz ⊢; omega) hzl (hcell _ 0 (by rw [if_neg (by decide)]; omega) (by rw [if_neg (by decide)]; rfl)) (by omega) (Or.inr (Or.inr (Or.inl ⟨rfl,us++[⟨opn,false,false⟩],us++[⟨opn,false,false⟩]++yT l,rfl,ihl hl s _ _ h1 (by omega) (by simp; omega) rfl,?_,?_⟩)))
   ·rw [hvs,hy]; simp
   ·simp [zHl]; omega
  ·have hp:=hl.sh.pos
   rcases h35 with rfl | rfl
   ·have hy:yT (.node 3 0 t l .nil)=⟨t,true,false⟩::yT l:=by simp [yT,ySy,wS]
    have hy2:(ySy (.node 3 0 t l .nil)).length=(ySy l).length+1:=by simp [ySy]
    rw [hy2] at hlen
    refine zHL bz offz cz _ zs 3 t (s+tsz l-1) 0 B u us vs W hW hbz hB hrow (by simp only [tsz] at hz ⊢; omega) hzl (hcell _ 0 (by rw [if_neg (by decide)]; omega) (by rw [if_neg (by decide)]; rfl)) (by omega) (Or.inr (Or.inl ⟨rfl,us++[⟨t,true,false⟩],rfl,ihl hl s _ _ h1 (by omega) (by simp; omega) ?_⟩))
    rw [hvs,hy]; simp
   ·have hy:yT (.node 5 0 t l .nil)=yT l++[⟨t,true,false⟩]:=by simp [yT,ySy,wS]
    have hy2:(ySy (.node 5 0 t l .nil)).length=(ySy l).length+1:=by simp [ySy]
    rw [hy2] at hlen
    refine zHL bz offz cz _ zs 5 t (s+tsz l-1) 0 B u us vs W hW hbz hB hrow (by simp only [tsz] at hz ⊢; omega) hzl (hcell _ 0 (by rw [if_neg (by decide)]; omega) (by rw [if_neg (by decide)]; rfl)) (by omega) (Or.inr (Or.inr (Or.inr (Or.inl ⟨rfl,us++yT l,ihl hl s _ _ h1 (by omega) (by omega) rfl,?_,?_⟩))))
    ·rw [hvs,hy]; simp
    ·simp [zHl]; omega
  ·have hp:=hl.sh.pos
   have hq:=hr.sh.pos
   have hy:yT (.node 4 0 t l r)=yT l++(⟨t,true,true⟩::yT r):=by simp [yT,ySy,wS]
   have hy2:(ySy (.node 4 0 t l r)).length=(ySy l).length+(ySy r).length+1:=by simp [ySy]; omega
   rw [hy2] at hlen
   refine zHL bz offz cz _ zs 4 t (s+tsz l-1) (s+tsz l+tsz r-1) B u us vs W hW hbz hB hrow (by omega) hzl (hcell _ _ (by rw [if_neg (by decide)]; omega) (by rw [if_pos (by decide)]; omega)) (by omega) (Or.inr (Or.inr (Or.inr (Or.inr ⟨rfl,us++yT l,us++yT l++[⟨t,true,true⟩],ihl hl s _ _ h1 (by omega) (by omega) rfl,rfl,ihr hr (s+tsz l) _ _ h2 (by omega) (by simp [zHl]; omega) ?_,?_⟩))))
   ·rw [hvs,hy]; simp
   ·simp [zHl]; omega
end Go.Proofs.YtfboipappaonhaaGreat
