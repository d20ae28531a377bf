import Derived.Test.YtfboipappaonhaaGreatP18
import Derived.Test.YtfboipappaonhaaGreatP31
import Derived.Test.YtfboipappaonhaaGreatP36
import Derived.Test.YtfboipappaonhaaGreatP37
import Derived.Test.YtfboipappaonhaaGreatP38
import Derived.Test.YtfboipappaonhaaGreatP44
import Derived.Test.YtfboipappaonhaaGreatP48
import Derived.Test.YtfboipappaonhaaGreatP49
namespace Go.Proofs.YtfboipappaonhaaGreat
set_option linter.unusedSimpArgs false
set_option linter.unusedVariables false
set_option maxHeartbeats 16000000
set_option maxRecDepth 100000
open Go.RowKit Go.Maps
def zN6 (ns:List OpR) (ts:List zI) (x:Ending):Prop:=
 (∃ i,i < ts.length /\ zAu ns ts i /\ zP ns ts i < 0 /\ x = zOH 4 (zFJ ts i:Int)) \/ (zAu ns ts ts.length /\ x = .returned (.tuple #[]))
theorem zE2 (bo bs g o c:Nat) (ns:List OpR) (ts:List zI) (w:World) (hm:ts.length + ZF ts ts.length <= 1048576) (hc:ts.length <= c) (hc2:c <= maxLen) (hidx:Idx w bo bs ns ns.length) (hcd:zM ns 0) (hw:zCE w g o ts) (hst:zLh ts) (hB:g < w.heap.size) (hz:∀ i,i < ts.length -> (atT ts i).g.size <= 1048576)
  (hla:0 < ts.length /\ (atT ts (ts.length - 1)).k = 7) :
  Calls Tryz.prog 41 #[.agg #[.map (some bo),.map (some bs)],.slice (some ⟨g,o,none⟩) ts.length c] w fun x w'=>zN6 ns ts x /\ Below w.heap.size w w':=by
 have HW:=zB hw
 have HZ:=zB hz
 have HLA:=zB hla
 have HC:=zB hcd
 have hb0:=zC w (.cells #[.map (some bo),.map (some bs)] 69)
 have HX:=zKA bo bs g o c ns ts _ (by omega) (hidx.kept hb0) hcd (fun j hj=>(hw j hj).below hb0 hB) hst (by simp; omega)
 have HB0:=zB hb0
 clear hw hz hla hidx hst hcd hb0
 go_enter Tryz.func41,Tryz.ntmps41
 go_wp2_with fail
 refine HX.mono ?_
 rintro x w1 ⟨⟨a,c1,us,v,rfl,_,hr⟩,hb1⟩
 have bel1:Below w.heap.size w w1:=(zA HB0).trans (hb1.mono (by simp))
 clear HX HB0 hb1
 rcases hr with ⟨hn,_⟩ | ⟨_,⟨i,hi,hf,hro,rfl,rfl⟩ | ⟨hf,⟨_,rfl,rfl⟩ | ⟨hn,_⟩⟩⟩
 ·exact absurd (zA HC) hn
 ·have hb:((i:Int) != -1) = true:=by first | (simp; done) | (simp; omega)
  have HF:=zB (And.intro hf hro)
  have HX:=zES g o c i ts w1 hm hi hc hc2 (fun j hj=>((zA HW) j hj).below bel1 hB) (by have:=bel1.size; omega) ((zA HZ) i hi)
  clear hf hro
  go_wp2_with fail
  refine HX.mono ?_
  rintro x w2 ⟨rfl,hb2⟩
  have bel2:=bel1.trans (hb2.mono bel1.size)
  clear HX hb2
  go_wp2_with fail
  exact ⟨rfl,Or.inl ⟨i,hi,(zA HF).1,(zA HF).2,rfl⟩,bel2⟩
 ·have HF:=zB hf
  clear hf
  go_wp2_with fail
  go_end0
  exact ⟨Or.inr ⟨zA HF,rfl⟩,bel1⟩
 ·exact absurd (zA HLA) hn
end Go.Proofs.YtfboipappaonhaaGreat
namespace Go.Proofs.YtfboipappaonhaaGreat
set_option maxHeartbeats 16000000
set_option maxRecDepth 100000
open Go.RowKit Go.Maps
theorem zKr {W:World} {p bo bs L:Nat} {xs:List OpR} {s:ByteArray} (hsc:Sc W p bo bs L s 0 0 (.slice none 0 0)) (hi:Idx W bo bs xs xs.length) (h1:bo < p) (h2:bs < p):zB9 W W p bo bs L xs s 0 0 [] (.slice none 0 0):=
 ⟨hsc,World.ownsRow_nil _ _ _ _,by simp [Value.ownBlock],hi,Below.refl _ _,zF4.start xs s,fun q h1 h2=>by omega,Nat.le_refl _,Nat.zero_le _,h1,h2⟩
theorem zJS {w2:World} {bo bs L:Nat} {xs:List OpR} {s:ByteArray} (hi:Idx w2 bo bs xs xs.length) (h1:bo < w2.heap.size) (h2:bs < w2.heap.size) :
  zB9 (w2.alloc (.cells #[.map (some bo),.map (some bs),.int .i64 (L:Int),.string s,.int .i64 0,.int .i64 0,.slice none 0 0] 152)) (w2.alloc (.cells #[.map (some bo),.map (some bs),.int .i64 (L:Int),.string s,.int .i64 0,.int .i64 0,.slice none 0 0] 152)) w2.heap.size bo bs L xs s 0 0 [] (.slice none 0 0):=by
 refine zKr ⟨?_,?_,?_,?_,?_,?_,?_,fun o=>?_⟩ (hi.kept (zC _ _)) h1 h2
 all_goals simp [go_sem]
theorem zC9 (g:Nat):∀ (vs:List Value) (o:Nat) (w:World) (q:Addr),(w.setCells g o vs).frozen? q = w.frozen? q
 | [],_,_,_=>rfl
 | v :: r,o,w,q=>(zC9 g r (o + 1) (w.setCell ⟨g,o,none⟩ v) q).trans (World.frozen?_setCell _ _ _ _)
theorem zCX (g i:Nat) (hne:i ≠ g):∀ (vs:List Value) (o:Nat) (w:World),(w.setCells g o vs).heap[i]? = w.heap[i]?
 | [],_,_=>rfl
 | v :: r,o,w=>(zCX g i hne r (o + 1) (w.setCell ⟨g,o,none⟩ v)).trans (Below.heap_setCell _ _ _ _ hne)
theorem zJT {w2:World} {p bo bs L:Nat} {xs:List OpR} {s:ByteArray} (hi:Idx w2 bo bs xs xs.length) (h1:bo < p) (h2:bs < p) (hc:∀ j,j < 7 -> (w2.cell? ⟨p,j,none⟩).isSome = true) (hf:∀ o,w2.frozen? ⟨p,o,none⟩ = false) :
  zB9 (w2.setCells p 0 [.map (some bo),.map (some bs),.int .i64 (L:Int),.string s,.int .i64 0,.int .i64 0,.slice none 0 0]) (w2.setCells p 0 [.map (some bo),.map (some bs),.int .i64 (L:Int),.string s,.int .i64 0,.int .i64 0,.slice none 0 0]) p bo bs L xs s 0 0 [] (.slice none 0 0):=by
 have hin:=World.cell?_setCells_in p [.map (some bo),.map (some bs),.int .i64 (L:Int),.string s,.int .i64 0,.int .i64 0,.slice none 0 0] 0 w2 (fun j hj=>by simpa using hc j (by simpa using hj))
 refine zKr ⟨by simpa using hin 0 (by simp),by simpa using hin 1 (by simp),by simpa using hin 2 (by simp),by simpa using hin 3 (by simp),by simpa using hin 4 (by simp),by simpa using hin 5 (by simp),by simpa using hin 6 (by simp),fun o=>(zC9 p _ _ _ _).trans (hf o)⟩ (hi.of_blocks (zCX p bo (by omega) _ _ _) (zCX p bs (by omega) _ _ _)) h1 h2
theorem zN7 (bo bs:Nat) (xs:List OpR) (s:ByteArray) (w:World) (hi:Idx w bo bs xs xs.length) (hc:zM xs 0) (hsz:ZV xs) (h20:s.size <= 20000) :
  Calls Tryz.prog 39 #[.agg #[.map (some bo),.map (some bs)],.string s] w fun e w'=>(∃ (g cp:Nat) (us:List zI),e = .returned (.slice (some ⟨g,0,none⟩) us.length cp) /\ (w.heap.size <= g /\ us.length <= cp /\ cp <= maxLen) /\ Hid (zFQ w' g us us.length) /\ Hid (ZK xs s 0 us)) /\ Below w.heap.size w w':=by
 have HS:=zB hsz
 have HOK:=zB (zBQ hc)
 have HV:=zB (Z6 (zBQ hc))
 have HK:=zB (zJH (zBQ hc))
 have hbo:bo < w.heap.size:=by obtain ⟨D,hD,_⟩:=hi.ops; exact hD.lt
 have hbs:bs < w.heap.size:=by obtain ⟨D,hD,_⟩:=hi.srts; exact hD.lt
 have belI:Below w.heap.size w (w.alloc (.cells #[.map (some bo),.map (some bs)] 69)):=zC _ _
 have k0:(w.alloc (.cells #[.map (some bo),.map (some bs)] 69)).cell? ⟨w.heap.size,0,none⟩ = some (.map (some bo)):=by simp [go_sem]
 have k1:(w.alloc (.cells #[.map (some bo),.map (some bs)] 69)).cell? ⟨w.heap.size,1,none⟩ = some (.map (some bs)):=by simp [go_sem]
 have HIJ:=zB (hi.kept (zC w (.cells #[.map (some bo),.map (some bs)] 69)))
 clear hi hsz hc
 go_enter Tryz.func39,Tryz.ntmps39
 go_wp2_with fail
 obtain ⟨W0,hW0⟩:∃ W0,W0 = w.alloc (.cells #[.map (some bo),.map (some bs)] 69):=⟨_,rfl⟩
 have hz0:w.heap.size + 1 = W0.heap.size:=by rw [hW0]; simp
 rw [<- hW0] at belI k0 k1 HIJ ⊢
 clear hW0
 have n1:¬ W0.heap.size = w.heap.size:=by omega
 go_region_held (fun w'=>w'.cell? ⟨w.heap.size,0,none⟩ = some (.map (some bo)) /\ w'.cell? ⟨w.heap.size,1,none⟩ = some (.map (some bs))) (go_keep)
  (first | (go_at_call 78; refine (zFO bo bs xs _ (by first | exact (zA HIJ).kept (Below.refl _ _).drew | exact ((zA HIJ).kept (zC _ _)).kept (Below.refl _ _).drew) (zA HV) (zA HS) (zA HOK)).mono ?_; rintro e w2 ⟨⟨L,rfl,hL,hLx⟩,hb2⟩; have q0:=hb2.cell (p:=⟨w.heap.size,0,none⟩) (by first | (simp; omega)); have q1:=hb2.cell (p:=⟨w.heap.size,1,none⟩) (by first | (simp; omega)); have HLX:=zB hLx; have HB2:=zB hb2; obtain ⟨hc2,hf2⟩:=zE4 hb2; clear hLx hb2))
 ·have hz2:W0.heap.size <= w2.heap.size:=(zA HB2).size
  have HSC:=zB (zJS (w2:=w2) (L:=L) (s:=s) ((zA HIJ).kept ((Below.refl _ _).drew.trans (zA HB2))) (by omega) (by omega))
  have HBEL:Below w.heap.size w (w2.alloc (.cells #[.map (some bo),.map (some bs),.int .i64 (L:Int),.string s,.int .i64 0,.int .i64 0,.slice none 0 0] 152)):=(belI.drew.trans ((zA HB2).mono belI.size)).alloc (by omega) _
  have hPW:w.heap.size <= w2.heap.size:=by omega
  have hsp:=(zA HSC).lt
  go_wp2_with fail
  refine (zJK _ bo bs L xs s _ (zA HSC) h20 hL (zA HLX) (zA HV) (zA HK)).mono ?_
  rintro e w4 ⟨rfl,g,cp,us,hcell,⟨hpg,hcp,hcpm⟩,hfil,hlex,hbel⟩
  have c6:=zA hcell
  have bel4:=HBEL.trans (hbel.mono hPW)
  go_wp2_with fail
  go_ret
  exact ⟨⟨g,cp,us,rfl,⟨by omega,hcp,hcpm⟩,hfil,hlex⟩,bel4⟩
 ·have hz2:W0.heap.size < w2.heap.size:=by have:=(zA HB2).size; simp at this; omega
  have HSC:=zB (zJT (w2:=w2) (p:=W0.heap.size) (L:=L) (s:=s) ((((zA HIJ).kept (zC _ _)).kept (Below.refl _ _).drew).kept (zA HB2)) (by omega) (by omega) (fun j hj=>by
   rw [hc2 _ _ (by simp)]
   match j,hj with
   | 0,_=>simp [go_sem]
   | 1,_=>simp [go_sem]
   | 2,_=>simp [go_sem]
   | 3,_=>simp [go_sem]
   | 4,_=>simp [go_sem]
   | 5,_=>simp [go_sem]
   | 6,_=>simp [go_sem]) (fun o=>by rw [hf2 _ _ (by simp)]; simp [go_sem]))
  have HBEL:Below w.heap.size w (w2.setCells W0.heap.size 0 [.map (some bo),.map (some bs),.int .i64 (L:Int),.string s,.int .i64 0,.int .i64 0,.slice none 0 0]):=zAJ belI.size _ _ _ ((belI.alloc belI.size _).drew.trans ((zA HB2).mono (by have:=belI.size; simp; omega)))
  have hPW:w.heap.size <= W0.heap.size:=belI.size
  have hsp:=(zA HSC).lt
  go_wp2_with fail
  refine (zJK _ bo bs L xs s _ (zA HSC) h20 hL (zA HLX) (zA HV) (zA HK)).mono ?_
  rintro e w4 ⟨rfl,g,cp,us,hcell,⟨hpg,hcp,hcpm⟩,hfil,hlex,hbel⟩
  have c6:=zA hcell
  have bel4:=HBEL.trans (hbel.mono hPW)
  go_wp2_with fail
  go_ret
  exact ⟨⟨g,cp,us,rfl,⟨by omega,hcp,hcpm⟩,hfil,hlex⟩,bel4⟩
end Go.Proofs.YtfboipappaonhaaGreat
namespace Go.Proofs.YtfboipappaonhaaGreat
set_option linter.unusedSimpArgs false
set_option linter.unusedVariables false
set_option maxHeartbeats 16000000
set_option maxRecDepth 100000
open Go.RowKit Go.Maps
def Zj (xs:List OpR) (s:ByteArray) (w:World) (e:Ending) (w':World):Prop:=
 (∃ (a:Option Addr) (cc:Nat) (us:List zD) (c p:Int),e = .returned (.tuple #[.agg #[.slice a us.length cc],.int .i64 c,.int .i64 p]) /\ Hid (Z8 w' w.heap.size a us) /\ Hid (zAi xs s us c p)) /\ Below w.heap.size w w'
theorem Zj.empty {xs:List OpR} {s:ByteArray} {w w':World} {c p:Int} (h:zAi xs s [] c p) (hb:Below w.heap.size w w'):Zj xs s w (.returned (.tuple #[.agg #[.slice none 0 0],.int .i64 c,.int .i64 p])) w':=
 ⟨⟨none,0,[],c,p,rfl,zB (show Z8 w' w.heap.size none [] from Or.inl ⟨rfl,rfl⟩),zB h⟩,hb⟩
def zJU (N M bo bs:Nat) (W:World):Prop:=
 (W.cell? ⟨N + 1,0,none⟩ = some (.slice none 0 0) /\ W.frozen? ⟨N + 1,0,none⟩ = false) /\ (W.cell? ⟨N + 1 + 1,0,none⟩ = some (.int .i64 0) /\ W.frozen? ⟨N + 1 + 1,0,none⟩ = false) /\ (W.cell? ⟨N + 1 + 1 + 1,0,none⟩ = some (.int .i64 0) /\ W.frozen? ⟨N + 1 + 1 + 1,0,none⟩ = false) /\
 W.cell? ⟨M,0,none⟩ = some (.map (some bo)) /\ W.cell? ⟨M,1,none⟩ = some (.map (some bs))
theorem zJU.keptO {N M bo bs p:Nat} {W W':World} (h:zJU N M bo bs W) (hk:zE W W' p) (h1:N + 4 <= p) (h2:M ≠ p):zJU N M bo bs W':=by
 obtain ⟨⟨a1,b1⟩,⟨a2,b2⟩,⟨a3,b3⟩,i0,i1⟩:=h
 have l1:N + 1 < W.heap.size:=block_lt_of_cell a1
 have l2:N + 1 + 1 < W.heap.size:=block_lt_of_cell a2
 have l3:N + 1 + 1 + 1 < W.heap.size:=block_lt_of_cell a3
 have lm:M < W.heap.size:=block_lt_of_cell i0
 exact ⟨⟨(hk.cell l1 (by omega) 0).trans a1,(hk.frozen l1 (by omega) 0).trans b1⟩,⟨(hk.cell l2 (by omega) 0).trans a2,(hk.frozen l2 (by omega) 0).trans b2⟩,⟨(hk.cell l3 (by omega) 0).trans a3,(hk.frozen l3 (by omega) 0).trans b3⟩,(hk.cell lm h2 0).trans i0,(hk.cell lm h2 1).trans i1⟩
theorem zJU.below {N M bo bs:Nat} {W W':World} (h:zJU N M bo bs W) (hb:Below W.heap.size W W'):zJU N M bo bs W':=by
 have lm:M < W.heap.size:=block_lt_of_cell h.2.2.2.1
 have l3:N + 1 + 1 + 1 < W.heap.size:=block_lt_of_cell h.2.2.1.1
 exact h.keptO (zE.of_below (g:=W.heap.size) hb) (by omega) (by omega)
theorem zDe {tmps:Array Value} {R:Ending -> World -> Prop} {N M bo bs:Nat} {code place:Int} {W:World} (hF:zJU N M bo bs W)
  (hres:∀ W',W'.cell? ⟨N + 1,0,none⟩ = some (.slice none 0 0) -> W'.cell? ⟨N + 1 + 1,0,none⟩ = some (.int .i64 code) -> W'.cell? ⟨N + 1 + 1 + 1,0,none⟩ = some (.int .i64 place) -> (results Tryz.f13 tmps).run Tryz.prog W' = .ok (.tuple #[.agg #[.slice none 0 0],.int .i64 code,.int .i64 place]) W')
  (hR:∀ W',Below N W W' -> R (.returned (.tuple #[.agg #[.slice none 0 0],.int .i64 code,.int .i64 place])) W') :
  Leaves Tryz.prog Tryz.f13 tmps R [{ target:=.fn (.func 36) #[.pointer (some ⟨N + 1 + 1,0,none⟩),.pointer (some ⟨N + 1 + 1 + 1,0,none⟩)],args:=#[] }] (.panicking [{ v:=.iface 146 (.agg #[.int .i64 code,.int .i64 place]),recovered:=false }]) W:=by
 obtain ⟨⟨a1,b1⟩,⟨a2,b2⟩,⟨a3,b3⟩,_,_⟩:=hF
 have l1:N + 1 < W.heap.size:=block_lt_of_cell a1
 have l2:N + 1 + 1 < W.heap.size:=block_lt_of_cell a2
 have l3:N + 1 + 1 + 1 < W.heap.size:=block_lt_of_cell a3
 refine leaves_cons (f:=36) (args:=#[.pointer (some ⟨N + 1 + 1,0,none⟩),.pointer (some ⟨N + 1 + 1 + 1,0,none⟩)]) (by simp) (by simp [go_sem]) ?_
 refine (zFP _ _ 0 0 code place _ a2 b2 a3 b3 (by omega)).mono ?_
 rintro e u' w'' ⟨rfl,rfl,wz,hbz,rfl⟩
 have y1:=(hbz.cell (p:=⟨N + 1,0,none⟩) l1).trans a1
 have y2:=(hbz.cell (p:=⟨N + 1 + 1,0,none⟩) l2).trans a2
 have y3:=(hbz.cell (p:=⟨N + 1 + 1 + 1,0,none⟩) l3).trans a3
 refine ⟨_,hres _ ?_ ?_ ?_,hR _ ?_⟩
 ·rw [World.cell?_setCell_other _ _ _ _ (fun e=>by injection e with e; omega),World.cell?_setCell_other _ _ _ _ (fun e=>by injection e with e; omega)]
  exact y1
 ·rw [World.cell?_setCell_other _ _ _ _ (fun e=>by injection e with e; omega)]
  exact World.cell?_setCell_same _ _ _ y2
 ·have y4:=(World.cell?_setCell_other wz ⟨N + 1 + 1,0,none⟩ ⟨N + 1 + 1 + 1,0,none⟩ (.int .i64 code) (fun e=>by injection e with e; omega)).trans y3
  exact World.cell?_setCell_same _ _ _ y4
 ·exact ((hbz.mono (by omega)).setCell (by simp only; omega) _).setCell (by simp only; omega) _
theorem zIT {tmps:Array Value} {R:Ending -> World -> Prop} {N:Nat} {v:Value} {W:World}
  (hres:(results Tryz.f13 tmps).run Tryz.prog W = .ok v W) (hR:R (.returned v) W) :
  Leaves Tryz.prog Tryz.f13 tmps R [{ target:=.fn (.func 36) #[.pointer (some ⟨N + 1 + 1,0,none⟩),.pointer (some ⟨N + 1 + 1 + 1,0,none⟩)],args:=#[] }] .returning W:=by
 refine leaves_cons (f:=36) (args:=#[.pointer (some ⟨N + 1 + 1,0,none⟩),.pointer (some ⟨N + 1 + 1 + 1,0,none⟩)]) (by simp) (by simp [go_sem]) ?_
 refine (zKG _ _ _).mono ?_
 rintro e u' w'' ⟨rfl,rfl,rfl⟩
 exact ⟨v,hres,hR⟩
def zM7 (xs:List OpR) (w:World) (e:Ending) (w':World):Prop:=(∃ (x y:Option Nat) (c:Int),e = .returned (.tuple #[.agg #[.map x,.map y],.int .i64 c]) /\ zM xs c /\ (c = 0 -> ∃ bo bs,x = some bo /\ y = some bs /\ Idx w' bo bs xs xs.length)) /\ Below w.heap.size w w'
theorem zGt (a:Option Addr) (cap:Nat) (xs:List OpR) (s:ByteArray) (w:World) (hmx:xs.length <= 1048576) (hI:∀ W,Below w.heap.size w W -> Calls Tryz.prog 38 #[.agg #[.slice a xs.length cap]] W (zM7 xs W)) (hsz:ZV xs) (hs:s.size <= maxLen) :
  Calls Tryz.prog 13 #[.agg #[.slice a xs.length cap],.string s] w (Zj xs s w):=by
 have hmf:∀ (fn:Fn) (first cap:Array Value) (w:World),(Instr.makeFunc fn first cap).run Tryz.prog w = .ok (.func fn first cap) w:=fun _ _ _ _=>rfl
 have HS:=zB hsz
 clear hsz
 have bel0:Below w.heap.size w ((((w.alloc (.cells #[.slice a xs.length cap] 25)).alloc (.cells #[.slice none 0 0] 28)).alloc (.cells #[.int .i64 0] 3)).alloc (.cells #[.int .i64 0] 3)):=(((zC _ _).alloc (by simp) _).alloc (by simp; omega) _).alloc (by simp; omega) _
 have HX:=hI _ bel0
 clear hI
 have HB0:=zB bel0
 clear bel0
 go_enter_defers Tryz.func13,Tryz.ntmps13
 go_wp2_with fail
 refine HX.mono ?_
 clear HX
 rintro e w1 ⟨⟨x,y,c,rfl,hc,hix⟩,hb1⟩
 have HC:=zB hc
 have HIX:=zB hix
 have z1:w.heap.size + 4 <= w1.heap.size:=by have:=hb1.size; simp at this; omega
 have bel1:Below w.heap.size w w1:=(zA HB0).trans (hb1.mono (by simp; omega))
 have t1:w1.cell? ⟨w.heap.size + 1,0,none⟩ = some (.slice none 0 0):=(hb1.cell (p:=⟨w.heap.size + 1,0,none⟩) (by simp)).trans (by simp [go_sem])
 have u1:w1.frozen? ⟨w.heap.size + 1,0,none⟩ = false:=(hb1.frozen (p:=⟨w.heap.size + 1,0,none⟩) (by simp)).trans (by simp [go_sem])
 have t2:w1.cell? ⟨w.heap.size + 1 + 1,0,none⟩ = some (.int .i64 0):=(hb1.cell (p:=⟨w.heap.size + 1 + 1,0,none⟩) (by simp)).trans (by simp [go_sem])
 have u2:w1.frozen? ⟨w.heap.size + 1 + 1,0,none⟩ = false:=(hb1.frozen (p:=⟨w.heap.size + 1 + 1,0,none⟩) (by simp)).trans (by simp [go_sem])
 have t3:w1.cell? ⟨w.heap.size + 1 + 1 + 1,0,none⟩ = some (.int .i64 0):=(hb1.cell (p:=⟨w.heap.size + 1 + 1 + 1,0,none⟩) (by simp)).trans (by simp [go_sem])
 have u3:w1.frozen? ⟨w.heap.size + 1 + 1 + 1,0,none⟩ = false:=(hb1.frozen (p:=⟨w.heap.size + 1 + 1 + 1,0,none⟩) (by simp)).trans (by simp [go_sem])
 have bel2:Below w.heap.size w (w1.alloc (.cells #[.map x,.map y] 69)):=bel1.alloc bel1.size _
 have hb2:=zC w1 (.cells #[.map x,.map y] 69)
 replace t1:=(hb2.cell (p:=⟨w.heap.size + 1,0,none⟩) (by simp only; omega)).trans t1
 replace u1:=(hb2.frozen (p:=⟨w.heap.size + 1,0,none⟩) (by simp only; omega)).trans u1
 replace t2:=(hb2.cell (p:=⟨w.heap.size + 1 + 1,0,none⟩) (by simp only; omega)).trans t2
 replace u2:=(hb2.frozen (p:=⟨w.heap.size + 1 + 1,0,none⟩) (by simp only; omega)).trans u2
 replace t3:=(hb2.cell (p:=⟨w.heap.size + 1 + 1 + 1,0,none⟩) (by simp only; omega)).trans t3
 replace u3:=(hb2.frozen (p:=⟨w.heap.size + 1 + 1 + 1,0,none⟩) (by simp only; omega)).trans u3
 clear hc hix hb1 HB0
 by_cases hc0:c = 0
 case neg=>
  have hc0':(c != 0) = true:=by simpa using hc0
  have HN:=zB (show ¬ zM xs 0 from fun h=>hc0 (zAk (zA HC) h))
  clear hc0
  go_wp2_with fail
  refine zIT (v:=.tuple #[.agg #[.slice none 0 0],.int .i64 1,.int .i64 0]) ?_ ?_
  ·simp [results,Tryz.results13,go_sem,t1,t2,t3]
  ·exact Zj.empty (Or.inl ⟨zA HN,rfl,rfl,rfl⟩) (((bel2.setCell (by simp only; omega) _).setCell (by simp only; omega) _).setCell (by simp only; omega) _)
 subst hc0
 obtain ⟨bo,bs,rfl,rfl,hidx⟩:=(zA HIX) rfl
 by_cases hlen:20000 < s.size
 ·have hlI:(20000:Int) < (s.size:Int):=by omega
  have HN:=zB hlen
  clear HIX hidx hlen
  go_wp2_with fail
  refine zIT (v:=.tuple #[.agg #[.slice none 0 0],.int .i64 2,.int .i64 0]) ?_ ?_
  ·simp [results,Tryz.results13,go_sem,t1,t2,t3]
  ·exact Zj.empty (Or.inr ⟨zA HC,Or.inl ⟨zA HN,rfl,rfl,rfl⟩⟩) (((bel2.setCell (by simp only; omega) _).setCell (by simp only; omega) _).setCell (by simp only; omega) _)
 have h20:s.size <= 20000:=by omega
 have hlI:(s.size:Int) <= 20000:=by omega
 have HF:=zB (show zJU w.heap.size w1.heap.size bo bs (w1.alloc (.cells #[.map (some bo),.map (some bs)] 69)) from ⟨⟨t1,u1⟩,⟨t2,u2⟩,⟨t3,u3⟩,by simp [go_sem],by simp [go_sem]⟩)
 have HID:=zB (hidx.kept hb2)
 have HX:=zN7 bo bs xs s _ (zA HID) (zA HC) (zA HS) h20
 clear HIX hidx hb2 t1 t2 t3 u1 u2 u3 hlen
 go_wp2_with fail
 refine HX.mono ?_
 clear HX
 rintro e w3 ⟨⟨g,cp,ts,rfl,⟨hg,hcp,hcpm⟩,hfil,hlex⟩,hb3⟩
 have bel3:=bel2.trans (hb3.mono bel2.size)
 replace HF:=zB ((zA HF).below hb3)
 replace HID:=zB ((zA HID).kept hb3)
 have hgw:w.heap.size <= g:=by simp at hg; omega
 have hg3:g < w3.heap.size:=(zA hfil).1
 have HT:=zB (show zCE w3 g 0 ts from (zA hfil).2.2)
 have HR:=zB (zDb (zA hlex))
 have HZ:=zB (zB7 ts 0 (zA hlex))
 have hm3:ts.length + ZF ts ts.length <= 1048576:=by have:=zA HR; omega
 have hms:w1.heap.size + 1 <= w3.heap.size:=by have:=hb3.size; simp at this; omega
 have HX:=zGs g 0 cp ts w3 hm3 hcp hcpm (zA HT) hg3 (fun i hi=>by have:=((zA HZ) i hi).1; omega)
 clear hb3 hfil HR hg bel2
 go_wp2_with fail
 refine HX.mono ?_
 clear HX
 rintro e w4 ⟨⟨i,hi,h6,hno,rfl⟩ | ⟨hno,rfl⟩,hb4⟩
 ·refine zDe (zA (zB ((zA HF).below hb4))) (fun W' a b c=>by simp [results,Tryz.results13,go_sem,a,b,c]) (fun W' hb=>Zj.empty (Or.inr ⟨zA HC,Or.inr ⟨h20,ts,zA hlex,Or.inl ⟨i,hi,h6,hno,rfl,rfl,rfl⟩⟩⟩) ((bel3.trans (hb4.mono bel3.size)).trans hb))
 replace HF:=zB ((zA HF).below hb4)
 replace HID:=zB ((zA HID).kept hb4)
 have bel4:=bel3.trans (hb4.mono bel3.size)
 replace HT:=zB ((zA HT).below hb4 hg3)
 have hg4:g < w4.heap.size:=Nat.lt_of_lt_of_le hg3 hb4.size
 have hms4:=Nat.le_trans hms hb4.size
 have HNO:=zB hno
 have HX:=zE2 bo bs g 0 cp xs ts w4 hm3 hcp hcpm (zA HID) (zA HC) (zA HT) (fun i hi=>by have:=(zA HZ) i hi; unfold maxLen; omega) hg4 (fun i hi=>by have:=((zA HZ) i hi).1; omega) (zBL ts 0 (zA hlex))
 obtain ⟨⟨t1,u1⟩,⟨t2,u2⟩,⟨t3,u3⟩,i0,i1⟩:=zA HF
 clear hb4 bel3 hno hg3 hms
 go_wp2_with fail
 refine HX.mono ?_
 clear HX t1 t2 t3 u1 u2 u3 i0 i1
 rintro e w5 ⟨⟨i,hi,hfi,hro,rfl⟩ | ⟨hfit,rfl⟩,hb5⟩
 ·refine zDe (zA (zB ((zA HF).below hb5))) (fun W' a b c=>by simp [results,Tryz.results13,go_sem,a,b,c]) (fun W' hb=>Zj.empty (Or.inr ⟨zA HC,Or.inr ⟨h20,ts,zA hlex,Or.inr ⟨zA HNO,Or.inl ⟨i,hi,hfi,hro,rfl,rfl,rfl⟩⟩⟩⟩) ((bel4.trans (hb5.mono bel4.size)).trans hb))
 replace HF:=zB ((zA HF).below hb5)
 replace HID:=zB ((zA HID).kept hb5)
 have bel5:=bel4.trans (hb5.mono bel4.size)
 replace HT:=zB ((zA HT).below hb5 hg4)
 have hg5:g < w5.heap.size:=Nat.lt_of_lt_of_le hg4 hb5.size
 have hms5:=Nat.le_trans hms4 hb5.size
 have HFIT:=zB hfit
 have HX:=zGr bo bs g 0 cp xs ts w5 (zA HID) (zA HC) (zA HS) hmx (zA HT) hg5
 obtain ⟨⟨t1,u1⟩,⟨t2,u2⟩,⟨t3,u3⟩,i0,i1⟩:=zA HF
 clear hb5 bel4 hfit hg4 hms4
 go_wp2_with fail
 refine HX.mono ?_
 clear HX t1 t2 t3 u1 u2 u3 i0 i1
 rintro e w6 ⟨⟨p,bf,bb,rfl,hp,hpc,hpr⟩,hb6⟩
 replace HF:=zB ((zA HF).below hb6)
 have bel6:=bel5.trans (hb6.mono bel5.size)
 have HFS:=zB (zNi (zA HC) (zBQ (zA HC)) h20 (zA hlex) (zA HFIT))
 have HSG:=zB (show Zl xs (false,0) (sgs xs ts 0 ts.length) by have:=(zA HFS).all 0 (zBL ts 0 (zA hlex)).1; rw [Nat.sub_zero] at this; exact this)
 obtain ⟨res,hres⟩:∃ res,res = RD xs 0 none (sgs xs ts 0 ts.length):=⟨_,rfl⟩
 have HX:=zKF (zA HFS) w6 (zA HSG) (zA hpc) (zA hpr) res hres
 have HRES:=zB hres
 have hz6:=hb6.size
 have hl5:w.heap.size + 4 <= w5.heap.size:=by omega
 clear hb6 hres HSG HFS hpc hpr
 go_wp2_with fail
 refine HX.mono ?_
 clear HX
 rintro e w7 ⟨hk7,⟨hn,rfl⟩ | ⟨T,r,hsome,hgd,⟨hhi,rfl⟩ | ⟨hlo,g',c',rfl,hg',hfil⟩⟩⟩
 ·have HF7:=zB ((zA HF).keptO (zA hk7) (by omega) (by omega))
  have bel7:=bel6.trans ((zA hk7).below bel6.size (by omega))
  refine zDe (zA HF7) (fun W' a b c=>by simp [results,Tryz.results13,go_sem,a,b,c]) (fun W' hb=>Zj.empty (Or.inr ⟨zA HC,Or.inr ⟨h20,ts,zA hlex,Or.inr ⟨zA HNO,Or.inr ⟨zA HFIT,Or.inl ⟨(zA HRES).symm.trans hn,rfl,rfl,rfl⟩⟩⟩⟩⟩) (bel7.trans hb))
 ·have HF7:=zB ((zA HF).keptO (zA hk7) (by omega) (by omega))
  have bel7:=bel6.trans ((zA hk7).below bel6.size (by omega))
  refine zDe (zA HF7) (fun W' a b c=>by simp [results,Tryz.results13,go_sem,a,b,c]) (fun W' hb=>Zj.empty (Or.inr ⟨zA HC,Or.inr ⟨h20,ts,zA hlex,Or.inr ⟨zA HNO,Or.inr ⟨zA HFIT,Or.inr ⟨T,r,(zA HRES).symm.trans hsome,Or.inl ⟨hhi,rfl,rfl,rfl⟩⟩⟩⟩⟩⟩) (bel7.trans hb))
 have HF7:=zB ((zA HF).keptO (zA hk7) (by omega) (by omega))
 have bel7:=bel6.trans ((zA hk7).below bel6.size (by omega))
 obtain ⟨us,hus⟩:∃ us,us = nd T 0:=⟨_,rfl⟩
 rw [<- hus] at hfil
 rw [<- hus]
 have HOUT:=zB (show zAi xs s us 0 0 from Or.inr ⟨zA HC,Or.inr ⟨h20,ts,zA hlex,Or.inr ⟨zA HNO,Or.inr ⟨zA HFIT,Or.inr ⟨T,r,(zA HRES).symm.trans hsome,Or.inr ⟨hlo,hus,rfl,rfl⟩⟩⟩⟩⟩⟩)
 obtain ⟨⟨t1,u1⟩,⟨t2,u2⟩,⟨t3,u3⟩,i0,i1⟩:=zA HF7
 clear hus hsome hlo HRES HF hk7 bel6 HNO HFIT HT HID i0 i1 hgd
 go_wp2_with fail
 refine zIT (v:=.tuple #[.agg #[.slice (some ⟨g',0,none⟩) us.length c'],.int .i64 0,.int .i64 0]) ?_ ?_
 ·simp [results,Tryz.results13,go_sem,t1,t2,t3]
 ·refine ⟨⟨some ⟨g',0,none⟩,c',us,0,0,rfl,zB (Or.inr ⟨g',rfl,by omega,?_⟩),HOUT⟩,((bel7.setCell (by simp only; omega) _).setCell (by simp only; omega) _).setCell (by simp only; omega) _⟩
  exact (((zA hfil).setCell _ _ _ (by omega)).setCell _ _ _ (by omega)).setCell _ _ _ (by omega)
theorem zIU (a:Option Addr) (cap:Nat) (xs:List OpR) (s:ByteArray) (w:World) (hmx:xs.length <= 1048576) (hI:∀ W,Below w.heap.size w W -> Calls Tryz.prog 38 #[.agg #[.slice a xs.length cap]] W (zM7 xs W)) (hsz:ZV xs) (hs:s.size <= 1048576) :
  Calls Tryz.prog 13 #[.agg #[.slice a xs.length cap],.string s] w (Zj xs s w):=
 zGt a cap xs s w hmx hI hsz (by unfold maxLen; omega)
theorem zDm (b off cap:Nat) (xs:List OpR) (s:ByteArray) (w:World) (hmx:xs.length <= 1048576) (hw:Ops w b off xs) (hsz:ZV xs) (hB:b < w.heap.size) (hs:s.size <= 1048576) :
  Calls Tryz.prog 13 #[.agg #[.slice (some ⟨b,off,none⟩) xs.length cap],.string s] w (Zj xs s w):=
 zIU _ cap xs s w hmx (fun W hb=>zDO b off cap xs W hmx (hw.below hb hB) hsz (Nat.lt_of_lt_of_le hB hb.size)) hsz hs
end Go.Proofs.YtfboipappaonhaaGreat
