import Derived.Deep.AppendLies
import Derived.Test.YtokabkhnidlcnacGreatDoorM42
import Derived.Test.YtokabkhnidlcnacGreatDoorM44
namespace Go.Proofs.YtokabkhnidlcnacGreatDoor
set_option linter.unusedSimpArgs false
set_option linter.unusedVariables false
set_option maxHeartbeats 16000000
set_option maxRecDepth 100000
open Go.RowKit Go.Maps
def zQO (w:World) (C bs:Nat) (ms:List zJ) (T:Nat -> List OpR) (i:Nat) (e:Ending) (w':World):Prop:=
 zB0 e (zL (T i) 0) /\ w.grownBy w' (some bs) /\ ∃ G',ScM w' C bs ms T G'
theorem zIj (B C P bs:Nat) (am:Option Addr) (cm:Nat) (ms:List zJ) (v1:Value) (vs:List UvR) (U:List UnR) (kv:Value) (pv:Option Nat) (ks:List ByteArray) (T:Nat -> List OpR) (rk:Nat -> Nat) (hn:ms.length <= 100) (hN:zAz ms ks) (hR:RkE ms.length (nmF ms) U rk) (hT:BrE ms.length (nmF ms) U T) (hA:(ZE U).length <= 400000) (hF:∀ o ∈ ZE U,zCy o) (hul:∀ i,i < ms.length -> (atU U i).us.length <= 20001)
  (i:Nat) (hi:i < ms.length) (w:World) (G:ByteArray -> Option Value) (hM:zBz w am ms) (hH:ScH w B C P bs am cm ms v1 vs U kv pv ks) (hG:ScM w C bs ms T G) :
  Calls Tryz.prog 94 #[.pointer (some ⟨P,0,none⟩),.int .i64 (i:Int)] w (zQO w C bs ms T i):=by
 have c0:=hH.pg.c0
 have hiI:(i:Int) < (ms.length:Int):=by omega
 rcases hM with hM | ⟨bA,off,rfl,hops,hbl⟩
 ·omega
 obtain ⟨m0,m1⟩:=hops i hi
 have HX:=zB (zFP B C P bs _ cm ms v1 vs U kv pv ks T rk hn hN hR hT hA hF hul (rk i + 1) i hi (by omega) w G hH hG)
 have hsub:=hT.sub hR (by have:=hH.pg.uns.1; have:=hH.pg.ln; omega) (rk i + 1) i hi (by omega)
 have HTL:=zB (show (T i).length <= 1048576 from (by have:=zAR (T i) (ZE U) (hT.nd hi) hsub; omega))
 have HTZ:=zB (show Zm (T i) from fun q hq=>(hF _ (hsub _ (zHx hq))).1)
 clear hops hH hG hN hR hT hF hul hsub
 go_enter Tryz.func94,Tryz.ntmps94
 go_wp2_with (first | (go_at_call 57; (with_reducible refine (zA HX).mono ?_); rintro e w6 ⟨v,G',rfl,g1,g2,g3,gp,g4,g5⟩; obtain ⟨v',hv',hov0,_⟩:=g2.at' i hi _ g1; obtain rfl:v = v':=(by simpa using hv'); have hov:=hov0.ops; clear hov0; have HTO:=zB (zKq v (T i) w6 (zA HTL) hov (zA HTZ)); have HG6:=zB g2; have HW6:=zB g3; clear g1 g2 g3 g4 g5 gp hov hv' HX) | (go_at_call 119; (with_reducible refine (zA HTO).mono ?_); rintro e w7 ⟨⟨c,rfl,hc⟩,hb7⟩; have HC:=zB hc; have HB7:=zB hb7; clear hc hb7 HTO))
 go_ret
 have g6:=zA HW6
 have b7:=zA HB7
 have hz:=g6.size
 refine ⟨⟨c == 0,rfl,?_⟩,⟨b7.os.trans g6.os,b7.tape.trans g6.tape,b7.output.trans g6.output,Nat.le_trans hz b7.size,fun q hq hne=>(b7.block q (by omega)).trans (g6.block q hq hne)⟩,G',(zA HG6).below b7⟩
 unfold zC1
 constructor
 ·intro h
  have e:c = 0:=by simpa using h
  rw [<- e]; exact zA HC
 ·intro h
  have e:=zAV (zA HC) h
  simp [e]
structure KpP (P:Nat) (v1:Value) (w w':World):Prop where
 os:w'.os = w.os
 tape:w'.tape = w.tape
 output:w'.output = w.output
 size:w.heap.size <= w'.heap.size
 blk:∀ q,q < w.heap.size -> q ≠ P -> v1.ownBlock ≠ some q -> w'.heap[q]? = w.heap[q]?
 cel:∀ o,o ≠ 1 -> w'.cell? ⟨P,o,none⟩ = w.cell? ⟨P,o,none⟩ /\ w'.frozen? ⟨P,o,none⟩ = w.frozen? ⟨P,o,none⟩
def zKr (w:World) (H B P bs:Nat) (am:Option Addr) (cm:Nat) (ms:List zJ) (v1:Value) (vs:List UvR) (U:List UnR) (k:Nat) (e:Ending) (w':World):Prop:=
 zB0 e (¬ B2 ms k) /\ KpP P v1 w w' /\ ∃ x us os b c l v4,zq (atM ms k).t us os b c l /\ PgA w' B P bs am cm ms.length v4 (vs ++ [x]) (U ++ [⟨dst us,os,b⟩]) /\ zx w.heap.size v1.ownBlock v4.ownBlock
theorem zPp {ms:List zJ} {k:Nat} {us:List ByteArray} {os:List OpR} {b:ByteArray} {c l:Int} (h:zq (atM ms k).t us os b c l) (hc:c = 0) (h1:(atM ms k).n.size <= 64) (h2:zAx (atM ms k).n):¬ B2 ms k:=by
 rintro (⟨us',os',b',c',l',h',hc'⟩ | h' | h')
 ·exact hc' ((zq.one h h').2.2.2.1 ▸ hc)
 ·exact h' h2
 ·omega
theorem PgA.below {w w':World} {B P bs:Nat} {am:Option Addr} {cm n:Nat} {v1:Value} {vs:List UvR} {U:List UnR} (h:PgA w B P bs am cm n v1 vs U) (hb:Below w.heap.size w w'):PgA w' B P bs am cm n v1 vs U:=by
 have hl:=h.lt
 have kc:=fun q=>hb.cell (p:=⟨P,q,none⟩) hl
 refine ⟨h.hP,h.hbs,h.hne,(kc 0).trans h.c0,(kc 1).trans h.c1,(kc 2).trans h.c2,(kc 3).trans h.c3,(kc 4).trans h.c4,fun o=>(hb.frozen (p:=⟨P,o,none⟩) hl).trans (h.fz o),h.row.below hb,⟨h.uns.1,fun i hi=>?_⟩,h.lo,h.sm.kept (zF hb none) (by simp)⟩
 obtain ⟨⟨q1,q2,q3⟩,q4,q5⟩:=h.uns.2 i hi
 have hz:=hb.size
 exact ⟨⟨q1.below hb,q2.below hb,q3⟩,fun g e=>⟨(q4 g e).1,by have:=(q4 g e).2; omega⟩,fun g e=>⟨(q5 g e).1,by have:=(q5 g e).2; omega⟩⟩
theorem zQP {w W3 w4:World} {H B P bs:Nat} {am:Option Addr} {cm n g4 c4:Nat} {v1:Value} {vs:List UvR} {U:List UnR} {x:UvR} {us:List ByteArray} {os:List OpR} {b nm:ByteArray} {ob:Obj} (h:PgA w B P bs am cm n v1 vs U) (hB:B <= w.heap.size) (hH:H <= P) (hb:Below w.heap.size w W3)
  (h1:zj W3 x.vu us) (h2:ZC W3 x.vo os) (h3:x.b = b) (hu:∀ g,x.vu.ownBlock = some g -> w.heap.size <= g /\ g < W3.heap.size) (ho:∀ g,x.vo.ownBlock = some g -> w.heap.size <= g /\ g < W3.heap.size) (hn:W3.cell? ⟨w.heap.size,0,none⟩ = some (.string nm))
  (hown:w4.ownsRow B 64 3 (.slice (some ⟨g4,0,none⟩) (vs.length + 1) c4) (vs.length + 1) (ZO vs ++ ZO [x])) (hg:(W3.alloc ob).drew.grownBy w4 v1.ownBlock) (hat:v1.ownBlock = some g4 \/ g4 = (W3.alloc ob).drew.heap.size) :
  PgA (w4.setCell ⟨P,1,none⟩ (.slice (some ⟨g4,0,none⟩) (vs.length + 1) c4)) B P bs am cm n (.slice (some ⟨g4,0,none⟩) (vs.length + 1) c4) (vs ++ [x]) (U ++ [⟨us,os,b⟩]) /\ KpP P v1 w (w4.setCell ⟨P,1,none⟩ (.slice (some ⟨g4,0,none⟩) (vs.length + 1) c4)) /\ (w4.setCell ⟨P,1,none⟩ (.slice (some ⟨g4,0,none⟩) (vs.length + 1) c4)).cell? ⟨w.heap.size,0,none⟩ = some (.string nm) /\ zx w.heap.size v1.ownBlock (some g4):=by
 have hbd:Below W3.heap.size W3 (W3.alloc ob).drew:=(zC _ _).drew
 have hb':Below w.heap.size w (W3.alloc ob).drew:=hb.trans (hbd.mono hb.size)
 have hz:(W3.alloc ob).drew.heap.size = W3.heap.size + 1:=by simp
 have hzw:=hb.size
 have hPl:=h.lt
 have hPB:=h.hP
 have hwl:w.heap.size < W3.heap.size:=World.block_lt_of_cell? _ _ hn
 have hr:zAc w4 B (.slice (some ⟨g4,0,none⟩) (vs.length + 1) c4) (vs ++ [x]):=by
  unfold zAc
  rw [zDc,List.length_append]
  exact hown
 refine ⟨h.step hB hb' (h1.below hbd) (h2.below hbd) h3 (fun g e=>?_) (fun g e=>?_) hg hr (hat.imp (fun e=>e.symm) (fun e=>⟨g4,rfl,by omega⟩)),?_,?_,hat.imp (fun e=>e.symm) (fun e=>⟨g4,rfl,by omega⟩)⟩
 ·have:=hu g e; omega
 ·have:=ho g e; omega
 ·have hz4:=hg.size
  refine ⟨hg.os.trans hb'.os,hg.tape.trans hb'.tape,hg.output.trans hb'.output,by simp [World.setCell]; omega,fun q hq hne hv=>?_,fun o ho=>?_⟩
  ·rw [Below.heap_setCell _ _ _ _ (by simpa using hne)]
   exact (hg.block q (by omega) (fun e=>hv e.symm)).trans (hb'.block q (by omega))
  ·have hbk:=(hg.block P (by omega) (fun e=>by have:=(h.row.lt P e.symm).1; omega)).trans (hb'.block P (by omega))
   exact ⟨(World.cell?_setCell_other _ _ _ _ (by intro x; injection x with _ x; omega)).trans (World.cell?_of_block (w:=w) hbk),(World.frozen?_setCell _ _ _ _).trans (World.frozen?_of_block (w:=w) hbk)⟩
 ·refine (World.cell?_setCell_other _ _ _ _ (by intro x; injection x with x; omega)).trans ((zE hg (b:=w.heap.size) (by omega) (fun e=>by have:=(h.row.lt _ e).2; omega) 0).trans ((hbd.cell (p:=⟨w.heap.size,0,none⟩) hwl).trans hn))
theorem zHF (H B P bs:Nat) (am:Option Addr) (cm:Nat) (ms:List zJ) (v1:Value) (vs:List UvR) (U:List UnR) (k:Nat) (w:World) (h:PgA w B P bs am cm ms.length v1 vs U) (hB:B <= w.heap.size) (hH:H <= P) (hM:zBz w am ms) (hk:k < ms.length) (hkv:vs.length <= 1048576) (hs:(atM ms k).t.size <= maxLen) (hs':(atM ms k).n.size <= maxLen) (hmax:zEy w) :
  Calls Tryz.prog 90 #[.pointer (some ⟨P,0,none⟩),.int .i64 (k:Int)] w (zKr w H B P bs am cm ms v1 vs U k):=by
 have hPl:=h.lt
 have hPB:=h.hP
 have c0:=h.c0
 have hkI:(k:Int) < (ms.length:Int):=by omega
 rcases hM with hM | ⟨bA,off,rfl,hops,hbl⟩
 ·omega
 obtain ⟨m0,m1⟩:=hops k hk
 obtain ⟨i0,hi0,hz0,hz1,hz2⟩:=zQ zMs
 have HI:=zB hi0
 have HZ:=zB (And.intro hz0 (And.intro hz1 hz2))
 clear hi0 hz0 hz1 hz2
 obtain ⟨s,hse⟩:∃ s,s = (atM ms k).t:=⟨_,rfl⟩
 obtain ⟨nm,hne⟩:∃ nm,nm = (atM ms k).n:=⟨_,rfl⟩
 rw [<- hse] at m1 hs
 rw [<- hne] at m0 hs'
 have HSE:=zB hse
 have HNE:=zB hne
 obtain ⟨a1,c1,rfl⟩:∃ a c,v1 = .slice a vs.length c:=zM h.row
 have HPG:=zB h
 have d1:=h.c1
 have HMX:=zB hmax
 obtain ⟨W0,hW0⟩:∃ W0,W0 = w.alloc (.cells #[.string nm,.string s] 65):=⟨_,rfl⟩
 have hb0:Below w.heap.size w W0:=by rw [hW0]; exact zC _ _
 have hz0:W0.heap.size = w.heap.size + 1:=by rw [hW0]; simp
 have n0:W0.cell? ⟨w.heap.size,0,none⟩ = some (.string nm):=by rw [hW0]; simp [go_sem]
 have HU:=zB (zEz s W0 hs (hmax.below hb0))
 have HW0:=zB hW0
 have HB0:=zB hb0
 have HZ0:=zB hz0
 clear h hse hne hops hmax hW0 hb0 hz0
 go_enter Tryz.func90,Tryz.ntmps90
 go_wp2_with (first | (go_at_call 138; rw [<- zA HW0]; (with_reducible refine (zA HU).mono ?_); rintro e w1 ⟨vu,vo,us,os,b,cc,l,rfl,hui,hru,hro,huo,hul,hol,hb1⟩; have HUI:=zB hui; have hz1:w.heap.size + 1 <= w1.heap.size:=(by have:=hb1.size; rw [zA HZ0] at this; exact this); have HB1:=zB hb1; obtain ⟨au,cu,rfl⟩:∃ a c,vu = .slice a us.length c:=zM hru; obtain ⟨ao,co,rfl⟩:∃ a c,vo = .slice a os.length c:=zM hro; have HRO:=zB hro; have HX:=zB (zIe (.slice au us.length cu) us (w1.alloc (.cells #[.slice au us.length cu,.slice ao os.length co,.string b] 64)) (fun x hx=>(by have:=(zCN hui).2 x hx; unfold maxLen; omega)) (by omega) (hru.strs.below (zC _ _)) (fun g e=>(by have:=(hru.lt g e).2; simp; omega))); have n1:w1.cell? ⟨w.heap.size,0,none⟩ = some (.string nm):=(hb1.cell (p:=⟨w.heap.size,0,none⟩) (by show w.heap.size < W0.heap.size; rw [zA HZ0]; omega)).trans n0; clear hui hru hro huo hb1 HU n0) | (go_at_call 139; (with_reducible refine (zA HX).mono ?_); rintro e w2 ⟨vd,rfl,hrd,hb2⟩; have HB2:=zB hb2; have hz2:w1.heap.size + 1 <= w2.heap.size:=(by have:=hb2.size; simpa using this); have n2:w2.cell? ⟨w.heap.size,0,none⟩ = some (.string nm):=(hb2.cell (p:=⟨w.heap.size,0,none⟩) (by simp; omega)).trans (((zC w1 _).cell (p:=⟨w.heap.size,0,none⟩) (by show w.heap.size < w1.heap.size; omega)).trans n1); obtain ⟨ad,cd,rfl⟩:∃ a c,vd = .slice a (dst us).length c:=zM hrd; have HRD:=zB hrd; have x0:w2.cell? ⟨w1.heap.size,0,none⟩ = some (.slice au us.length cu):=(hb2.cell (p:=⟨w1.heap.size,0,none⟩) (by simp)).trans (by simp [go_sem]); have x1:w2.cell? ⟨w1.heap.size,1,none⟩ = some (.slice ao os.length co):=(hb2.cell (p:=⟨w1.heap.size,1,none⟩) (by simp)).trans (by simp [go_sem]); have x2:w2.cell? ⟨w1.heap.size,2,none⟩ = some (.string b):=(hb2.cell (p:=⟨w1.heap.size,2,none⟩) (by simp)).trans (by simp [go_sem]); have xf:w2.frozen? ⟨w1.heap.size,0,none⟩ = false:=(hb2.frozen (p:=⟨w1.heap.size,0,none⟩) (by simp)).trans (by simp [go_sem]); clear HX hb2 hrd n1))
 obtain ⟨X,hX⟩:∃ X,X = w1.heap.size:=⟨_,rfl⟩
 obtain ⟨W3,hW3⟩:∃ W3,W3 = w2.setCell ⟨w1.heap.size,0,none⟩ (.slice ad (dst us).length cd):=⟨_,rfl⟩
 have hz3:W3.heap.size = w2.heap.size:=by rw [hW3]; simp [World.setCell]
 have hb3:Below w.heap.size w W3:=by
  rw [hW3]
  refine Below.setCell (p:=⟨w1.heap.size,0,none⟩) ?_ (by show w.heap.size <= w1.heap.size; omega) _
  exact ((zA HB0).trans ((zA HB1).mono (by rw [zA HZ0]; omega))).trans (((zC _ _).mono (by omega)).trans ((zA HB2).mono (by simp; omega)))
 have y0:W3.cell? ⟨X,0,none⟩ = some (.slice ad (dst us).length cd):=by rw [hW3,hX]; exact World.cell?_setCell_same _ _ _ x0
 have y1:W3.cell? ⟨X,1,none⟩ = some (.slice ao os.length co):=by rw [hW3,hX]; exact (World.cell?_setCell_other _ _ _ _ (by simp)).trans x1
 have y2:W3.cell? ⟨X,2,none⟩ = some (.string b):=by rw [hW3,hX]; exact (World.cell?_setCell_other _ _ _ _ (by simp)).trans x2
 have n3:W3.cell? ⟨w.heap.size,0,none⟩ = some (.string nm):=by rw [hW3]; exact (World.cell?_setCell_other _ _ _ _ (by intro x; injection x with x; omega)).trans n2
 have p3:W3.cell? ⟨P,1,none⟩ = some (.slice a1 vs.length c1):=(hb3.cell (p:=⟨P,1,none⟩) hPl).trans d1
 have sg:w2.grownBy W3 (some w1.heap.size):=by rw [hW3]; exact ze _ _ _ _
 have hst:zj W3 (.slice ad (dst us).length cd) (dst us):=(zA HRD).strs.grown sg (fun g e x=>by injection x with x; have:=((zA HRD).lt g e).1; simp at this; omega)
 have hot:ZC W3 (.slice ao os.length co) os:=(((zA HRO).ops.below (zC _ _)).below (zA HB2)).grown sg (fun g e x=>by injection x with x; have:=((zA HRO).lt g e).2; omega)
 have hdl:∀ g,(Value.slice ad (dst us).length cd).ownBlock = some g -> w.heap.size <= g /\ g < W3.heap.size:=fun g e=>by have:=(zA HRD).lt g e; simp at this; omega
 have hol':∀ g,(Value.slice ao os.length co).ownBlock = some g -> w.heap.size <= g /\ g < W3.heap.size:=fun g e=>by have:=(zA HRO).lt g e; rw [zA HZ0] at this; omega
 have hXl:X < W3.heap.size:=by omega
 have hXP:X ≠ P:=by omega
 have hwX:w.heap.size < X:=by omega
 have HFIN:=zB (fun (w4:World) (g4 c4:Nat) (ob:Obj)=>zQP (ob:=ob) (x:=⟨.slice ad (dst us).length cd,.slice ao os.length co,b⟩) (w4:=w4) (g4:=g4) (c4:=c4) (zA HPG) hB hH hb3 hst hot rfl hdl hol' n3)
 have HRV:=zB ((zA HPG).row.below hb3)
 have HVN:=zB (show ∀ i,i < w.heap.size + 1 -> B <= i \/ i < B -> True from fun _ _ _=>trivial)
 have hvP:(Value.slice a1 vs.length c1).ownBlock ≠ some P:=fun e=>by have:=((zA HPG).row.lt P e).1; omega
 have hvX:(Value.slice a1 vs.length c1).ownBlock ≠ some X:=fun e=>by have:=((zA HPG).row.lt X e).2; omega
 have HNP:=zB (And.intro hvP hvX)
 have pf:=(hb3.frozen (p:=⟨P,1,none⟩) hPl).trans ((zA HPG).fz 1)
 rw [<- hW3,<- hX]
 have hW3l:P < W3.heap.size:=by omega
 have HDL:=zB (show (dst us).length <= 20001 from (by have:=zEe us []; simp at this; unfold dst; omega))
 clear hX hW3 x0 x1 x2 xf n2 hb3 sg hst hot hdl hol' HRD HB2 HVN hvP hvX d1 c0 m0 m1 hz3
 have k6:∀ o',(W3.alloc o').drew.cell? ⟨P,1,none⟩ = some (.slice a1 vs.length c1):=fun o'=>((zC W3 o').cell (p:=⟨P,1,none⟩) hW3l).trans p3
 have hS0:(fun W:World=>W.cell? ⟨X,0,none⟩ = some (.slice ad (dst us).length cd) /\ W.cell? ⟨X,1,none⟩ = some (.slice ao os.length co) /\ W.cell? ⟨X,2,none⟩ = some (.string b)) W3.drew:=⟨y0,y1,y2⟩
 have HS1:=zB (show (fun W:World=>W.cell? ⟨X,0,none⟩ = some (.slice ad (dst us).length cd) /\ W.cell? ⟨X,1,none⟩ = some (.slice ao os.length co) /\ W.cell? ⟨X,2,none⟩ = some (.string b)) (W3.alloc (.cells #[.slice ad (dst us).length cd,.slice ao os.length co,.string b] 64)).drew from ⟨((zC W3 _).cell (p:=⟨X,0,none⟩) hXl).trans y0,((zC W3 _).cell (p:=⟨X,1,none⟩) hXl).trans y1,((zC W3 _).cell (p:=⟨X,2,none⟩) hXl).trans y2⟩)
 refine wp_region_held_drew (S:=fun W:World=>W.cell? ⟨X,0,none⟩ = some (.slice ad (dst us).length cd) /\ W.cell? ⟨X,1,none⟩ = some (.slice ao os.length co) /\ W.cell? ⟨X,2,none⟩ = some (.string b)) (by kernel_rfl) hS0 (fun _=>?_)
 refine wpAnyH_take (i:=0) (v:=?_) rfl (by kernel_rfl) (by kernel_rfl) (by kernel_rfl) (fun _ _ _ h=>h) (Or.inl ⟨by rfl,?_⟩) hS0 ?_
 rotate_left
 ·intro W hW; obtain ⟨s0,s1,s2⟩:=hW; simp only [List.getElem_toArray,List.getElem_cons_succ,List.getElem_cons_zero]; go_simp; first | done | (with_reducible rfl)
 simp only [List.getElem_toArray,List.getElem_cons_succ,List.getElem_cons_zero]
 simp only [Act.put,List.setIfInBounds_toArray,List.set_cons_zero,List.set_cons_succ]
 refine wpAnyH_take (i:=1) (v:=?_) rfl (by kernel_rfl) (by kernel_rfl) (by kernel_rfl) (fun _ _ _ h=>h) (Or.inl ⟨by rfl,?_⟩) hS0 ?_
 rotate_left
 ·intro W hW; obtain ⟨s0,s1,s2⟩:=hW; simp only [List.getElem_toArray,List.getElem_cons_succ,List.getElem_cons_zero]; go_simp; first | done | (with_reducible rfl)
 simp only [List.getElem_toArray,List.getElem_cons_succ,List.getElem_cons_zero]
 simp only [Act.put,List.setIfInBounds_toArray,List.set_cons_zero,List.set_cons_succ]
 refine wpAnyH_take (i:=2) (v:=?_) rfl (by kernel_rfl) (by kernel_rfl) (by kernel_rfl) (fun _ _ _ h=>h) (Or.inl ⟨by rfl,?_⟩) hS0 ?_
 rotate_left
 ·intro W hW; obtain ⟨s0,s1,s2⟩:=hW; simp only [List.getElem_toArray,List.getElem_cons_succ,List.getElem_cons_zero]; go_simp; first | done | (with_reducible rfl)
 simp only [List.getElem_toArray,List.getElem_cons_succ,List.getElem_cons_zero]
 simp only [Act.put,List.setIfInBounds_toArray,List.set_cons_zero,List.set_cons_succ]
 refine wpAnyH_take (i:=3) (v:=?_) rfl (by kernel_rfl) (by kernel_rfl) (by kernel_rfl) (fun _ _ _ h=>h) (Or.inl ⟨by rfl,?_⟩) hS0 ?_
 rotate_left
 ·intro W hW; obtain ⟨s0,s1,s2⟩:=hW; simp only [List.getElem_toArray,List.getElem_cons_succ,List.getElem_cons_zero]; go_simp; first | done | (with_reducible rfl)
 simp only [List.getElem_toArray,List.getElem_cons_succ,List.getElem_cons_zero]
 simp only [Act.put,List.setIfInBounds_toArray,List.set_cons_zero,List.set_cons_succ]
 refine wpAnyH_take (i:=5) (v:=?_) rfl (by kernel_rfl) (by kernel_rfl) (by kernel_rfl) (fun _ _ _ h=>h) (Or.inl ⟨by rfl,?_⟩) hS0 ?_
 rotate_left
 ·intro W hW; obtain ⟨s0,s1,s2⟩:=hW; simp only [List.getElem_toArray,List.getElem_cons_succ,List.getElem_cons_zero]; go_simp; first | done | (with_reducible rfl)
 simp only [List.getElem_toArray,List.getElem_cons_succ,List.getElem_cons_zero]
 simp only [Act.put,List.setIfInBounds_toArray,List.set_cons_zero,List.set_cons_succ]
 refine wpAnyH_ready (rs:=[4,6]) (by kernel_rfl) (by simp) ?_
 refine AllReadyH.cons rfl (fun K hK=>?_) (AllReadyH.cons rfl (fun K hK=>?_) AllReadyH.nil)
 ·simp only [List.getElem_toArray,List.getElem_cons_succ,List.getElem_cons_zero]
  go_simp
  refine hK.out _ _ hS0 (fun _=>?_)
  clear hK
  refine wpAnyH_ready (rs:=[6]) (by kernel_rfl) (by simp) ?_
  refine AllReadyH.cons rfl (fun K hK=>?_) AllReadyH.nil
  simp only [List.getElem_toArray,List.getElem_cons_succ,List.getElem_cons_zero]
  go_simp
  refine hK.out _ _ (zA HS1) (fun _=>?_)
  clear hK
  refine wpAnyH_ready (rs:=[7]) (by kernel_rfl) (by simp) ?_
  refine AllReadyH.cons rfl (fun K hK=>?_) AllReadyH.nil
  refine step_append_lies _ (by rfl) (.tmp 31) (.tmp 33) 52 (by rfl) B 64 i0 _ 3 64 Tryz.underlying52 (zA HI) (zA HZ).1 (zA HZ).2.1 (zA HZ).2.2 rfl (by decide) _ vs.length (ZO vs) (by rfl) ((zA HRV).below ((zC _ _).drew)) ⟨W3.heap.size,0,none⟩ 1 1 (ZO [⟨.slice ad (dst us).length cd,.slice ao os.length co,b⟩]) (by rfl) rfl (fun j u hj=>(by simpa using zEj W3 ⟨.slice ad (dst us).length cd,.slice ao os.length co,b⟩ j u hj)) (fun u hu=>by simp [ZO] at hu; rcases hu with rfl | rfl | rfl <;> rfl) (by decide) (by unfold maxLen; omega) (by omega) (by simp; omega) _ rfl ?_
  intro g4 c4 w4 hown4 hgrow4 hat4 hlt4
  have m2:w4.cell? ⟨P,1,none⟩ = some (.slice a1 vs.length c1):=(zE hgrow4 (b:=P) (by simp; omega) (zA HNP).1 1).trans (k6 _)
  have m3:w4.frozen? ⟨P,1,none⟩ = false:=(zU hgrow4 (b:=P) (by simp; omega) (zA HNP).1 1).trans (((zC W3 _).frozen (p:=⟨P,1,none⟩) hW3l).trans pf)
  have ec:=fun j=>zE hgrow4 (b:=X) (by simp; omega) (zA HNP).2 j
  have e0:w4.cell? ⟨X,0,none⟩ = some (.slice ad (dst us).length cd):=(ec 0).trans (zA HS1).1
  have e1:w4.cell? ⟨X,1,none⟩ = some (.slice ao os.length co):=(ec 1).trans (zA HS1).2.1
  have e2:w4.cell? ⟨X,2,none⟩ = some (.string b):=(ec 2).trans (zA HS1).2.2
  have HF4:=zB ((zA HFIN) _ _ _ _ hown4 hgrow4 hat4)
  clear hown4 hgrow4 hat4 hlt4 ec
  refine hK.out _ _ ⟨e0,e1,e2⟩ (fun hS4=>?_)
  clear hK
  simp only [List.getElem_toArray,List.getElem_cons_succ,List.getElem_cons_zero]
  simp only [Act.put,List.setIfInBounds_toArray,List.set_cons_zero,List.set_cons_succ]
  refine wpAnyH_take (i:=8) (v:=?_) rfl (by kernel_rfl) (by kernel_rfl) (by kernel_rfl) (fun _ _ _ h=>h) (Or.inl ⟨by rfl,?_⟩) hS4 ?_
  rotate_left
  ·intro W hW; obtain ⟨s0,s1,s2⟩:=hW; simp only [List.getElem_toArray,List.getElem_cons_succ,List.getElem_cons_zero]; go_simp; first | done | (with_reducible rfl)
  simp only [List.getElem_toArray,List.getElem_cons_succ,List.getElem_cons_zero]
  simp only [Act.put,List.setIfInBounds_toArray,List.set_cons_zero,List.set_cons_succ]
  refine wpAnyH_take (i:=9) (v:=?_) rfl (by kernel_rfl) (by kernel_rfl) (by kernel_rfl) (fun _ _ _ h=>h) (Or.inl ⟨by rfl,?_⟩) hS4 ?_
  rotate_left
  ·intro W hW; obtain ⟨s0,s1,s2⟩:=hW; simp only [List.getElem_toArray,List.getElem_cons_succ,List.getElem_cons_zero]; go_simp; first | done | (with_reducible rfl)
  simp only [List.getElem_toArray,List.getElem_cons_succ,List.getElem_cons_zero]
  simp only [Act.put,List.setIfInBounds_toArray,List.set_cons_zero,List.set_cons_succ]
  refine wpAnyH_ready (rs:=[10]) (by kernel_rfl) (by simp) ?_
  refine AllReadyH.cons rfl (fun K hK=>?_) AllReadyH.nil
  simp only [List.getElem_toArray,List.getElem_cons_succ,List.getElem_cons_zero]
  go_simp
  refine hK.out _ _ ⟨by rw [World.cell?_setCell_other _ _ _ _ (by simp [hXP])]; exact e0,by rw [World.cell?_setCell_other _ _ _ _ (by simp [hXP])]; exact e1,by rw [World.cell?_setCell_other _ _ _ _ (by simp [hXP])]; exact e2⟩ (fun hS5=>?_)
  clear hK
  refine wpAnyH_done (by kernel_rfl) ?_ _
  clear hS4 hS5
  obtain ⟨f1,f2,f3,f4⟩:=zA HF4
  obtain ⟨w5,hw5⟩:∃ w5,w5 = w4.setCell ⟨P,1,none⟩ (.slice (some ⟨g4,0,none⟩) (vs.length + 1) c4):=⟨_,rfl⟩
  rw [<- hw5] at f1 f2 f3
  rw [<- hw5]
  have HEND:=zB (fun (e:Ending) (hr:zB0 e (¬ B2 ms k))=>show zKr w H B P bs (some ⟨bA,off,none⟩) cm ms (.slice a1 vs.length c1) vs U k e w5 from ⟨hr,f2,_,us,os,b,cc,l,_,by rw [<- zA HSE]; exact zA HUI,f1,f4⟩)
  have HUI':=zB (show zq (atM ms k).t us os b cc l by rw [<- zA HSE]; exact zA HUI)
  have HWRD:=zB (show Calls Tryz.prog 140 #[.int .i64 3,.string nm] w5 fun e w'=>zB0 e (zDb 3 nm) /\ w' = w5 from zDo 3 nm w5 hs')
  clear f1 f2 f4 hw5 HF4 HFIN hS0 HS1 k6 e0 e1 e2 m2 m3 y0 y1 y2 p3 n3 pf
  by_cases hcc:cc = 0
  ·subst hcc
   by_cases h64:nm.size <= 64
   ·have h64I:(nm.size:Int) <= 64:=by omega
    go_wp2_with (first | (go_at_call 140; (with_reducible refine (zA HWRD).mono ?_); rintro e w6 ⟨⟨v,rfl,hv⟩,hx⟩; obtain rfl:=hx.symm; have HV:=zB hv; clear hv hx))
    go_ret
    refine (zA HEND) _ ⟨v,rfl,?_⟩
    have hv:=zA HV
    unfold zC1 at hv ⊢
    rw [hv,zLD]
    exact ⟨fun h=>zPp (zA HUI') rfl (by rw [<- zA HNE]; exact h64) (by rw [<- zA HNE]; exact h),fun h=>by by_cases x:zAx nm; exact x; exact absurd (Or.inr (Or.inl (by rw [<- zA HNE]; exact x))) h⟩
   ·have h64I:¬ (nm.size:Int) <= 64:=by omega
    have HNO:=zB (show B2 ms k from Or.inr (Or.inr (by rw [<- zA HNE]; omega)))
    go_wp2_with fail
    go_ret
    exact (zA HEND) _ ⟨false,rfl,ZA (fun h=>h (zA HNO))⟩
  ·have hccB:(cc == 0) = false:=by simpa using hcc
   have HNO:=zB (show B2 ms k from Or.inl ⟨us,os,b,cc,l,zA HUI',hcc⟩)
   clear hcc
   go_wp2_with fail
   go_ret
   exact (zA HEND) _ ⟨false,rfl,ZA (fun h=>h (zA HNO))⟩
 ·simp only [List.getElem_toArray,List.getElem_cons_succ,List.getElem_cons_zero]
  go_simp
  refine hK.out _ _ (zA HS1) (fun _=>?_)
  clear hK
  refine wpAnyH_ready (rs:=[4]) (by kernel_rfl) (by simp) ?_
  refine AllReadyH.cons rfl (fun K hK=>?_) AllReadyH.nil
  simp only [List.getElem_toArray,List.getElem_cons_succ,List.getElem_cons_zero]
  go_simp
  refine hK.out _ _ (zA HS1) (fun _=>?_)
  clear hK
  refine wpAnyH_ready (rs:=[7]) (by kernel_rfl) (by simp) ?_
  refine AllReadyH.cons rfl (fun K hK=>?_) AllReadyH.nil
  refine step_append_lies _ (by rfl) (.tmp 31) (.tmp 33) 52 (by rfl) B 64 i0 _ 3 64 Tryz.underlying52 (zA HI) (zA HZ).1 (zA HZ).2.1 (zA HZ).2.2 rfl (by decide) _ vs.length (ZO vs) (by rfl) ((zA HRV).below ((zC _ _).drew)) ⟨W3.heap.size,0,none⟩ 1 1 (ZO [⟨.slice ad (dst us).length cd,.slice ao os.length co,b⟩]) (by rfl) rfl (fun j u hj=>(by simpa using zEj W3 ⟨.slice ad (dst us).length cd,.slice ao os.length co,b⟩ j u hj)) (fun u hu=>by simp [ZO] at hu; rcases hu with rfl | rfl | rfl <;> rfl) (by decide) (by unfold maxLen; omega) (by omega) (by simp; omega) _ rfl ?_
  intro g4 c4 w4 hown4 hgrow4 hat4 hlt4
  have m2:w4.cell? ⟨P,1,none⟩ = some (.slice a1 vs.length c1):=(zE hgrow4 (b:=P) (by simp; omega) (zA HNP).1 1).trans (k6 _)
  have m3:w4.frozen? ⟨P,1,none⟩ = false:=(zU hgrow4 (b:=P) (by simp; omega) (zA HNP).1 1).trans (((zC W3 _).frozen (p:=⟨P,1,none⟩) hW3l).trans pf)
  have ec:=fun j=>zE hgrow4 (b:=X) (by simp; omega) (zA HNP).2 j
  have e0:w4.cell? ⟨X,0,none⟩ = some (.slice ad (dst us).length cd):=(ec 0).trans (zA HS1).1
  have e1:w4.cell? ⟨X,1,none⟩ = some (.slice ao os.length co):=(ec 1).trans (zA HS1).2.1
  have e2:w4.cell? ⟨X,2,none⟩ = some (.string b):=(ec 2).trans (zA HS1).2.2
  have HF4:=zB ((zA HFIN) _ _ _ _ hown4 hgrow4 hat4)
  clear hown4 hgrow4 hat4 hlt4 ec
  refine hK.out _ _ ⟨e0,e1,e2⟩ (fun hS4=>?_)
  clear hK
  simp only [List.getElem_toArray,List.getElem_cons_succ,List.getElem_cons_zero]
  simp only [Act.put,List.setIfInBounds_toArray,List.set_cons_zero,List.set_cons_succ]
  refine wpAnyH_take (i:=8) (v:=?_) rfl (by kernel_rfl) (by kernel_rfl) (by kernel_rfl) (fun _ _ _ h=>h) (Or.inl ⟨by rfl,?_⟩) hS4 ?_
  rotate_left
  ·intro W hW; obtain ⟨s0,s1,s2⟩:=hW; simp only [List.getElem_toArray,List.getElem_cons_succ,List.getElem_cons_zero]; go_simp; first | done | (with_reducible rfl)
  simp only [List.getElem_toArray,List.getElem_cons_succ,List.getElem_cons_zero]
  simp only [Act.put,List.setIfInBounds_toArray,List.set_cons_zero,List.set_cons_succ]
  refine wpAnyH_take (i:=9) (v:=?_) rfl (by kernel_rfl) (by kernel_rfl) (by kernel_rfl) (fun _ _ _ h=>h) (Or.inl ⟨by rfl,?_⟩) hS4 ?_
  rotate_left
  ·intro W hW; obtain ⟨s0,s1,s2⟩:=hW; simp only [List.getElem_toArray,List.getElem_cons_succ,List.getElem_cons_zero]; go_simp; first | done | (with_reducible rfl)
  simp only [List.getElem_toArray,List.getElem_cons_succ,List.getElem_cons_zero]
  simp only [Act.put,List.setIfInBounds_toArray,List.set_cons_zero,List.set_cons_succ]
  refine wpAnyH_ready (rs:=[10]) (by kernel_rfl) (by simp) ?_
  refine AllReadyH.cons rfl (fun K hK=>?_) AllReadyH.nil
  simp only [List.getElem_toArray,List.getElem_cons_succ,List.getElem_cons_zero]
  go_simp
  refine hK.out _ _ ⟨by rw [World.cell?_setCell_other _ _ _ _ (by simp [hXP])]; exact e0,by rw [World.cell?_setCell_other _ _ _ _ (by simp [hXP])]; exact e1,by rw [World.cell?_setCell_other _ _ _ _ (by simp [hXP])]; exact e2⟩ (fun hS5=>?_)
  clear hK
  refine wpAnyH_done (by kernel_rfl) ?_ _
  clear hS4 hS5
  obtain ⟨f1,f2,f3,f4⟩:=zA HF4
  obtain ⟨w5,hw5⟩:∃ w5,w5 = w4.setCell ⟨P,1,none⟩ (.slice (some ⟨g4,0,none⟩) (vs.length + 1) c4):=⟨_,rfl⟩
  rw [<- hw5] at f1 f2 f3
  rw [<- hw5]
  have HEND:=zB (fun (e:Ending) (hr:zB0 e (¬ B2 ms k))=>show zKr w H B P bs (some ⟨bA,off,none⟩) cm ms (.slice a1 vs.length c1) vs U k e w5 from ⟨hr,f2,_,us,os,b,cc,l,_,by rw [<- zA HSE]; exact zA HUI,f1,f4⟩)
  have HUI':=zB (show zq (atM ms k).t us os b cc l by rw [<- zA HSE]; exact zA HUI)
  have HWRD:=zB (show Calls Tryz.prog 140 #[.int .i64 3,.string nm] w5 fun e w'=>zB0 e (zDb 3 nm) /\ w' = w5 from zDo 3 nm w5 hs')
  clear f1 f2 f4 hw5 HF4 HFIN hS0 HS1 k6 e0 e1 e2 m2 m3 y0 y1 y2 p3 n3 pf
  by_cases hcc:cc = 0
  ·subst hcc
   by_cases h64:nm.size <= 64
   ·have h64I:(nm.size:Int) <= 64:=by omega
    go_wp2_with (first | (go_at_call 140; (with_reducible refine (zA HWRD).mono ?_); rintro e w6 ⟨⟨v,rfl,hv⟩,hx⟩; obtain rfl:=hx.symm; have HV:=zB hv; clear hv hx))
    go_ret
    refine (zA HEND) _ ⟨v,rfl,?_⟩
    have hv:=zA HV
    unfold zC1 at hv ⊢
    rw [hv,zLD]
    exact ⟨fun h=>zPp (zA HUI') rfl (by rw [<- zA HNE]; exact h64) (by rw [<- zA HNE]; exact h),fun h=>by by_cases x:zAx nm; exact x; exact absurd (Or.inr (Or.inl (by rw [<- zA HNE]; exact x))) h⟩
   ·have h64I:¬ (nm.size:Int) <= 64:=by omega
    have HNO:=zB (show B2 ms k from Or.inr (Or.inr (by rw [<- zA HNE]; omega)))
    go_wp2_with fail
    go_ret
    exact (zA HEND) _ ⟨false,rfl,ZA (fun h=>h (zA HNO))⟩
  ·have hccB:(cc == 0) = false:=by simpa using hcc
   have HNO:=zB (show B2 ms k from Or.inl ⟨us,os,b,cc,l,zA HUI',hcc⟩)
   clear hcc
   go_wp2_with fail
   go_ret
   exact (zA HEND) _ ⟨false,rfl,ZA (fun h=>h (zA HNO))⟩
end Go.Proofs.YtokabkhnidlcnacGreatDoor
