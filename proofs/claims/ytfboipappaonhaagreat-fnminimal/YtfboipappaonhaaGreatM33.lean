import Derived.Deep.AppendLies
import Derived.Deep.RegionHeldLaw
import Derived.Test.YtfboipappaonhaaGreatM00
import Derived.Test.YtfboipappaonhaaGreatM06
import Derived.Test.YtfboipappaonhaaGreatM24
import Derived.Test.YtfboipappaonhaaGreatM29
import Derived.Test.YtfboipappaonhaaGreatM32
namespace Go.Proofs.YtfboipappaonhaaGreat
set_option maxHeartbeats 16000000
set_option maxRecDepth 100000
open Go.RowKit Go.Maps
theorem zID (bo bs n:Nat) (xs:List OpR) (t:ByteArray) (w:World) (hi:Idx w bo bs xs n) (hn:n = xs.length) (hk:zJn xs) (ht:t.size <= maxLen) :
  Calls Tryz.prog 129 #[.agg #[.map (some bo),.map (some bs)],.string t] w fun e w'=>zB3 e (opT xs t) /\ Below w.heap.size w w':=by
 subst hn
 obtain ⟨⟨D,hown,hD⟩,_,_⟩:=hi
 have H1:=zB (hD _ _ ht zNm).1
 have H2:=zB (hD _ _ ht zNn).1
 have H3:=zB (hD _ _ ht zNo).1
 have HK:=zB (zKM (t:=t) hk)
 have HO:=zB hown
 clear hD hown hk
 go_enter Tryz.func129,Tryz.ntmps129
 go_wp2_with fail
 refine (zBq bo bs xs.length D t 1 _ ((zA HO).alloc _) ht (by decide)).mono ?_
 rintro e w1 ⟨rfl,hb1⟩
 have bel1:Below w.heap.size w w1:=(zC _ _).trans (hb1.mono (by simp))
 have z1:w.heap.size < w1.heap.size:=by have:=hb1.size; simp at this; omega
 have c0:w1.cell? ⟨w.heap.size,0,none⟩ = some (.map (some bo)):=by rw [hb1.cell (p:=⟨w.heap.size,0,none⟩) (by simp)]; simp [go_sem]
 have c1:w1.cell? ⟨w.heap.size,1,none⟩ = some (.map (some bs)):=by rw [hb1.cell (p:=⟨w.heap.size,1,none⟩) (by simp)]; simp [go_sem]
 have HO1:=zB (((zA HO).alloc (.cells #[.map (some bo),.map (some bs)] 69)).kept (w':=w1) (row:=none) ⟨hb1.os,hb1.tape,hb1.output,hb1.size,fun i hi _=>hb1.block i hi⟩ (by simp))
 clear HO hb1
 cases h1:Maps.has D (klO t 1)
 case true=>
  have G1:=zB h1
  go_wp2_with fail
  go_ret
  exact ⟨⟨true,rfl,⟨fun _=>(zA HK).2 (Or.inl ((zA H1).1 (zA G1))),fun _=>rfl⟩⟩,bel1⟩
 have G1:=zB h1
 go_wp2_with fail
 refine (zBq bo bs xs.length D t 2 _ (zA HO1) ht (by decide)).mono ?_
 rintro e w2 ⟨rfl,hb2⟩
 have bel2:=bel1.trans (hb2.mono bel1.size)
 have d0:w2.cell? ⟨w.heap.size,0,none⟩ = some (.map (some bo)):=(hb2.cell (p:=⟨w.heap.size,0,none⟩) z1).trans c0
 have d1:w2.cell? ⟨w.heap.size,1,none⟩ = some (.map (some bs)):=(hb2.cell (p:=⟨w.heap.size,1,none⟩) z1).trans c1
 have HO2:=zB ((zA HO1).kept (w':=w2) (row:=none) ⟨hb2.os,hb2.tape,hb2.output,hb2.size,fun i hi _=>hb2.block i hi⟩ (by simp))
 clear HO1 hb2 c0 c1
 cases h2:Maps.has D (klO t 2)
 case true=>
  have G2:=zB h2
  go_wp2_with fail
  go_ret
  exact ⟨⟨true,rfl,⟨fun _=>(zA HK).2 (Or.inr (Or.inl ((zA H2).1 (zA G2)))),fun _=>rfl⟩⟩,bel2⟩
 have G2:=zB h2
 go_wp2_with fail
 refine (zBq bo bs xs.length D t 3 _ (zA HO2) ht (by decide)).mono ?_
 rintro e w3 ⟨rfl,hb3⟩
 have bel3:=bel2.trans (hb3.mono bel2.size)
 clear h1 h2
 go_wp2_with fail
 go_ret
 refine ⟨⟨_,rfl,?_⟩,bel3⟩
 unfold zIW
 rw [zA HK,<- zA H1,<- zA H2,<- zA H3,zA G1,zA G2]
 simp
end Go.Proofs.YtfboipappaonhaaGreat
namespace Go.Proofs.YtfboipappaonhaaGreat
set_option linter.unusedSimpArgs false
set_option maxHeartbeats 16000000
set_option maxRecDepth 100000
open Go.RowKit Go.Maps
structure Ft (w:World) (p bo bs:Nat) (bh:Bool) (op:Nat):Prop where
 c0:w.cell? ⟨p,0,none⟩ = some (.map (some bo))
 c1:w.cell? ⟨p,1,none⟩ = some (.map (some bs))
 c2:w.cell? ⟨p,2,none⟩ = some (.bool bh)
 c3:w.cell? ⟨p,3,none⟩ = some (.int .i64 (op:Int))
 fz:∀ o,w.frozen? ⟨p,o,none⟩ = false
theorem zFd (bo bs n:Nat) (xs:List OpR) (t:ByteArray) (kd:Int) (w:World) (hi:Idx w bo bs xs n) (hn:n = xs.length) (ht:t.size <= maxLen) (hk:(Lit.int .i64 kd).wf = true) :
  Calls Tryz.prog 123 #[.agg #[.map (some bo),.map (some bs)],.string t,.int .i64 kd] w fun e w'=>e = .returned (.bool (ZM xs t kd)) /\ Below w.heap.size w w':=by
 subst hn
 obtain ⟨⟨D,hown,hD⟩,_,_⟩:=hi
 refine (zBq bo bs xs.length D t kd w hown ht hk).mono ?_
 rintro e w' ⟨rfl,hb⟩
 refine ⟨?_,hb⟩
 have h:=(hD t kd ht hk).1
 have:Maps.has D (klO t kd) = ZM xs t kd:=by
  rw [Bool.eq_iff_iff,h,Z7]
  rfl
 rw [this]
theorem Ft.kept {w w':World} {p bo bs op:Nat} {bh:Bool} (h:Ft w p bo bs bh op) (hb:Below w.heap.size w w'):Ft w' p bo bs bh op:=by
 have hp:p < w.heap.size:=block_lt_of_cell h.c0
 have e:=fun o=>hb.cell (p:=⟨p,o,none⟩) hp
 exact ⟨(e _).trans h.c0,(e _).trans h.c1,(e _).trans h.c2,(e _).trans h.c3,fun o=>(hb.frozen (p:=⟨p,o,none⟩) hp).trans (h.fz o)⟩
theorem Ft.set2 {w:World} {p bo bs op:Nat} {bh:Bool} (h:Ft w p bo bs bh op) (b':Bool):Ft (w.setCell ⟨p,2,none⟩ (.bool b')) p bo bs b' op:=
 ⟨(World.cell?_setCell_other _ _ _ _ (by simp)).trans h.c0,(World.cell?_setCell_other _ _ _ _ (by simp)).trans h.c1,World.cell?_setCell_same _ _ _ h.c2,(World.cell?_setCell_other _ _ _ _ (by simp)).trans h.c3,fun o=>(World.frozen?_setCell _ _ _ _).trans (h.fz o)⟩
theorem Ft.set3 {w:World} {p bo bs op:Nat} {bh:Bool} (h:Ft w p bo bs bh op) (op':Nat) (n:Int) (hn:n = (op':Int)):Ft (w.setCell ⟨p,3,none⟩ (.int .i64 n)) p bo bs bh op':=by
 subst hn
 exact ⟨(World.cell?_setCell_other _ _ _ _ (by simp)).trans h.c0,(World.cell?_setCell_other _ _ _ _ (by simp)).trans h.c1,(World.cell?_setCell_other _ _ _ _ (by simp)).trans h.c2,World.cell?_setCell_same _ _ _ h.c3,fun o=>(World.frozen?_setCell _ _ _ _).trans (h.fz o)⟩
theorem zCB (w:World) (p o:Nat) (v:Value):zE w (w.setCell ⟨p,o,none⟩ v) p:=Zb [v] o w
def zHP (xs:List OpR) (t:zS) (bh:Bool) (op:Nat) (role:Int) (w w':World) (p bo bs:Nat):Prop:=
 (0 <= role -> Ft w' p bo bs (zBg xs t bh) (zBW t op)) /\ zE w w' p
theorem zFe (p bo bs op:Nat) (last:Bool) (xs:List OpR) (t:zS) (w:World) (h:Ft w p bo bs false op) (hi:Idx w bo bs xs xs.length) (ht:t.t.size <= maxLen) (hop:op <= 1048576) :
  Calls Tryz.prog 161 #[.pointer (some ⟨p,0,none⟩),.agg #[.int .i64 t.k,.string t.g,.string t.t]] w fun e w'=>e = .returned (.int .i64 (ZA xs last t false op)) /\ zHP xs t false op (ZA xs last t false op) w w' p bo bs:=by
 have HI:=zB (hi.kept (zC w (.cells #[.int .i64 t.k,.string t.g,.string t.t] 97)))
 have HF:=zB h
 clear hi
 obtain ⟨c0,c1,c2,c3,fz⟩:=h
 have f2:=fz 2
 have f3:=fz 3
 have hp:p < w.heap.size:=block_lt_of_cell c0
 have hk:t.k = 1 \/ t.k = 2 \/ t.k = 4 \/ t.k = 3 \/ (t.k ≠ 1 /\ t.k ≠ 2 /\ t.k ≠ 4 /\ t.k ≠ 3):=by omega
 rcases hk with hk | hk | hk | hk | hk
 ·have hk':=zB hk
  have g1:(t.k == 1) = true:=by simp; omega
  have g2:(t.k == 2) = false:=by simp; omega
  have g4:(t.k == 4) = false:=by simp; omega
  have g3:(t.k == 3) = false:=by simp; omega
  clear hk
  go_enter Tryz.func161,Tryz.ntmps161
  go_wp2_with fail
  go_ret
  refine ⟨zJ (by simp [ZA,zA hk']),fun _=>?_,(zCB w p 2 _).trans (zE.of_below (zC _ _))⟩
  rw [show zBg xs t false = true by simp [zBg,zA hk'],show zBW t op = op by simp [zBW,zA hk']]
  exact ((zA HF).set2 true).kept (zC _ _)
 ·have hk':=zB hk
  have g1:(t.k == 1) = false:=by simp; omega
  have g2:(t.k == 2) = true:=by simp; omega
  have g4:(t.k == 4) = false:=by simp; omega
  have g3:(t.k == 3) = false:=by simp; omega
  clear hk
  go_enter Tryz.func161,Tryz.ntmps161
  go_wp2_with fail
  go_ret
  refine ⟨zJ (by simp [ZA,zA hk']),fun _=>?_,(zCB w p 2 _).trans (zE.of_below (zC _ _))⟩
  rw [show zBg xs t false = true by simp [zBg,zA hk'],show zBW t op = op by simp [zBW,zA hk']]
  exact ((zA HF).set2 true).kept (zC _ _)
 ·have hk':=zB hk
  have g1:(t.k == 1) = false:=by simp; omega
  have g2:(t.k == 2) = false:=by simp; omega
  have g4:(t.k == 4) = true:=by simp; omega
  have g3:(t.k == 3) = false:=by simp; omega
  clear hk
  go_enter Tryz.func161,Tryz.ntmps161
  go_wp2_with fail
  go_ret
  refine ⟨zJ (by simp [ZA,zA hk']),fun _=>?_,(zCB w p 3 _).trans (zE.of_below (zC _ _))⟩
  rw [show zBg xs t false = false by simp [zBg,zA hk'],show zBW t op = op + 1 by simp [zBW,zA hk']]
  exact ((zA HF).set3 (op + 1) _ (by omega)).kept (zC _ _)
 ·have hk':=zB hk
  have g1:(t.k == 1) = false:=by simp; omega
  have g2:(t.k == 2) = false:=by simp; omega
  have g4:(t.k == 4) = false:=by simp; omega
  have g3:(t.k == 3) = true:=by simp; omega
  clear hk
  have d0:=((zC w (.cells #[.int .i64 t.k,.string t.g,.string t.t] 97)).cell (p:=⟨p,0,none⟩) hp).trans c0
  have d1:=((zC w (.cells #[.int .i64 t.k,.string t.g,.string t.t] 97)).cell (p:=⟨p,1,none⟩) hp).trans c1
  have e2:(w.alloc (.cells #[.int .i64 t.k,.string t.g,.string t.t] 97)).cell? ⟨w.heap.size,2,none⟩ = some (.string t.t):=by simp [go_sem]
  have hz:p < (w.alloc (.cells #[.int .i64 t.k,.string t.g,.string t.t] 97)).heap.size:=by simp; omega
  have hz':w.heap.size < (w.alloc (.cells #[.int .i64 t.k,.string t.g,.string t.t] 97)).heap.size:=by simp
  go_enter Tryz.func161,Tryz.ntmps161
  go_wp2_with fail
  go_region_held (fun w'=>w'.cell? ⟨p,0,none⟩ = some (.map (some bo)) /\ w'.cell? ⟨p,1,none⟩ = some (.map (some bs)) /\ w'.cell? ⟨w.heap.size,2,none⟩ = some (.string t.t)) (go_keep) (first | (go_at_call 123; refine (zFd bo bs xs.length xs t.t 1 _ ((zA HI).kept (Below.refl _ _).drew) rfl ht (by decide)).mono ?_; rintro e w2 ⟨rfl,hb2⟩; have q0:=(hb2.cell (p:=⟨p,0,none⟩) hz).trans (show (w.alloc (.cells #[.int .i64 t.k,.string t.g,.string t.t] 97)).drew.cell? ⟨p,0,none⟩ = _ from d0); have q1:=(hb2.cell (p:=⟨p,1,none⟩) hz).trans (show (w.alloc (.cells #[.int .i64 t.k,.string t.g,.string t.t] 97)).drew.cell? ⟨p,1,none⟩ = _ from d1); have q2:=(hb2.cell (p:=⟨w.heap.size,2,none⟩) hz').trans (show (w.alloc (.cells #[.int .i64 t.k,.string t.g,.string t.t] 97)).drew.cell? ⟨w.heap.size,2,none⟩ = _ from e2); have HB2:=zB hb2; clear hb2))
  have hbel:Below w.heap.size w w2:=(zC w (.cells #[.int .i64 t.k,.string t.g,.string t.t] 97)).trans (((Below.refl _ _).drew.trans (zA HB2)).mono (Nat.le_of_lt hz'))
  cases hh:ZM xs t.t 1
  ·have HH:=zB hh
   go_wp2_with fail
   go_ret
   have hr:ZA xs last t false op = -1:=by simp [ZA,zA hk',zA HH]
   exact ⟨zJ hr.symm,fun h0=>absurd h0 (by rw [hr]; decide),zE.of_below hbel⟩
  ·have HH:=zB hh
   go_wp2_with fail
   go_ret
   refine ⟨zJ (by simp [ZA,zA hk',zA HH]),fun _=>?_,zE.of_below hbel⟩
   rw [show zBg xs t false = false by simp [zBg,zA hk'],show zBW t op = op by simp [zBW,zA hk']]
   exact (zA HF).kept hbel
 ·have hk':=zB hk
  have g1:(t.k == 1) = false:=by simp; omega
  have g2:(t.k == 2) = false:=by simp; omega
  have g4:(t.k == 4) = false:=by simp; omega
  have g3:(t.k == 3) = false:=by simp; omega
  clear hk
  go_enter Tryz.func161,Tryz.ntmps161
  go_wp2_with fail
  go_ret
  have hr:ZA xs last t false op = -1:=by have:=zA hk'; simp [ZA,this]
  exact ⟨zJ hr.symm,fun h0=>absurd h0 (by rw [hr]; decide),zE.of_below (zC _ _)⟩
def zFf (xs:List OpR) (s:ByteArray):Int:=if ZM xs s 2 = true then 2 else if ZM xs s 3 = true then 3 else -1
theorem zIz (p bo bs op:Nat) (xs:List OpR) (s:ByteArray) (w:World) (h:Ft w p bo bs true op) (hi:Idx w bo bs xs xs.length) (ht:s.size <= maxLen) :
  Calls Tryz.prog 167 #[.pointer (some ⟨p,0,none⟩),.string s] w fun e w'=>e = .returned (.int .i64 (zFf xs s)) /\ Hid (Ft w' p bo bs (!ZM xs s 2) op) /\ Hid (zE w w' p):=by
 have HI:=zB hi
 have HF:=zB h
 clear hi
 obtain ⟨c0,c1,c2,c3,fz⟩:=h
 have hp:p < w.heap.size:=block_lt_of_cell c0
 go_enter Tryz.func167,Tryz.ntmps167
 go_wp2_with fail
 refine (zFd bo bs xs.length xs s 2 _ (zA HI) rfl ht (by decide)).mono ?_
 rintro e w1 ⟨rfl,hb1⟩
 have HF1:=zB ((zA HF).kept hb1)
 have HI1:=zB ((zA HI).kept hb1)
 have HB1:=zB hb1
 have d0:=(zA HF1).c0
 have d1:=(zA HF1).c1
 have d2:=(zA HF1).c2
 have g2:=(zA HF1).fz 2
 clear hb1 HF HI
 cases hh:ZM xs s 2
 ·have HH:=zB hh
  go_wp2_with fail
  refine (zFd bo bs xs.length xs s 3 _ (zA HI1) rfl ht (by decide)).mono ?_
  rintro e w2 ⟨rfl,hb2⟩
  have HF2:=zB ((zA HF1).kept hb2)
  have bel2:=(zA HB1).trans (hb2.mono (zA HB1).size)
  cases hh3:ZM xs s 3
  ·have HH3:=zB hh3
   go_wp2_with fail
   go_ret
   exact ⟨zJ (by simp [zFf,zA HH,zA HH3]),by simpa [zA HH] using HF2,zB (zE.of_below bel2)⟩
  ·have HH3:=zB hh3
   go_wp2_with fail
   go_ret
   exact ⟨zJ (by simp [zFf,zA HH,zA HH3]),by simpa [zA HH] using HF2,zB (zE.of_below bel2)⟩
 ·have HH:=zB hh
  go_wp2_with fail
  go_ret
  exact ⟨zJ (by simp [zFf,zA HH]),zB (by rw [zA HH]; exact (zA HF1).set2 false),zB ((zE.of_below (zA HB1)).trans (zCB _ p 2 _))⟩
theorem zFg (p bo bs op:Nat) (last:Bool) (xs:List OpR) (t:zS) (w:World) (h:Ft w p bo bs true op) (hi:Idx w bo bs xs xs.length) (ht:t.t.size <= maxLen) (hop:op <= 1048576) :
  Calls Tryz.prog 160 #[.pointer (some ⟨p,0,none⟩),.agg #[.int .i64 t.k,.string t.g,.string t.t],.bool last] w fun e w'=>e = .returned (.int .i64 (ZA xs last t true op)) /\ zHP xs t true op (ZA xs last t true op) w w' p bo bs:=by
 have HI:=zB (hi.kept (zC w (.cells #[.int .i64 t.k,.string t.g,.string t.t] 97)))
 have HF:=zB (h.kept (zC w (.cells #[.int .i64 t.k,.string t.g,.string t.t] 97)))
 clear hi
 have hp:p < w.heap.size:=block_lt_of_cell h.c0
 have d0:=(zA HF).c0
 have d3:=(zA HF).c3
 have g3:=(zA HF).fz 3
 have hc3:=h.c3
 have hf3:=h.fz 3
 have H0:=zB h
 clear h
 have hk:t.k = 3 \/ t.k = 5 \/ t.k = 7 \/ (t.k ≠ 3 /\ t.k ≠ 5 /\ t.k ≠ 7):=by omega
 rcases hk with hk | hk | hk | hk
 ·have hk':=zB hk
  have k3:(t.k == 3) = true:=by simp; omega
  clear hk
  go_enter Tryz.func160,Tryz.ntmps160
  go_wp2_with fail
  refine (zIz p bo bs op xs t.t _ (zA HF) (zA HI) ht).mono ?_
  rintro e w1 ⟨rfl,hf1,hk1⟩
  go_wp2_with fail
  go_ret
  refine ⟨zJ (by simp [ZA,zFf,zA hk']),fun _=>?_,(zE.of_below (zC _ _)).trans (zA hk1)⟩
  rw [show zBg xs t true = (!ZM xs t.t 2) by cases hb:ZM xs t.t 2 <;> simp [zBg,zA hk',hb],show zBW t op = op by simp [zBW,zA hk']]
  exact zA hf1
 ·have hk':=zB hk
  have k3:(t.k == 3) = false:=by simp; omega
  have k5:(t.k == 5) = true:=by simp; omega
  clear hk
  by_cases ho:0 < op
  ·have HO:=zB ho
   have ho':(0:Int) < (op:Int):=by omega
   go_enter Tryz.func160,Tryz.ntmps160
   go_wp2_with fail
   go_ret
   refine ⟨zJ (by simp [ZA,zA hk',zA HO]),fun _=>?_,?_⟩
   ·rw [show zBg xs t true = true by simp [zBg,zA hk'],show zBW t op = op - 1 by simp [zBW,zA hk']]
    first
     | exact ((zA H0).set3 (op - 1) _ (by omega)).kept (zC _ _)
     | exact (zA HF).set3 (op - 1) _ (by omega)
   ·first
     | exact (zCB w p 3 _).trans (zE.of_below (zC _ _))
     | exact (zE.of_below (zC _ _)).trans (zCB _ p 3 _)
  ·have HO:=zB ho
   have ho':¬ (0:Int) < (op:Int):=by omega
   go_enter Tryz.func160,Tryz.ntmps160
   go_wp2_with fail
   go_ret
   have hr:ZA xs last t true op = -1:=by simp [ZA,zA hk',zA HO]
   exact ⟨zJ hr.symm,fun h0=>absurd h0 (by rw [hr]; decide),zE.of_below (zC _ _)⟩
 ·have hk':=zB hk
  have k3:(t.k == 3) = false:=by simp; omega
  have k5:(t.k == 5) = false:=by simp; omega
  have k7:(t.k == 7) = true:=by simp; omega
  clear hk
  by_cases ho:op = 0
  ·subst ho
   cases last
   ·go_enter Tryz.func160,Tryz.ntmps160
    go_wp2_with fail
    go_ret
    have hr:ZA xs false t true 0 = -1:=by simp [ZA,zA hk']
    exact ⟨zJ hr.symm,fun h0=>absurd h0 (by rw [hr]; decide),zE.of_below (zC _ _)⟩
   ·go_enter Tryz.func160,Tryz.ntmps160
    go_wp2_with fail
    go_ret
    refine ⟨zJ (by simp [ZA,zA hk']),fun _=>?_,zE.of_below (zC _ _)⟩
    rw [show zBg xs t true = true by simp [zBg,zA hk'],show zBW t 0 = 0 by simp [zBW,zA hk']]
    exact zA HF
  ·have HO:=zB ho
   have ho':((op:Int) == 0) = false:=by simp; omega
   go_enter Tryz.func160,Tryz.ntmps160
   go_wp2_with fail
   go_ret
   have hr:ZA xs last t true op = -1:=by simp [ZA,zA hk',zA HO]
   exact ⟨zJ hr.symm,fun h0=>absurd h0 (by rw [hr]; decide),zE.of_below (zC _ _)⟩
 ·have hk':=zB hk
  have k3:(t.k == 3) = false:=by simp; omega
  have k5:(t.k == 5) = false:=by simp; omega
  have k7:(t.k == 7) = false:=by simp; omega
  clear hk
  go_enter Tryz.func160,Tryz.ntmps160
  go_wp2_with fail
  go_ret
  have hr:ZA xs last t true op = -1:=by have:=zA hk'; simp [ZA,this]
  exact ⟨zJ hr.symm,fun h0=>absurd h0 (by rw [hr]; decide),zE.of_below (zC _ _)⟩
theorem zLi (p bo bs op:Nat) (bh last:Bool) (xs:List OpR) (t:zS) (w:World) (h:Ft w p bo bs bh op) (hi:Idx w bo bs xs xs.length) (ht:t.t.size <= maxLen) (hop:op <= 1048576) :
  Calls Tryz.prog 131 #[.pointer (some ⟨p,0,none⟩),.agg #[.int .i64 t.k,.string t.g,.string t.t],.bool last] w fun e w'=>e = .returned (.int .i64 (ZA xs last t bh op)) /\ zHP xs t bh op (ZA xs last t bh op) w w' p bo bs:=by
 have HI:=zB (hi.kept (zC w (.cells #[.int .i64 t.k,.string t.g,.string t.t] 97)))
 have HF:=zB (h.kept (zC w (.cells #[.int .i64 t.k,.string t.g,.string t.t] 97)))
 have hp:p < w.heap.size:=block_lt_of_cell h.c0
 have d2:=(zA HF).c2
 clear hi h
 cases bh
 ·go_enter Tryz.func131,Tryz.ntmps131
  go_wp2_with fail
  refine (zFe p bo bs op last xs t _ (zA HF) (zA HI) ht hop).mono ?_
  rintro e w1 ⟨rfl,hs1,hk1⟩
  have HS1:=zB hs1
  have HK1:=zB hk1
  clear hs1 hk1
  go_wp2_with fail
  go_ret
  exact ⟨rfl,zA HS1,(zE.of_below (zC _ _)).trans (zA HK1)⟩
 ·go_enter Tryz.func131,Tryz.ntmps131
  go_wp2_with fail
  refine (zFg p bo bs op last xs t _ (zA HF) (zA HI) ht hop).mono ?_
  rintro e w1 ⟨rfl,hs1,hk1⟩
  have HS1:=zB hs1
  have HK1:=zB hk1
  clear hs1 hk1
  go_wp2_with fail
  go_ret
  exact ⟨rfl,zA HS1,(zE.of_below (zC _ _)).trans (zA HK1)⟩
end Go.Proofs.YtfboipappaonhaaGreat
namespace Go.Proofs.YtfboipappaonhaaGreat
set_option maxHeartbeats 16000000
set_option maxRecDepth 100000
open Go.RowKit
theorem zBs {xs:List OpR} (h:zO xs 0):zAD xs xs.length:=by
 rcases h with ⟨h,_⟩ | ⟨_,⟨h,_⟩ | ⟨h,_⟩⟩
 ·exact absurd h (by decide)
 ·exact absurd h (by decide)
 ·exact h
end Go.Proofs.YtfboipappaonhaaGreat
