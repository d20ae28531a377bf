import Derived.Test.YtokabkhnidlcnacGreatDoorM14
import Derived.Test.YtokabkhnidlcnacGreatDoorM15
import Derived.Test.YtokabkhnidlcnacGreatDoorM16
import Derived.Test.YtokabkhnidlcnacGreatDoorM29
namespace Go.Proofs.YtokabkhnidlcnacGreatDoor
set_option linter.unusedSimpArgs false
set_option maxHeartbeats 16000000
set_option maxRecDepth 100000
open Go.RowKit Go.Maps
structure Ft (w:World) (p bo bs:Nat) (bh:Bool) (op:Nat):Prop where
 c0:w.cell? ⟨p,0,none⟩ = some (.map (some bo))
 c1:w.cell? ⟨p,1,none⟩ = some (.map (some bs))
 c2:w.cell? ⟨p,2,none⟩ = some (.bool bh)
 c3:w.cell? ⟨p,3,none⟩ = some (.int .i64 (op:Int))
 fz:∀ o,w.frozen? ⟨p,o,none⟩ = false
theorem zGg (bo bs n:Nat) (xs:List OpR) (t:ByteArray) (kd:Int) (w:World) (hi:Idx w bo bs xs n) (hn:n = xs.length) (ht:t.size <= maxLen) (hk:(Lit.int .i64 kd).wf = true) :
  Calls Tryz.prog 182 #[.agg #[.map (some bo),.map (some bs)],.string t,.int .i64 kd] w fun e w'=>e = .returned (.bool (zZ xs t kd)) /\ Below w.heap.size w w':=by
 subst hn
 obtain ⟨⟨D,hown,hD⟩,_,_⟩:=hi
 refine (zCA bo bs xs.length D t kd w hown ht hk).mono ?_
 rintro e w' ⟨rfl,hb⟩
 refine ⟨?_,hb⟩
 have h:=(hD t kd ht hk).1
 have:Maps.has D (klO t kd) = zZ xs t kd:=by
  rw [Bool.eq_iff_iff,h,ZD]
  rfl
 rw [this]
theorem Ft.kept {w w':World} {p bo bs op:Nat} {bh:Bool} (h:Ft w p bo bs bh op) (hb:Below w.heap.size w w'):Ft w' p bo bs bh op:=by
 have hp:p < w.heap.size:=block_lt_of_cell h.c0
 have e:=fun o=>hb.cell (p:=⟨p,o,none⟩) hp
 exact ⟨(e _).trans h.c0,(e _).trans h.c1,(e _).trans h.c2,(e _).trans h.c3,fun o=>(hb.frozen (p:=⟨p,o,none⟩) hp).trans (h.fz o)⟩
theorem Ft.set2 {w:World} {p bo bs op:Nat} {bh:Bool} (h:Ft w p bo bs bh op) (b':Bool):Ft (w.setCell ⟨p,2,none⟩ (.bool b')) p bo bs b' op:=
 ⟨(World.cell?_setCell_other _ _ _ _ (by simp)).trans h.c0,(World.cell?_setCell_other _ _ _ _ (by simp)).trans h.c1,World.cell?_setCell_same _ _ _ h.c2,(World.cell?_setCell_other _ _ _ _ (by simp)).trans h.c3,fun o=>(World.frozen?_setCell _ _ _ _).trans (h.fz o)⟩
theorem Ft.set3 {w:World} {p bo bs op:Nat} {bh:Bool} (h:Ft w p bo bs bh op) (op':Nat) (n:Int) (hn:n = (op':Int)):Ft (w.setCell ⟨p,3,none⟩ (.int .i64 n)) p bo bs bh op':=by
 subst hn
 exact ⟨(World.cell?_setCell_other _ _ _ _ (by simp)).trans h.c0,(World.cell?_setCell_other _ _ _ _ (by simp)).trans h.c1,(World.cell?_setCell_other _ _ _ _ (by simp)).trans h.c2,World.cell?_setCell_same _ _ _ h.c3,fun o=>(World.frozen?_setCell _ _ _ _).trans (h.fz o)⟩
theorem zCV (w:World) (p o:Nat) (v:Value):zI w (w.setCell ⟨p,o,none⟩ v) p:=zAl [v] o w
def zIU (xs:List OpR) (t:zK) (bh:Bool) (op:Nat) (role:Int) (w w':World) (p bo bs:Nat):Prop:=
 (0 <= role -> Ft w' p bo bs (zBm xs t bh) (zBS t op)) /\ zI w w' p
theorem zGh (p bo bs op:Nat) (last:Bool) (xs:List OpR) (t:zK) (w:World) (h:Ft w p bo bs false op) (hi:Idx w bo bs xs xs.length) (ht:t.t.size <= maxLen) (hop:op <= 1048576) :
  Calls Tryz.prog 214 #[.pointer (some ⟨p,0,none⟩),.agg #[.int .i64 t.k,.string t.g,.string t.t]] w fun e w'=>e = .returned (.int .i64 (zn xs last t false op)) /\ zIU xs t false op (zn xs last t false op) w w' p bo bs:=by
 have HI:=zB (hi.kept (zC w (.cells #[.int .i64 t.k,.string t.g,.string t.t] 112)))
 have HF:=zB h
 clear hi
 obtain ⟨c0,c1,c2,c3,fz⟩:=h
 have f2:=fz 2
 have f3:=fz 3
 have hp:p < w.heap.size:=block_lt_of_cell c0
 have hk:t.k = 1 \/ t.k = 2 \/ t.k = 4 \/ t.k = 3 \/ (t.k ≠ 1 /\ t.k ≠ 2 /\ t.k ≠ 4 /\ t.k ≠ 3):=by omega
 rcases hk with hk | hk | hk | hk | hk
 ·have hk':=zB hk
  have g1:(t.k == 1) = true:=by simp; omega
  have g2:(t.k == 2) = false:=by simp; omega
  have g4:(t.k == 4) = false:=by simp; omega
  have g3:(t.k == 3) = false:=by simp; omega
  clear hk
  go_enter Tryz.func214,Tryz.ntmps214
  go_wp2_with fail
  go_ret
  refine ⟨zG (by simp [zn,zA hk']),fun _=>?_,(zCV w p 2 _).trans (zI.of_below (zC _ _))⟩
  rw [show zBm xs t false = true by simp [zBm,zA hk'],show zBS t op = op by simp [zBS,zA hk']]
  exact ((zA HF).set2 true).kept (zC _ _)
 ·have hk':=zB hk
  have g1:(t.k == 1) = false:=by simp; omega
  have g2:(t.k == 2) = true:=by simp; omega
  have g4:(t.k == 4) = false:=by simp; omega
  have g3:(t.k == 3) = false:=by simp; omega
  clear hk
  go_enter Tryz.func214,Tryz.ntmps214
  go_wp2_with fail
  go_ret
  refine ⟨zG (by simp [zn,zA hk']),fun _=>?_,(zCV w p 2 _).trans (zI.of_below (zC _ _))⟩
  rw [show zBm xs t false = true by simp [zBm,zA hk'],show zBS t op = op by simp [zBS,zA hk']]
  exact ((zA HF).set2 true).kept (zC _ _)
 ·have hk':=zB hk
  have g1:(t.k == 1) = false:=by simp; omega
  have g2:(t.k == 2) = false:=by simp; omega
  have g4:(t.k == 4) = true:=by simp; omega
  have g3:(t.k == 3) = false:=by simp; omega
  clear hk
  go_enter Tryz.func214,Tryz.ntmps214
  go_wp2_with fail
  go_ret
  refine ⟨zG (by simp [zn,zA hk']),fun _=>?_,(zCV w p 3 _).trans (zI.of_below (zC _ _))⟩
  rw [show zBm xs t false = false by simp [zBm,zA hk'],show zBS t op = op + 1 by simp [zBS,zA hk']]
  exact ((zA HF).set3 (op + 1) _ (by omega)).kept (zC _ _)
 ·have hk':=zB hk
  have g1:(t.k == 1) = false:=by simp; omega
  have g2:(t.k == 2) = false:=by simp; omega
  have g4:(t.k == 4) = false:=by simp; omega
  have g3:(t.k == 3) = true:=by simp; omega
  clear hk
  have d0:=((zC w (.cells #[.int .i64 t.k,.string t.g,.string t.t] 112)).cell (p:=⟨p,0,none⟩) hp).trans c0
  have d1:=((zC w (.cells #[.int .i64 t.k,.string t.g,.string t.t] 112)).cell (p:=⟨p,1,none⟩) hp).trans c1
  have e2:(w.alloc (.cells #[.int .i64 t.k,.string t.g,.string t.t] 112)).cell? ⟨w.heap.size,2,none⟩ = some (.string t.t):=by simp [go_sem]
  have hz:p < (w.alloc (.cells #[.int .i64 t.k,.string t.g,.string t.t] 112)).heap.size:=by simp; omega
  have hz':w.heap.size < (w.alloc (.cells #[.int .i64 t.k,.string t.g,.string t.t] 112)).heap.size:=by simp
  go_enter Tryz.func214,Tryz.ntmps214
  go_wp2_with fail
  go_region_held (fun w'=>w'.cell? ⟨p,0,none⟩ = some (.map (some bo)) /\ w'.cell? ⟨p,1,none⟩ = some (.map (some bs)) /\ w'.cell? ⟨w.heap.size,2,none⟩ = some (.string t.t)) (go_keep) (first | (go_at_call 182; refine (zGg bo bs xs.length xs t.t 1 _ ((zA HI).kept (Below.refl _ _).drew) rfl ht (by decide)).mono ?_; rintro e w2 ⟨rfl,hb2⟩; have q0:=(hb2.cell (p:=⟨p,0,none⟩) hz).trans (show (w.alloc (.cells #[.int .i64 t.k,.string t.g,.string t.t] 112)).drew.cell? ⟨p,0,none⟩ = _ from d0); have q1:=(hb2.cell (p:=⟨p,1,none⟩) hz).trans (show (w.alloc (.cells #[.int .i64 t.k,.string t.g,.string t.t] 112)).drew.cell? ⟨p,1,none⟩ = _ from d1); have q2:=(hb2.cell (p:=⟨w.heap.size,2,none⟩) hz').trans (show (w.alloc (.cells #[.int .i64 t.k,.string t.g,.string t.t] 112)).drew.cell? ⟨w.heap.size,2,none⟩ = _ from e2); have HB2:=zB hb2; clear hb2))
  have hbel:Below w.heap.size w w2:=(zC w (.cells #[.int .i64 t.k,.string t.g,.string t.t] 112)).trans (((Below.refl _ _).drew.trans (zA HB2)).mono (Nat.le_of_lt hz'))
  cases hh:zZ xs t.t 1
  ·have HH:=zB hh
   go_wp2_with fail
   go_ret
   have hr:zn xs last t false op = -1:=by simp [zn,zA hk',zA HH]
   exact ⟨zG hr.symm,fun h0=>absurd h0 (by rw [hr]; decide),zI.of_below hbel⟩
  ·have HH:=zB hh
   go_wp2_with fail
   go_ret
   refine ⟨zG (by simp [zn,zA hk',zA HH]),fun _=>?_,zI.of_below hbel⟩
   rw [show zBm xs t false = false by simp [zBm,zA hk'],show zBS t op = op by simp [zBS,zA hk']]
   exact (zA HF).kept hbel
 ·have hk':=zB hk
  have g1:(t.k == 1) = false:=by simp; omega
  have g2:(t.k == 2) = false:=by simp; omega
  have g4:(t.k == 4) = false:=by simp; omega
  have g3:(t.k == 3) = false:=by simp; omega
  clear hk
  go_enter Tryz.func214,Tryz.ntmps214
  go_wp2_with fail
  go_ret
  have hr:zn xs last t false op = -1:=by have:=zA hk'; simp [zn,this]
  exact ⟨zG hr.symm,fun h0=>absurd h0 (by rw [hr]; decide),zI.of_below (zC _ _)⟩
def zGi (xs:List OpR) (s:ByteArray):Int:=if zZ xs s 2 = true then 2 else if zZ xs s 3 = true then 3 else -1
theorem zKe (p bo bs op:Nat) (xs:List OpR) (s:ByteArray) (w:World) (h:Ft w p bo bs true op) (hi:Idx w bo bs xs xs.length) (ht:s.size <= maxLen) :
  Calls Tryz.prog 234 #[.pointer (some ⟨p,0,none⟩),.string s] w fun e w'=>e = .returned (.int .i64 (zGi xs s)) /\ Hid (Ft w' p bo bs (!zZ xs s 2) op) /\ Hid (zI w w' p):=by
 have HI:=zB hi
 have HF:=zB h
 clear hi
 obtain ⟨c0,c1,c2,c3,fz⟩:=h
 have hp:p < w.heap.size:=block_lt_of_cell c0
 go_enter Tryz.func234,Tryz.ntmps234
 go_wp2_with fail
 refine (zGg bo bs xs.length xs s 2 _ (zA HI) rfl ht (by decide)).mono ?_
 rintro e w1 ⟨rfl,hb1⟩
 have HF1:=zB ((zA HF).kept hb1)
 have HI1:=zB ((zA HI).kept hb1)
 have HB1:=zB hb1
 have d0:=(zA HF1).c0
 have d1:=(zA HF1).c1
 have d2:=(zA HF1).c2
 have g2:=(zA HF1).fz 2
 clear hb1 HF HI
 cases hh:zZ xs s 2
 ·have HH:=zB hh
  go_wp2_with fail
  refine (zGg bo bs xs.length xs s 3 _ (zA HI1) rfl ht (by decide)).mono ?_
  rintro e w2 ⟨rfl,hb2⟩
  have HF2:=zB ((zA HF1).kept hb2)
  have bel2:=(zA HB1).trans (hb2.mono (zA HB1).size)
  cases hh3:zZ xs s 3
  ·have HH3:=zB hh3
   go_wp2_with fail
   go_ret
   exact ⟨zG (by simp [zGi,zA HH,zA HH3]),by simpa [zA HH] using HF2,zB (zI.of_below bel2)⟩
  ·have HH3:=zB hh3
   go_wp2_with fail
   go_ret
   exact ⟨zG (by simp [zGi,zA HH,zA HH3]),by simpa [zA HH] using HF2,zB (zI.of_below bel2)⟩
 ·have HH:=zB hh
  go_wp2_with fail
  go_ret
  exact ⟨zG (by simp [zGi,zA HH]),zB (by rw [zA HH]; exact (zA HF1).set2 false),zB ((zI.of_below (zA HB1)).trans (zCV _ p 2 _))⟩
theorem zGj (p bo bs op:Nat) (last:Bool) (xs:List OpR) (t:zK) (w:World) (h:Ft w p bo bs true op) (hi:Idx w bo bs xs xs.length) (ht:t.t.size <= maxLen) (hop:op <= 1048576) :
  Calls Tryz.prog 213 #[.pointer (some ⟨p,0,none⟩),.agg #[.int .i64 t.k,.string t.g,.string t.t],.bool last] w fun e w'=>e = .returned (.int .i64 (zn xs last t true op)) /\ zIU xs t true op (zn xs last t true op) w w' p bo bs:=by
 have HI:=zB (hi.kept (zC w (.cells #[.int .i64 t.k,.string t.g,.string t.t] 112)))
 have HF:=zB (h.kept (zC w (.cells #[.int .i64 t.k,.string t.g,.string t.t] 112)))
 clear hi
 have hp:p < w.heap.size:=block_lt_of_cell h.c0
 have d0:=(zA HF).c0
 have d3:=(zA HF).c3
 have g3:=(zA HF).fz 3
 have hc3:=h.c3
 have hf3:=h.fz 3
 have H0:=zB h
 clear h
 have hk:t.k = 3 \/ t.k = 5 \/ t.k = 7 \/ (t.k ≠ 3 /\ t.k ≠ 5 /\ t.k ≠ 7):=by omega
 rcases hk with hk | hk | hk | hk
 ·have hk':=zB hk
  have k3:(t.k == 3) = true:=by simp; omega
  clear hk
  go_enter Tryz.func213,Tryz.ntmps213
  go_wp2_with fail
  refine (zKe p bo bs op xs t.t _ (zA HF) (zA HI) ht).mono ?_
  rintro e w1 ⟨rfl,hf1,hk1⟩
  go_wp2_with fail
  go_ret
  refine ⟨zG (by simp [zn,zGi,zA hk']),fun _=>?_,(zI.of_below (zC _ _)).trans (zA hk1)⟩
  rw [show zBm xs t true = (!zZ xs t.t 2) by cases hb:zZ xs t.t 2 <;> simp [zBm,zA hk',hb],show zBS t op = op by simp [zBS,zA hk']]
  exact zA hf1
 ·have hk':=zB hk
  have k3:(t.k == 3) = false:=by simp; omega
  have k5:(t.k == 5) = true:=by simp; omega
  clear hk
  by_cases ho:0 < op
  ·have HO:=zB ho
   have ho':(0:Int) < (op:Int):=by omega
   go_enter Tryz.func213,Tryz.ntmps213
   go_wp2_with fail
   go_ret
   refine ⟨zG (by simp [zn,zA hk',zA HO]),fun _=>?_,?_⟩
   ·rw [show zBm xs t true = true by simp [zBm,zA hk'],show zBS t op = op - 1 by simp [zBS,zA hk']]
    first
     | exact ((zA H0).set3 (op - 1) _ (by omega)).kept (zC _ _)
     | exact (zA HF).set3 (op - 1) _ (by omega)
   ·first
     | exact (zCV w p 3 _).trans (zI.of_below (zC _ _))
     | exact (zI.of_below (zC _ _)).trans (zCV _ p 3 _)
  ·have HO:=zB ho
   have ho':¬ (0:Int) < (op:Int):=by omega
   go_enter Tryz.func213,Tryz.ntmps213
   go_wp2_with fail
   go_ret
   have hr:zn xs last t true op = -1:=by simp [zn,zA hk',zA HO]
   exact ⟨zG hr.symm,fun h0=>absurd h0 (by rw [hr]; decide),zI.of_below (zC _ _)⟩
 ·have hk':=zB hk
  have k3:(t.k == 3) = false:=by simp; omega
  have k5:(t.k == 5) = false:=by simp; omega
  have k7:(t.k == 7) = true:=by simp; omega
  clear hk
  by_cases ho:op = 0
  ·subst ho
   cases last
   ·go_enter Tryz.func213,Tryz.ntmps213
    go_wp2_with fail
    go_ret
    have hr:zn xs false t true 0 = -1:=by simp [zn,zA hk']
    exact ⟨zG hr.symm,fun h0=>absurd h0 (by rw [hr]; decide),zI.of_below (zC _ _)⟩
   ·go_enter Tryz.func213,Tryz.ntmps213
    go_wp2_with fail
    go_ret
    refine ⟨zG (by simp [zn,zA hk']),fun _=>?_,zI.of_below (zC _ _)⟩
    rw [show zBm xs t true = true by simp [zBm,zA hk'],show zBS t 0 = 0 by simp [zBS,zA hk']]
    exact zA HF
  ·have HO:=zB ho
   have ho':((op:Int) == 0) = false:=by simp; omega
   go_enter Tryz.func213,Tryz.ntmps213
   go_wp2_with fail
   go_ret
   have hr:zn xs last t true op = -1:=by simp [zn,zA hk',zA HO]
   exact ⟨zG hr.symm,fun h0=>absurd h0 (by rw [hr]; decide),zI.of_below (zC _ _)⟩
 ·have hk':=zB hk
  have k3:(t.k == 3) = false:=by simp; omega
  have k5:(t.k == 5) = false:=by simp; omega
  have k7:(t.k == 7) = false:=by simp; omega
  clear hk
  go_enter Tryz.func213,Tryz.ntmps213
  go_wp2_with fail
  go_ret
  have hr:zn xs last t true op = -1:=by have:=zA hk'; simp [zn,this]
  exact ⟨zG hr.symm,fun h0=>absurd h0 (by rw [hr]; decide),zI.of_below (zC _ _)⟩
theorem zNh (p bo bs op:Nat) (bh last:Bool) (xs:List OpR) (t:zK) (w:World) (h:Ft w p bo bs bh op) (hi:Idx w bo bs xs xs.length) (ht:t.t.size <= maxLen) (hop:op <= 1048576) :
  Calls Tryz.prog 189 #[.pointer (some ⟨p,0,none⟩),.agg #[.int .i64 t.k,.string t.g,.string t.t],.bool last] w fun e w'=>e = .returned (.int .i64 (zn xs last t bh op)) /\ zIU xs t bh op (zn xs last t bh op) w w' p bo bs:=by
 have HI:=zB (hi.kept (zC w (.cells #[.int .i64 t.k,.string t.g,.string t.t] 112)))
 have HF:=zB (h.kept (zC w (.cells #[.int .i64 t.k,.string t.g,.string t.t] 112)))
 have hp:p < w.heap.size:=block_lt_of_cell h.c0
 have d2:=(zA HF).c2
 clear hi h
 cases bh
 ·go_enter Tryz.func189,Tryz.ntmps189
  go_wp2_with fail
  refine (zGh p bo bs op last xs t _ (zA HF) (zA HI) ht hop).mono ?_
  rintro e w1 ⟨rfl,hs1,hk1⟩
  have HS1:=zB hs1
  have HK1:=zB hk1
  clear hs1 hk1
  go_wp2_with fail
  go_ret
  exact ⟨rfl,zA HS1,(zI.of_below (zC _ _)).trans (zA HK1)⟩
 ·go_enter Tryz.func189,Tryz.ntmps189
  go_wp2_with fail
  refine (zGj p bo bs op last xs t _ (zA HF) (zA HI) ht hop).mono ?_
  rintro e w1 ⟨rfl,hs1,hk1⟩
  have HS1:=zB hs1
  have HK1:=zB hk1
  clear hs1 hk1
  go_wp2_with fail
  go_ret
  exact ⟨rfl,zA HS1,(zI.of_below (zC _ _)).trans (zA HK1)⟩
end Go.Proofs.YtokabkhnidlcnacGreatDoor
