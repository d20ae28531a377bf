import Derived.Deep.AppendLies
import Derived.Deep.RegionHeldLaw
import Derived.Test.YtfboipappaonhaaGreatF00
import Derived.Test.YtfboipappaonhaaGreatF05
import Derived.Test.YtfboipappaonhaaGreatF12
import Derived.Test.YtfboipappaonhaaGreatF29
import Derived.Test.YtfboipappaonhaaGreatF31
namespace Go.Proofs.YtfboipappaonhaaGreat
set_option linter.unusedSimpArgs false
set_option maxHeartbeats 16000000
set_option maxRecDepth 100000
open Go.RowKit Go.Maps
structure Ft (w:World) (p bo bs:Nat) (bh:Bool) (op:Nat):Prop where
 c0:w.cell? ⟨p,0,none⟩=some (.map (some bo))
 c1:w.cell? ⟨p,1,none⟩=some (.map (some bs))
 c2:w.cell? ⟨p,2,none⟩=some (.bool bh)
 c3:w.cell? ⟨p,3,none⟩=some (.int .i64 (op:Int))
 fz:∀ o,w.frozen? ⟨p,o,none⟩=false
theorem zHc (bo bs n:Nat) (xs:List OpR) (t:ByteArray) (kd:Int) (w:World) (hi:Idx w bo bs xs n) (hn:n=xs.length) (ht:t.size<=maxLen) (hk:(Lit.int .i64 kd).wf=true) :
  Calls Tryz.prog 123 #[.agg #[.map (some bo),.map (some bs)],.string t,.int .i64 kd] w fun e w'=>e = .returned (.bool (zn xs t kd))/\Below w.heap.size w w':=by
 subst hn
 obtain ⟨⟨D,hown,hD⟩,_,_⟩:=hi
 refine (zCc bo bs xs.length D t kd w hown ht hk).mono ?_
 rintro e w' ⟨rfl,hb⟩
 refine ⟨?_,hb⟩
 have h:=(hD t kd ht hk).1
 have:Maps.has D (klO t kd)=zn xs t kd:=by
  rw [Bool.eq_iff_iff,h,ZQ]
  rfl
 rw [this]
theorem Ft.kept {w w':World} {p bo bs op:Nat} {bh:Bool} (h:Ft w p bo bs bh op) (hb:Below w.heap.size w w'):Ft w' p bo bs bh op:=by
 have hp:p<w.heap.size:=block_lt_of_cell h.c0
 have e:=fun o=>hb.cell (p:=⟨p,o,none⟩) hp
 exact ⟨(e _).trans h.c0,(e _).trans h.c1,(e _).trans h.c2,(e _).trans h.c3,fun o=>(hb.frozen (p:=⟨p,o,none⟩) hp).trans (h.fz o)⟩
theorem Ft.set2 {w:World} {p bo bs op:Nat} {bh:Bool} (h:Ft w p bo bs bh op) (b':Bool):Ft (w.setCell ⟨p,2,none⟩ (.bool b')) p bo bs b' op:=
 ⟨(World.cell?_setCell_other _ _ _ _ (by simp)).trans h.c0,(World.cell?_setCell_other _ _ _ _ (by simp)).trans h.c1,World.cell?_setCell_same _ _ _ h.c2,(World.cell?_setCell_other _ _ _ _ (by simp)).trans h.c3,fun o=>(World.frozen?_setCell _ _ _ _).trans (h.fz o)⟩
theorem Ft.set3 {w:World} {p bo bs op:Nat} {bh:Bool} (h:Ft w p bo bs bh op) (op':Nat) (n:Int) (hn:n=(op':Int)):Ft (w.setCell ⟨p,3,none⟩ (.int .i64 n)) p bo bs bh op':=by
 subst hn
 exact ⟨(World.cell?_setCell_other _ _ _ _ (by simp)).trans h.c0,(World.cell?_setCell_other _ _ _ _ (by simp)).trans h.c1,(World.cell?_setCell_other _ _ _ _ (by simp)).trans h.c2,World.cell?_setCell_same _ _ _ h.c3,fun o=>(World.frozen?_setCell _ _ _ _).trans (h.fz o)⟩
theorem zDC (w:World) (p o:Nat) (v:Value):zE w (w.setCell ⟨p,o,none⟩ v) p:=zAd [v] o w
def zJZ (xs:List OpR) (t:zK) (bh:Bool) (op:Nat) (role:Int) (w w':World) (p bo bs:Nat):Prop:=
 (0<=role->Ft w' p bo bs (zCG xs t bh) (zBz t op))/\zE w w' p
theorem zHd (p bo bs op:Nat) (last:Bool) (xs:List OpR) (t:zK) (w:World) (h:Ft w p bo bs false op) (hi:Idx w bo bs xs xs.length) (ht:t.t.size<=maxLen) (hop:op<=1048576) :
  Calls Tryz.prog 161 #[.pointer (some ⟨p,0,none⟩),.agg #[.int .i64 t.k,.string t.g,.string t.t]] w fun e w'=>e = .returned (.int .i64 (zz xs last t false op))/\zJZ xs t false op (zz xs last t false op) w w' p bo bs:=by
 have HI:=zB (hi.kept (zC w (.cells #[.int .i64 t.k,.string t.g,.string t.t] 97)))
 have HF:=zB h
 clear hi
 obtain ⟨c0,c1,c2,c3,fz⟩:=h
 have f2:=fz 2
 have f3:=fz 3
 have hp:p<w.heap.size:=block_lt_of_cell c0
 have hk:t.k=1\/t.k=2\/t.k=4\/t.k=3\/(t.k≠1/\t.k≠2/\t.k≠4/\t.k≠3):=by omega
 rcases hk with hk | hk | hk | hk | hk
 ·have hk':=zB hk
  have g1:(t.k==1)=true:=by simp; omega
  have g2:(t.k==2)=false:=by simp; omega
  have g4:(t.k==4)=false:=by simp; omega
  have g3:(t.k==3)=false:=by simp; omega
  clear hk
  go_enter Tryz.func161,Tryz.ntmps161
  go_wp2_with fail
  go_ret
  refine ⟨zF (by simp [zz,zA hk']),fun _=>?_,(zDC w p 2 _).trans (zE.of_below (zC _ _))⟩
  rw [show zCG xs t false=true by simp [zCG,zA hk'],show zBz t op=op by simp [zBz,zA hk']]
  exact ((zA HF).set2 true).kept (zC _ _)
 ·have hk':=zB hk
  have g1:(t.k==1)=false:=by simp; omega
  have g2:(t.k==2)=true:=by simp; omega
  have g4:(t.k==4)=false:=by simp; omega
  have g3:(t.k==3)=false:=by simp; omega
  clear hk
  go_enter Tryz.func161,Tryz.ntmps161
  go_wp2_with fail
  go_ret
  refine ⟨zF (by simp [zz,zA hk']),fun _=>?_,(zDC w p 2 _).trans (zE.of_below (zC _ _))⟩
  rw [show zCG xs t false=true by simp [zCG,zA hk'],show zBz t op=op by simp [zBz,zA hk']]
  exact ((zA HF).set2 true).kept (zC _ _)
 ·have hk':=zB hk
  have g1:(t.k==1)=false:=by simp; omega
  have g2:(t.k==2)=false:=by simp; omega
  have g4:(t.k==4)=true:=by simp; omega
  have g3:(t.k==3)=false:=by simp; omega
  clear hk
  go_enter Tryz.func161,Tryz.ntmps161
  go_wp2_with fail
  go_ret
  refine ⟨zF (by simp [zz,zA hk']),fun _=>?_,(zDC w p 3 _).trans (zE.of_below (zC _ _))⟩
  rw [show zCG xs t false=false by simp [zCG,zA hk'],show zBz t op=op+1 by simp [zBz,zA hk']]
  exact ((zA HF).set3 (op+1) _ (by omega)).kept (zC _ _)
 ·have hk':=zB hk
  have g1:(t.k==1)=false:=by simp; omega
  have g2:(t.k==2)=false:=by simp; omega
  have g4:(t.k==4)=false:=by simp; omega
  have g3:(t.k==3)=true:=by simp; omega
  clear hk
  have d0:=((zC w (.cells #[.int .i64 t.k,.string t.g,.string t.t] 97)).cell (p:=⟨p,0,none⟩) hp).trans c0
  have d1:=((zC w (.cells #[.int .i64 t.k,.string t.g,.string t.t] 97)).cell (p:=⟨p,1,none⟩) hp).trans c1
  have e2:(w.alloc (.cells #[.int .i64 t.k,.string t.g,.string t.t] 97)).cell? ⟨w.heap.size,2,none⟩=some (.string t.t):=by simp [go_sem]
  have hz:p<(w.alloc (.cells #[.int .i64 t.k,.string t.g,.string t.t] 97)).heap.size:=by simp; omega
  have hz':w.heap.size<(w.alloc (.cells #[.int .i64 t.k,.string t.g,.string t.t] 97)).heap.size:=by simp
  go_enter Tryz.func161,Tryz.ntmps161
  go_wp2_with fail
  go_region_held (fun w'=>w'.cell? ⟨p,0,none⟩=some (.map (some bo))/\w'.cell? ⟨p,1,none⟩=some (.map (some bs))/\w'.cell? ⟨w.heap.size,2,none⟩=some (.string t.t)) (go_keep) (first | (go_at_call 123; refine (zHc bo bs xs.length xs t.t 1 _ ((zA HI).kept (Below.refl _ _).drew) rfl ht (by decide)).mono ?_; rintro e w2 ⟨rfl,hb2⟩; have q0:=(hb2.cell (p:=⟨p,0,none⟩) hz).trans (show (w.alloc (.cells #[.int .i64 t.k,.string t.g,.string t.t] 97)).drew.cell? ⟨p,0,none⟩=_ from d0); have q1:=(hb2.cell (p:=⟨p,1,none⟩) hz).trans (show (w.alloc (.cells #[.int .i64 t.k,.string t.g,.string t.t] 97)).drew.cell? ⟨p,1,none⟩=_ from d1); have q2:=(hb2.cell (p:=⟨w.heap.size,2,none⟩) hz').trans (show (w.alloc (.cells #[.int .i64 t.k,.string t.g,.string t.t] 97)).drew.cell? ⟨w.heap.size,2,none⟩=_ from e2); have HB2:=zB hb2; clear hb2))
  have hbel:Below w.heap.size w w2:=(zC w (.cells #[.int .i64 t.k,.string t.g,.string t.t] 97)).trans (((Below.refl _ _).drew.trans (zA HB2)).mono (Nat.le_of_lt hz'))
  cases hh:zn xs t.t 1
  ·have HH:=zB hh
   go_wp2_with fail
   go_ret
   have hr:zz xs last t false op = -1:=by simp [zz,zA hk',zA HH]
   exact ⟨zF hr.symm,fun h0=>absurd h0 (by rw [hr]; decide),zE.of_below hbel⟩
  ·have HH:=zB hh
   go_wp2_with fail
   go_ret
   refine ⟨zF (by simp [zz,zA hk',zA HH]),fun _=>?_,zE.of_below hbel⟩
   rw [show zCG xs t false=false by simp [zCG,zA hk'],show zBz t op=op by simp [zBz,zA hk']]
   exact (zA HF).kept hbel
 ·have hk':=zB hk
  have g1:(t.k==1)=false:=by simp; omega
  have g2:(t.k==2)=false:=by simp; omega
  have g4:(t.k==4)=false:=by simp; omega
  have g3:(t.k==3)=false:=by simp; omega
  clear hk
  go_enter Tryz.func161,Tryz.ntmps161
  go_wp2_with fail
  go_ret
  have hr:zz xs last t false op = -1:=by have:=zA hk'; simp [zz,this]
  exact ⟨zF hr.symm,fun h0=>absurd h0 (by rw [hr]; decide),zE.of_below (zC _ _)⟩
def zHe (xs:List OpR) (s:ByteArray):Int:=if zn xs s 2=true then 2 else if zn xs s 3=true then 3 else -1
theorem zLQ (p bo bs op:Nat) (xs:List OpR) (s:ByteArray) (w:World) (h:Ft w p bo bs true op) (hi:Idx w bo bs xs xs.length) (ht:s.size<=maxLen) :
  Calls Tryz.prog 167 #[.pointer (some ⟨p,0,none⟩),.string s] w fun e w'=>e = .returned (.int .i64 (zHe xs s))/\Hid (Ft w' p bo bs (!zn xs s 2) op)/\Hid (zE w w' p):=by
 have HI:=zB hi
 have HF:=zB h
 clear hi
 obtain ⟨c0,c1,c2,c3,fz⟩:=h
 have hp:p<w.heap.size:=block_lt_of_cell c0
 go_enter Tryz.func167,Tryz.ntmps167
 go_wp2_with fail
 refine (zHc bo bs xs.length xs s 2 _ (zA HI) rfl ht (by decide)).mono ?_
 rintro e w1 ⟨rfl,hb1⟩
 have HF1:=zB ((zA HF).kept hb1)
 have HI1:=zB ((zA HI).kept hb1)
 have HB1:=zB hb1
 have d0:=(zA HF1).c0
 have d1:=(zA HF1).c1
 have d2:=(zA HF1).c2
 have g2:=(zA HF1).fz 2
 clear hb1 HF HI
 cases hh:zn xs s 2
 ·have HH:=zB hh
  go_wp2_with fail
  refine (zHc bo bs xs.length xs s 3 _ (zA HI1) rfl ht (by decide)).mono ?_
  rintro e w2 ⟨rfl,hb2⟩
  have HF2:=zB ((zA HF1).kept hb2)
  have bel2:=(zA HB1).trans (hb2.mono (zA HB1).size)
  cases hh3:zn xs s 3
  ·have HH3:=zB hh3
   go_wp2_with fail
   go_ret
   exact ⟨zF (by simp [zHe,zA HH,zA HH3]),by simpa [zA HH] using HF2,zB (zE.of_below bel2)⟩
  ·have HH3:=zB hh3
   go_wp2_with fail
   go_ret
   exact ⟨zF (by simp [zHe,zA HH,zA HH3]),by simpa [zA HH] using HF2,zB (zE.of_below bel2)⟩
 ·have HH:=zB hh
  go_wp2_with fail
  go_ret
  exact ⟨zF (by simp [zHe,zA HH]),zB (by rw [zA HH]; exact (zA HF1).set2 false),zB ((zE.of_below (zA HB1)).trans (zDC _ p 2 _))⟩
theorem zHf (p bo bs op:Nat) (last:Bool) (xs:List OpR) (t:zK) (w:World) (h:Ft w p bo bs true op) (hi:Idx w bo bs xs xs.length) (ht:t.t.size<=maxLen) (hop:op<=1048576) :
  Calls Tryz.prog 160 #[.pointer (some ⟨p,0,none⟩),.agg #[.int .i64 t.k,.string t.g,.string t.t],.bool last] w fun e w'=>e = .returned (.int .i64 (zz xs last t true op))/\zJZ xs t true op (zz xs last t true op) w w' p bo bs:=by
 have HI:=zB (hi.kept (zC w (.cells #[.int .i64 t.k,.string t.g,.string t.t] 97)))
 have HF:=zB (h.kept (zC w (.cells #[.int .i64 t.k,.string t.g,.string t.t] 97)))
 clear hi
 have hp:p<w.heap.size:=block_lt_of_cell h.c0
 have d0:=(zA HF).c0
 have d3:=(zA HF).c3
 have g3:=(zA HF).fz 3
 have hc3:=h.c3
 have hf3:=h.fz 3
 have H0:=zB h
 clear h
 have hk:t.k=3\/t.k=5\/t.k=7\/(t.k≠3/\t.k≠5/\t.k≠7):=by omega
 rcases hk with hk | hk | hk | hk
 ·have hk':=zB hk
  have k3:(t.k==3)=true:=by simp; omega
  clear hk
  go_enter Tryz.func160,Tryz.ntmps160
  go_wp2_with fail
  refine (zLQ p bo bs op xs t.t _ (zA HF) (zA HI) ht).mono ?_
  rintro e w1 ⟨rfl,hf1,hk1⟩
  go_wp2_with fail
  go_ret
  refine ⟨zF (by simp [zz,zHe,zA hk']),fun _=>?_,(zE.of_below (zC _ _)).trans (zA hk1)⟩
  rw [show zCG xs t true=(!zn xs t.t 2) by cases hb:zn xs t.t 2 <;> simp [zCG,zA hk',hb],show zBz t op=op by simp [zBz,zA hk']]
  exact zA hf1
 ·have hk':=zB hk
  have k3:(t.k==3)=false:=by simp; omega
  have k5:(t.k==5)=true:=by simp; omega
  clear hk
  by_cases ho:0<op
  ·have HO:=zB ho
   have ho':(0:Int)<(op:Int):=by omega
   go_enter Tryz.func160,Tryz.ntmps160
   go_wp2_with fail
   go_ret
   refine ⟨zF (by simp [zz,zA hk',zA HO]),fun _=>?_,?_⟩
   ·rw [show zCG xs t true=true by simp [zCG,zA hk'],show zBz t op=op-1 by simp [zBz,zA hk']]
    first
     | exact ((zA H0).set3 (op-1) _ (by omega)).kept (zC _ _)
     | exact (zA HF).set3 (op-1) _ (by omega)
   ·first
     | exact (zDC w p 3 _).trans (zE.of_below (zC _ _))
     | exact (zE.of_below (zC _ _)).trans (zDC _ p 3 _)
  ·have HO:=zB ho
   have ho':¬ (0:Int)<(op:Int):=by omega
   go_enter Tryz.func160,Tryz.ntmps160
   go_wp2_with fail
   go_ret
   have hr:zz xs last t true op = -1:=by simp [zz,zA hk',zA HO]
   exact ⟨zF hr.symm,fun h0=>absurd h0 (by rw [hr]; decide),zE.of_below (zC _ _)⟩
 ·have hk':=zB hk
  have k3:(t.k==3)=false:=by simp; omega
  have k5:(t.k==5)=false:=by simp; omega
  have k7:(t.k==7)=true:=by simp; omega
  clear hk
  by_cases ho:op=0
  ·subst ho
   cases last
   ·go_enter Tryz.func160,Tryz.ntmps160
    go_wp2_with fail
    go_ret
    have hr:zz xs false t true 0 = -1:=by simp [zz,zA hk']
    exact ⟨zF hr.symm,fun h0=>absurd h0 (by rw [hr]; decide),zE.of_below (zC _ _)⟩
   ·go_enter Tryz.func160,Tryz.ntmps160
    go_wp2_with fail
    go_ret
    refine ⟨zF (by simp [zz,zA hk']),fun _=>?_,zE.of_below (zC _ _)⟩
    rw [show zCG xs t true=true by simp [zCG,zA hk'],show zBz t 0=0 by simp [zBz,zA hk']]
    exact zA HF
  ·have HO:=zB ho
   have ho':((op:Int)==0)=false:=by simp; omega
   go_enter Tryz.func160,Tryz.ntmps160
   go_wp2_with fail
   go_ret
   have hr:zz xs last t true op = -1:=by simp [zz,zA hk',zA HO]
   exact ⟨zF hr.symm,fun h0=>absurd h0 (by rw [hr]; decide),zE.of_below (zC _ _)⟩
 ·have hk':=zB hk
  have k3:(t.k==3)=false:=by simp; omega
  have k5:(t.k==5)=false:=by simp; omega
  have k7:(t.k==7)=false:=by simp; omega
  clear hk
  go_enter Tryz.func160,Tryz.ntmps160
  go_wp2_with fail
  go_ret
  have hr:zz xs last t true op = -1:=by have:=zA hk'; simp [zz,this]
  exact ⟨zF hr.symm,fun h0=>absurd h0 (by rw [hr]; decide),zE.of_below (zC _ _)⟩
theorem zON (p bo bs op:Nat) (bh last:Bool) (xs:List OpR) (t:zK) (w:World) (h:Ft w p bo bs bh op) (hi:Idx w bo bs xs xs.length) (ht:t.t.size<=maxLen) (hop:op<=1048576) :
  Calls Tryz.prog 131 #[.pointer (some ⟨p,0,none⟩),.agg #[.int .i64 t.k,.string t.g,.string t.t],.bool last] w fun e w'=>e = .returned (.int .i64 (zz xs last t bh op))/\zJZ xs t bh op (zz xs last t bh op) w w' p bo bs:=by
 have HI:=zB (hi.kept (zC w (.cells #[.int .i64 t.k,.string t.g,.string t.t] 97)))
 have HF:=zB (h.kept (zC w (.cells #[.int .i64 t.k,.string t.g,.string t.t] 97)))
 have hp:p<w.heap.size:=block_lt_of_cell h.c0
 have d2:=(zA HF).c2
 clear hi h
 cases bh
 ·go_enter Tryz.func131,Tryz.ntmps131
  go_wp2_with fail
  refine (zHd p bo bs op last xs t _ (zA HF) (zA HI) ht hop).mono ?_
  rintro e w1 ⟨rfl,hs1,hk1⟩
  have HS1:=zB hs1
  have HK1:=zB hk1
  clear hs1 hk1
  go_wp2_with fail
  go_ret
  exact ⟨rfl,zA HS1,(zE.of_below (zC _ _)).trans (zA HK1)⟩
 ·go_enter Tryz.func131,Tryz.ntmps131
  go_wp2_with fail
  refine (zHf p bo bs op last xs t _ (zA HF) (zA HI) ht hop).mono ?_
  rintro e w1 ⟨rfl,hs1,hk1⟩
  have HS1:=zB hs1
  have HK1:=zB hk1
  clear hs1 hk1
  go_wp2_with fail
  go_ret
  exact ⟨rfl,zA HS1,(zE.of_below (zC _ _)).trans (zA HK1)⟩
end Go.Proofs.YtfboipappaonhaaGreat
namespace Go.Proofs.YtfboipappaonhaaGreat
set_option maxHeartbeats 16000000
set_option maxRecDepth 100000
open Go.RowKit
theorem zBd {xs:List OpR} (h:zM xs 0):zBF xs xs.length:=by
 rcases h with ⟨h,_⟩ | ⟨_,⟨h,_⟩ | ⟨h,_⟩⟩
 ·exact absurd h (by decide)
 ·exact absurd h (by decide)
 ·exact h
theorem zMl {w:World} {base e size g n cap:Nat} {xs:List Value} (h:w.ownsRow base e size (.slice (some ⟨g,0,none⟩) n cap) n xs):n<=cap/\cap<=maxLen:=by
 obtain ⟨_,⟨h,_⟩ | ⟨g',cap',cur,h,_,_,h1,h2,_⟩⟩:=h
 ·cases h
 ·injection h with _ _ h
  subst h
  exact ⟨h1,h2⟩
theorem zJa (b off cap:Nat) (xs:List OpR) (s:ByteArray) (w:World) (hm:xs.length<=1048576) (hw:Ops w b off xs) (hsz:ZV xs) (hB:b<w.heap.size) (hs:s.size<=maxLen) :
  Calls Tryz.prog 56 #[.agg #[.slice (some ⟨b,off,none⟩) xs.length cap],.string s] w fun e w'=>(∃ (g c:Nat) (us:List zK) (v:Bool),e = .returned (.tuple #[.slice (some ⟨g,0,none⟩) us.length c,.bool v])/\(w.heap.size<=g/\us.length<=c/\c<=maxLen)/\zGR w' g us us.length/\zQl xs (zM xs 0) s us v)/\Below w.heap.size w w':=by
 unfold maxLen at hs
 have HW:=zB hw
 have HS:=zB hsz
 clear hw hsz
 go_enter Tryz.func56,Tryz.ntmps56
 go_wp2_with fail
 refine (Zy b off cap xs _ hm ((zA HW).below ((zC _ _).alloc (by simp) _) hB) (zA HS) (by simp; omega)).mono ?_
 rintro e w1 ⟨⟨c,rfl,hc⟩,hb1⟩
 have HC:=zB hc
 have z1:w.heap.size+2<=w1.heap.size:=by have:=hb1.size; simp at this; omega
 have bel1:Below w.heap.size w w1:=((zC _ _).alloc (by simp) _).trans (hb1.mono (by simp; omega))
 have c1:w1.cell? ⟨w.heap.size,0,none⟩=some (.slice (some ⟨b,off,none⟩) xs.length cap):=by rw [hb1.cell (p:=⟨w.heap.size,0,none⟩) (by simp; omega)]; simp [go_sem]
 have HO:=zB (show w1.ownsRow (w.heap.size+1) 97 3 (.slice (some ⟨w.heap.size+1,0,none⟩) 0 0) 0 (zk []) by
  have h0:=World.ownsRow_lit (base:=w.heap.size+1) (e:=97) (size:=3) (w.alloc (.cells #[.slice (some ⟨b,off,none⟩) xs.length cap] 25)) #[] 0 (by simp) (Nat.zero_le _) rfl
  have h1:=h0.kept (Zb hb1 none) (Or.inr (by simp [Value.ownBlock]))
  simpa [zk] using h1)
 have bel1':Below (w.heap.size+1) (w.alloc (.cells #[.slice (some ⟨b,off,none⟩) xs.length cap] 25)) w1:=((zC _ _).mono (by simp)).trans (hb1.mono (by simp))
 clear hb1 hc
 by_cases hc0:c=0
 case neg=>
  have hc0':(c != 0)=true:=by simpa using hc0
  have HN:=zB (show ¬ (zM xs 0/\s.size<=20000) from fun h=>hc0 (zA0 (zA HC) h.1))
  clear hc0
  go_wp2_with fail
  go_ret2
  obtain ⟨hg,hf⟩:=zB1 (zs:=[]) (zA HO)
  exact ⟨⟨w.heap.size+1,0,[],false,rfl,⟨by omega,Nat.le_refl _,Nat.zero_le _⟩,hf,Or.inr ⟨zA HN,rfl,rfl⟩⟩,bel1⟩
 subst hc0
 by_cases h2:20000<s.size
 ·have HN:=zB (show ¬ (zM xs 0/\s.size<=20000) from fun h=>by omega)
  have h2':(20000:Int)<(s.size:Int):=by omega
  go_wp2_with fail
  go_ret2
  obtain ⟨hg,hf⟩:=zB1 (zs:=[]) (zA HO)
  exact ⟨⟨w.heap.size+1,0,[],false,rfl,⟨by omega,Nat.le_refl _,Nat.zero_le _⟩,hf,Or.inr ⟨zA HN,rfl,rfl⟩⟩,bel1⟩
 have HV:=zB (zAL (zBd (zA HC)))
 have HK:=zB (zKX (zBd (zA HC)))
 have h20:s.size<=20000:=by omega
 clear hs h2
 go_wp2_with fail
 obtain ⟨i0,hi,hz0,hz1,hz2⟩:=info_parts zPs
 have HI:=zB hi
 have HZ:=zB (And.intro hz0 (And.intro hz1 hz2))
 clear hi hz0 hz1 hz2 c1
 go_loopw [6,7] (fun out i wr=>∃ (p go co:Nat) (acc:List zK),p<=s.size/\i = .int .i64 (p:Int)/\out = .slice (some ⟨go,0,none⟩) acc.length co/\Hid (zG8 xs s p acc)/\Hid (wr.ownsRow (w.heap.size+1) 97 3 (.slice (some ⟨go,0,none⟩) acc.length co) acc.length (zk acc))/\Below (w.heap.size+1) (w.alloc (.cells #[.slice (some ⟨b,off,none⟩) xs.length cap] 25)) wr) (fun _ i _=>s.size-(intOf i).toNat)
 case atStart=>exact ⟨0,w.heap.size+1,0,[],Nat.zero_le _,rfl,rfl,zB (zG8.start xs s),HO,bel1'⟩
 case round=>
  clear HO bel1'
  obtain ⟨p,go,co,acc,hp,rfl,rfl,hrd,hown,hbel⟩:=hrel
  have hbw:Below w.heap.size w wr:=(zC _ _).trans (hbel.mono (by omega))
  have zw:w.heap.size<wr.heap.size:=by have:=hbel.size; simp at this; omega
  have c0:wr.cell? ⟨w.heap.size,0,none⟩=some (.slice (some ⟨b,off,none⟩) xs.length cap):=by
   rw [hbel.cell (p:=⟨w.heap.size,0,none⟩) (show w.heap.size<_ by omega)]; simp [go_sem]
  go_wp2_with fail
  go_loop [7] (fun iv=>∃ j:Nat,p<=j/\j<=s.size/\iv = .int .i64 (j:Int)/\Hid (zDI s p j)) (fun iv=>s.size-(intOf iv).toNat)
  case atStart=>exact ⟨p,Nat.le_refl _,hp,rfl,zB (fun q h1 h2=>by omega)⟩
  case round=>
   obtain ⟨j,hpj,hj,rfl,hbl⟩:=hrel
   by_cases hlt:j<s.size
   ·cases hb:decide (cls s[j]=1)
    ·have hnb:=zB (show cls (bt s j)≠1 by rw [ZS hlt] at hb; simpa using hb)
     have hj':((j:Int)==(s.size:Int))=false:=by simp; omega
     have hal:acc.length<=20000:=by have:=(zA hrd).1; omega
     go_wp2_with (go_at_call 103; refine (zF1 _ _).mono ?_; rintro e w2 ⟨rfl,hx⟩; obtain rfl:=hx.symm)
     refine (zHx b off cap xs s j _ hm ((zA HW).below hbw hB) (by omega) (zA HK) (by omega) hlt).mono ?_
     rintro e w2 ⟨⟨n,rfl,hn⟩,hb2⟩
     have htok:=zJv (zA HV) hn (zA hnb)
     have hjn:j+n<=s.size:=htok.2.1
     have hn1:1<=n:=htok.1
     have HT:=zB htok
     have hbel2:=hbel.trans (hb2.mono zw)
     have hbw2:Below w.heap.size w w2:=(zC _ _).trans (hbel2.mono (by omega))
     have z2:w.heap.size<w2.heap.size:=Nat.lt_of_lt_of_le zw hb2.size
     have hown2:=zB ((zA hown).kept (Zb hb2 none) (Or.inr (by simp [Value.ownBlock])))
     have d0:w2.cell? ⟨w.heap.size,0,none⟩=some (.slice (some ⟨b,off,none⟩) xs.length cap):=(hb2.cell (p:=⟨w.heap.size,0,none⟩) zw).trans c0
     have hwr:IntKind.i64.wrap ((j:Int)+(n:Int))=(j:Int)+(n:Int):=by rw [IntKind.wrap_i64]; omega
     have hs1:(j:Int)<=(j:Int)+(n:Int):=by omega
     have hs2:(j:Int)+(n:Int)<=(s.size:Int):=by omega
     have hs3:(0:Int)<=(j:Int)+(n:Int):=by omega
     have htn:((j:Int)+(n:Int)).toNat=j+n:=by omega
     have hs4:(p:Int)<=(j:Int):=by omega
     have hs5:(j:Int)<=(s.size:Int):=by omega
     have zb:b<w2.heap.size:=by omega
     clear hn htok hb2 hown hbel hbw c0
     go_wp2_with fail
     go_region_held_law (fun w'=>w'.cell? ⟨w.heap.size,0,none⟩=some (.slice (some ⟨b,off,none⟩) xs.length cap)) (go_keep)
      (first | (go_at_call 105; refine (zHY b off cap xs (sub s j n) _ hm ((zA HW).below hbw2.drew hB) zb (zA HK) (by rw [zAU hjn]; unfold maxLen; omega)).mono ?_; rintro e w3 ⟨rfl,hb3⟩; have c3:=(hb3.cell (p:=⟨w.heap.size,0,none⟩) z2).trans (show w2.drew.cell? ⟨w.heap.size,0,none⟩=_ from d0); have hbel3:=hbel2.drew.trans (hb3.mono z2); have hown3:=zB ((zA hown2).drew.kept (Zb hb3 none) (Or.inr (by simp [Value.ownBlock]))); have z3:=Nat.lt_of_lt_of_le z2 hb3.size; have hgo:=zB ((zA hown3).lt go rfl)) | (refine step_append_lies _ (by rfl) (.tmp 49) (.tmp 69) 72 (by rfl) (w.heap.size+1) 97 i0 _ 3 40 Tryz.underlying72 (zA HI) (zA HZ).1 (zA HZ).2.1 (zA HZ).2.2 rfl (by decide) _ acc.length (zk acc) (by rfl) ((zA hown3).alloc _) ⟨w3.heap.size,0,none⟩ 1 1 (zk [⟨(ZY xs (sub s j n):Int),s.extract p j,s.extract j (j+n)⟩]) (by rfl) rfl (zEH w3 ⟨(ZY xs (sub s j n):Int),s.extract p j,s.extract j (j+n)⟩) (zB0 _) (by decide) (by unfold maxLen; omega) (by omega) (by simp; omega) _ rfl ?_; intro g4 c4 w4 hown4 hgrow4 _ hlt4; have q4:=(hgrow4.cell_far ⟨w.heap.size,0,none⟩ (by simp; omega) (by have:=zA hgo; simp [Value.ownBlock]; omega)).trans (((zC w3 _).cell (p:=⟨w.heap.size,0,none⟩) z3).trans c3); simp only [List.getElem_toArray,List.getElem_cons_succ,List.getElem_cons_zero]; simp only [Act.put,List.setIfInBounds_toArray,List.set_cons_zero,List.set_cons_succ]))
     have hbel4:Below (w.heap.size+1) _ w4:=(hbel3.alloc z3 _).grown hgrow4 (by simp; omega) (fun q hq=>by have:=zA hgo; simp [Value.ownBlock] at hq; omega)
     rw [<- zBM] at hown4
     have hl4:acc.length+1=(acc++[(⟨(ZY xs (sub s j n):Int),s.extract p j,s.extract j (j+n)⟩:zK)]).length:=by simp
     rw [hl4] at hown4 ⊢
     have HW4:=zB hown4
     clear hown4 hgrow4 hown3 hown2 hbel3 hbel2 c3 q4
     go_wp2
     refine ⟨⟨j+n,g4,c4,_,hjn,by go_num,rfl,zB ((zA hrd).step hpj hlt (zA hbl) (zA hnb) (zA HT)),HW4,hbel4⟩,by simp [intOf]; omega⟩
    ·have Hb:=zB (show zDI s p (j+1) from fun q h1 h2=>by
      by_cases e:q=j
      ·subst e
       rw [ZS hlt] at hb
       simpa using hb
      ·exact (zA hbl) q h1 (by omega))
     go_wp2_with (go_at_call 103; refine (zF1 _ _).mono ?_; rintro e w' ⟨rfl,rfl⟩)
     exact ⟨⟨j+1,by omega,by omega,by go_num,Hb⟩,by simp [intOf]; omega⟩
   ·have HJ:=zB (show j=s.size by omega)
    have hj':((j:Int)==(s.size:Int))=true:=by simp; omega
    have hal:acc.length<=20000:=by have:=(zA hrd).1; omega
    go_wp2_with (at_builtin; refine wpList_append_own _ rfl (.tmp 37) (.tmp 43) 72 rfl (w.heap.size+1) 97 i0 _ 3 40 Tryz.underlying72 (zA HI) (zA HZ).1 (zA HZ).2.1 (zA HZ).2.2 rfl (by decide) _ acc.length (zk acc) rfl ((zA hown).alloc _) ⟨wr.heap.size,0,none⟩ 1 1 (zk [⟨7,s.extract p j,⟨#[]⟩⟩]) rfl rfl (zEH wr ⟨7,s.extract p j,⟨#[]⟩⟩) (zB0 _) ?b1 ?b2 ?b3 ?next)
    case b1=>unfold maxLen; omega
    case b2=>omega
    case b3=>have:=hbel.size; simp; omega
    case next=>
     intro v4 w4 hown4 hgrow4 hnil4
     have hgo:=(zA hown).lt go rfl
     have hbel4:Below w.heap.size w w4:=(hbw.alloc hbw.size _).grown hgrow4 (by have:=hbw.size; simp; omega) (fun q hq=>by simp [Value.ownBlock] at hq; omega)
     obtain ⟨g4,c4,rfl⟩:=ZL hown4 (by simp [hnil4])
     rw [<- zBM] at hown4
     have hl4:acc.length+1=(acc++[(⟨7,s.extract p j,⟨#[]⟩⟩:zK)]).length:=by simp
     rw [hl4] at hown4 ⊢
     have HW4:=zB hown4
     clear hown4 hgrow4 hnil4
     go_wp2
     go_ret2
     obtain ⟨hg,hf⟩:=zB1 (zA HW4)
     have hdn:=(zA hrd).done hp (zA HJ ▸ zA hbl)
     rw [<- zA HJ] at hdn
     exact ⟨⟨g4,c4,_,true,rfl,⟨by omega,zMl (zA HW4)⟩,hf,Or.inl ⟨⟨zA HC,h20⟩,rfl,hdn⟩⟩,hbel4⟩
end Go.Proofs.YtfboipappaonhaaGreat
