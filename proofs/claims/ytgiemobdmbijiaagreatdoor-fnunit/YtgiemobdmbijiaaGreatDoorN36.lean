import Derived.Test.YtgiemobdmbijiaaGreatDoorN12
import Derived.Test.YtgiemobdmbijiaaGreatDoorN33
import Derived.Test.YtgiemobdmbijiaaGreatDoorN35
namespace Go.Proofs.YtgiemobdmbijiaaGreatDoor
set_option linter.unusedSimpArgs false
set_option linter.unusedVariables false
set_option maxHeartbeats 16000000
set_option maxRecDepth 100000
open Go.RowKit
def zM1 (w:World) (gr:Nat) (us:List Int):Prop:=gr < w.heap.size /\ ∀ i,i < us.length -> w.cell? ⟨gr,i,none⟩ = some (.int .i64 (atI us i))
theorem zM1.below {w w':World} {gr B:Nat} {us:List Int} (h:zM1 w gr us) (hb:Below B w w') (hB:gr < B):zM1 w' gr us:=⟨Nat.lt_of_lt_of_le h.1 hb.size,fun i hi=>(hb.cell (p:=⟨gr,i,none⟩) hB).trans (h.2 i hi)⟩
theorem zJK {ns:List OpR} {b x:Nat × SyR} (h:sLv ns x.2 < sLv ns b.2 \/ (sLv ns x.2 = sLv ns b.2 /\ sSo ns x.2 ≠ 2)):zA2 ns (some b) x = some x:=if_pos h
theorem zK1 {ns:List OpR} {b x:Nat × SyR} (h:¬ (sLv ns x.2 < sLv ns b.2 \/ (sLv ns x.2 = sLv ns b.2 /\ sSo ns x.2 ≠ 2))):zA2 ns (some b) x = some b:=if_neg h
theorem zDh {w w':World} (hb:Below w.heap.size w w') {p0 p1 p2 p3 p4:Addr} {v0 v1 v2 v3 v4:Value} (h:w.cell? p0 = some v0 /\ w.cell? p1 = some v1 /\ w.cell? p2 = some v2 /\ w.cell? p3 = some v3 /\ w.cell? p4 = some v4) :
  w'.cell? p0 = some v0 /\ w'.cell? p1 = some v1 /\ w'.cell? p2 = some v2 /\ w'.cell? p3 = some v3 /\ w'.cell? p4 = some v4:=
 ⟨(hb.cell (block_lt_of_cell h.1)).trans h.1,(hb.cell (block_lt_of_cell h.2.1)).trans h.2.1,(hb.cell (block_lt_of_cell h.2.2.1)).trans h.2.2.1,(hb.cell (block_lt_of_cell h.2.2.2.1)).trans h.2.2.2.1,(hb.cell (block_lt_of_cell h.2.2.2.2)).trans h.2.2.2.2⟩
theorem zKK (b off cap gt ot ct gr cr lo hi:Nat) (xs:List OpR) (ts:List zT) (us:List Int) (w:World) (hm:xs.length <= 1048576) (hw:Ops w b off xs) (hB:b < w.heap.size) (ht:zEP w gt ot ts) (hBt:gt < w.heap.size) (hr:zM1 w gr us) (hus:us = Zn xs ts ts.length) (hn:ts.length <= 100000) (hlo:lo <= hi) (hhi:hi <= ts.length)
  (hF:∀ i,i < ts.length -> TkF xs ts i /\ 1 <= (atT ts i).k /\ (atT ts i).k <= 7 /\ (atT ts i).k ≠ 6) :
  Calls Tryz.prog 117 #[.agg #[.slice (some ⟨b,off,none⟩) xs.length cap],.slice (some ⟨gt,ot,none⟩) ts.length ct,.slice (some ⟨gr,0,none⟩) us.length cr,.int .i64 (lo:Int),.int .i64 (hi:Int)] w fun e w'=>e = .returned (.int .i64 (zBu (rtF xs (sgs xs ts lo (hi - lo)) lo 0 none))) /\ Below w.heap.size w w':=by
 have hul1:us.length <= ts.length:=by rw [hus,Zu]; exact Nat.le_refl _
 have hul2:ts.length <= us.length:=by rw [hus,Zu]; exact Nat.le_refl _
 have HUS:=zB (show ∀ i,i < ts.length -> atI us i = zd xs ts i from fun i hi=>by rw [hus]; exact zBX hi)
 have HW:=zB hw
 have HT:=zB ht
 have HR:=zB hr
 have HF:=zB hF
 have hgr:=hr.1
 clear hw ht hr hF hus
 go_enter Tryz.func117,Tryz.ntmps117
 go_wp2_with fail
 go_loopw [11,12,13] (fun bv ov iv wr=>∃ n:Nat,n <= hi - lo /\ iv = .int .i64 ((lo + n:Nat):Int) /\ bv = .int .i64 (zBu (rtF xs (sgs xs ts lo n) lo 0 none)) /\ ov = .int .i64 (opL 0 (sgs xs ts lo n)) /\ Hid (wr.cell? ⟨w.heap.size,0,none⟩ = some (.slice (some ⟨b,off,none⟩) xs.length cap)) /\ Hid (Below w.heap.size w wr)) (fun _ _ iv _=>hi - (intOf iv).toNat)
 case atStart=>exact ⟨0,Nat.zero_le _,rfl,rfl,rfl,zB (by simp [go_sem]),zB (zC _ _)⟩
 case round=>
  obtain ⟨n,hn',rfl,rfl,rfl,hcell,hbel⟩:=hrel
  by_cases hlt:n < hi - lo
  ·have hltI:((lo + n:Nat):Int) < (hi:Int):=by omega
   obtain ⟨i,hie⟩:∃ i,i = lo + n:=⟨_,rfl⟩
   obtain ⟨B,hBe⟩:∃ B,B = rtF xs (sgs xs ts lo n) lo 0 none:=⟨_,rfl⟩
   obtain ⟨op,hope⟩:∃ op,op = opL 0 (sgs xs ts lo n):=⟨_,rfl⟩
   have hit:i < ts.length:=by omega
   have hitI:(i:Int) < (ts.length:Int):=by omega
   have hitU:(i:Int) < (us.length:Int):=by omega
   have hobd:-100000 <= op /\ op <= 100000:=by
    have:=zMx (sgs xs ts lo n) 0
    rw [zDA,<- hope] at this
    omega
   obtain ⟨hob1,hob2⟩:=hobd
   obtain ⟨htk,hk1,hk7,hk6⟩:=(zA HF) i hit
   have HTK:=zB htk
   have HO1:=zB (show opL 0 (sgs xs ts lo (n + 1)) = op + (if (atT ts i).k = 4 then 1 else 0) - (if (atT ts i).k = 5 then 1 else 0) by
    rw [zKz,<- hope,<- hie]; exact zPJ htk ⟨hk1,hk7,hk6⟩ op)
   have HST:=zB (show rtF xs (sgs xs ts lo (n + 1)) lo 0 none = (if opL 0 (sgs xs ts lo (n + 1)) ≠ 0 \/ ¬ (3 <= (sgT xs ts i).1 /\ (sgT xs ts i).1 <= 5) then B else zA2 xs B (i,sgT xs ts i)) by
    rw [zOE,<- zKz,<- hie,<- hBe])
   have HBS:=zB (show ∀ x,B = some x -> lo <= x.1 /\ x.1 < i /\ x.2 = sgT xs ts x.1 /\ (3 <= x.2.1 /\ x.2.1 <= 5) from fun x hx=>by
    have:=zOF (hBe.symm.trans hx)
    rw [hie]; exact this)
   have c0:=((zA HT).below (zA hbel) hBt i hit).1
   have ur:=(((zA HR).below (zA hbel) hgr).2 i (by omega))
   rw [(zA HUS) i hit] at ur
   have tc:=zA hcell
   have HIE:=zB hie
   rw [<- hBe,<- hope,<- hie]
   rw [<- hie] at hltI
   clear hope hBe htk hie
   by_cases k4:(atT ts i).k = 4
   ·have HB1:=zB (show rtF xs (sgs xs ts lo (n + 1)) lo 0 none = B by
     rw [zA HST]
     rcases zA HTK with ⟨k3,_⟩ | ⟨_,_,hno⟩
     ·omega
     ·exact if_pos (Or.inr hno))
    have hro:zd xs ts i = 0:=by
     rcases zA HTK with ⟨k3,_⟩ | ⟨_,h0,_⟩
     ·omega
     ·exact h0
    rw [if_pos k4,if_neg (by omega)] at HO1
    rw [k4] at c0
    rw [hro] at ur
    clear k4 hk1 hk7 hk6 HTK hro HST
    by_cases h0:op + 1 = 0
    ·have e0:(op + 1 != 0) = false:=by simpa using h0
     have HOV:=zB (show op + 1 - 0 = op + 1 by omega)
     clear h0
     go_wp2_with fail
     refine ⟨⟨n + 1,by omega,?_,by rw [zA HB1],by rw [zA HO1,zA HOV],hcell,hbel⟩,?_⟩
     ·first | (rw [zA HIE]; go_num) | (congr 1; have:=zA HIE; omega)
     ·simp [intOf]; omega
    ·have e0:(op + 1 != 0) = true:=by simpa using h0
     have HOV:=zB (show op + 1 - 0 = op + 1 by omega)
     clear h0
     go_wp2_with fail
     refine ⟨⟨n + 1,by omega,?_,by rw [zA HB1],by rw [zA HO1,zA HOV],hcell,hbel⟩,?_⟩
     ·first | (rw [zA HIE]; go_num) | (congr 1; have:=zA HIE; omega)
     ·simp [intOf]; omega
   have e4:((atT ts i).k == 4) = false:=by simpa using k4
   by_cases k5:(atT ts i).k = 5
   ·have HB1:=zB (show rtF xs (sgs xs ts lo (n + 1)) lo 0 none = B by
     rw [zA HST]
     rcases zA HTK with ⟨k3,_⟩ | ⟨_,_,hno⟩
     ·omega
     ·exact if_pos (Or.inr hno))
    have hro:zd xs ts i = 0:=by
     rcases zA HTK with ⟨k3,_⟩ | ⟨_,h0,_⟩
     ·omega
     ·exact h0
    rw [if_neg k4,if_pos k5] at HO1
    rw [k5] at c0
    rw [hro] at ur
    have HOV:=zB (show op + 0 - 1 = op - 1 by omega)
    clear k5 k4 hk1 hk7 hk6 HTK hro HST e4
    by_cases h0:op - 1 = 0
    ·have e0:(op - 1 != 0) = false:=by simpa using h0
     clear h0
     go_wp2_with fail
     refine ⟨⟨n + 1,by omega,?_,by rw [zA HB1],by rw [zA HO1,zA HOV],hcell,hbel⟩,?_⟩
     ·first | (rw [zA HIE]; go_num) | (congr 1; have:=zA HIE; omega)
     ·simp [intOf]; omega
    ·have e0:(op - 1 != 0) = true:=by simpa using h0
     clear h0
     go_wp2_with fail
     refine ⟨⟨n + 1,by omega,?_,by rw [zA HB1],by rw [zA HO1,zA HOV],hcell,hbel⟩,?_⟩
     ·first | (rw [zA HIE]; go_num) | (congr 1; have:=zA HIE; omega)
     ·simp [intOf]; omega
   have e5:((atT ts i).k == 5) = false:=by simpa using k5
   rw [if_neg k4,if_neg k5] at HO1
   have HOV:=zB (show op + 0 - 0 = op by omega)
   rw [zA HOV] at HO1
   by_cases h0:op = 0
   case neg=>
    have HB1:=zB (show rtF xs (sgs xs ts lo (n + 1)) lo 0 none = B by
     rw [zA HST]
     exact if_pos (Or.inl (by rw [zA HO1]; exact h0)))
    have e0:(op != 0) = true:=by simpa using h0
    clear h0 k4 k5 hk1 hk7 hk6 HST HTK
    go_wp2_with fail
    refine ⟨⟨n + 1,by omega,?_,by rw [zA HB1],by rw [zA HO1],hcell,hbel⟩,?_⟩
    ·first | (rw [zA HIE]; go_num) | (congr 1; have:=zA HIE; omega)
    ·simp [intOf]; omega
   subst h0
   rcases zA HTK with ⟨k3,⟨hr1,hr3⟩,hsg,j,hfj,hlv,hso⟩ | ⟨k3,hr0,hno⟩
   case inr=>
    have HB1:=zB (show rtF xs (sgs xs ts lo (n + 1)) lo 0 none = B by
     rw [zA HST]
     exact if_pos (Or.inr hno))
    rw [hr0] at ur
    clear k3 k4 k5 hk1 hk7 hk6 HST HTK hr0 hno
    go_wp2_with fail
    refine ⟨⟨n + 1,by omega,?_,by rw [zA HB1],by rw [zA HO1],hcell,hbel⟩,?_⟩
    ·first | (rw [zA HIE]; go_num) | (congr 1; have:=zA HIE; omega)
    ·simp [intOf]; omega
   have e0:(zd xs ts i == 0) = false:=by simp; omega
   have HST2:=zB (show rtF xs (sgs xs ts lo (n + 1)) lo 0 none = zA2 xs B (i,sgT xs ts i) by
    rw [zA HST]
    refine if_neg (fun h=>?_)
    rcases h with h | h
    ·exact h (zA HO1)
    ·apply h
     rw [hsg]
     simp only
     omega)
   have HJ:=zB (zA0 hfj).1
   have HX:=zJJ b off cap gt ot ct gr cr i j xs ts us wr hm ((zA HW).below (zA hbel) hB) (Nat.lt_of_lt_of_le hB (zA hbel).size) ((zA HT).below (zA hbel) hBt) (Nat.lt_of_lt_of_le hBt (zA hbel).size) ((zA HR).below (zA hbel) hgr).2 hit (by omega) (by rw [(zA HUS) i hit]; exact hfj)
   have HLV:=zB hlv
   have HSO:=zB hso
   clear k3 k4 k5 hk1 hk7 hk6 HST HTK hr1 hr3 hsg hlv hso hfj
   go_wp2_with fail
   refine HX.mono ?_
   clear HX
   rintro e w2 ⟨rfl,hb2⟩
   have HBC:=zB (show Below w.heap.size w (w2.alloc (.cells #[.string (atO xs j).s,.int .i64 (atO xs j).k,.int .i64 (atO xs j).l,.int .i64 (atO xs j).sd] 46)).drew from (((zA hbel).trans (hb2.mono (zA hbel).size)).alloc (Nat.le_trans (zA hbel).size hb2.size) _).drew)
   have HSC:=zB (show (w2.alloc (.cells #[.string (atO xs j).s,.int .i64 (atO xs j).k,.int .i64 (atO xs j).l,.int .i64 (atO xs j).sd] 46)).drew.cell? ⟨w.heap.size,0,none⟩ = some (.slice (some ⟨b,off,none⟩) xs.length cap) /\ (w2.alloc (.cells #[.string (atO xs j).s,.int .i64 (atO xs j).k,.int .i64 (atO xs j).l,.int .i64 (atO xs j).sd] 46)).drew.cell? ⟨w2.heap.size,0,none⟩ = some (.string (atO xs j).s) /\ (w2.alloc (.cells #[.string (atO xs j).s,.int .i64 (atO xs j).k,.int .i64 (atO xs j).l,.int .i64 (atO xs j).sd] 46)).drew.cell? ⟨w2.heap.size,1,none⟩ = some (.int .i64 (atO xs j).k) /\ (w2.alloc (.cells #[.string (atO xs j).s,.int .i64 (atO xs j).k,.int .i64 (atO xs j).l,.int .i64 (atO xs j).sd] 46)).drew.cell? ⟨w2.heap.size,2,none⟩ = some (.int .i64 (atO xs j).l) /\ (w2.alloc (.cells #[.string (atO xs j).s,.int .i64 (atO xs j).k,.int .i64 (atO xs j).l,.int .i64 (atO xs j).sd] 46)).drew.cell? ⟨w2.heap.size,3,none⟩ = some (.int .i64 (atO xs j).sd) from
    ⟨((zC w2 (.cells #[.string (atO xs j).s,.int .i64 (atO xs j).k,.int .i64 (atO xs j).l,.int .i64 (atO xs j).sd] 46)).drew.cell (p:=⟨w.heap.size,0,none⟩) (Nat.lt_of_lt_of_le (block_lt_of_cell tc) hb2.size)).trans ((hb2.cell (p:=⟨w.heap.size,0,none⟩) (block_lt_of_cell tc)).trans tc),
     show (w2.alloc _).cell? _ = _ by simp [go_sem],show (w2.alloc _).cell? _ = _ by simp [go_sem],show (w2.alloc _).cell? _ = _ by simp [go_sem],show (w2.alloc _).cell? _ = _ by simp [go_sem]⟩)
   clear hb2 tc c0 ur hcell hbel e0
   cases hB':B with
   | none=>
    have HB1:=zB (show rtF xs (sgs xs ts lo (n + 1)) lo 0 none = some (i,sgT xs ts i) by rw [zA HST2,hB']; rfl)
    have eR:zBu none = -1:=rfl
    rw [eR]
    clear HST2 HBS hB'
    obtain ⟨z0,z1,z2,z3,z4⟩:=zA HSC
    go_wp2_with fail
    go_quiet (fail)
    go_wp2_with fail
    refine ⟨⟨n + 1,by omega,by first | (rw [zA HIE]; go_num) | (congr 1; have:=zA HIE; omega),by rw [zA HB1]; rfl,by rw [zA HO1],zB (show _ = _ from (zA HSC).1),zB (zFu (zA HBC) rfl rfl rfl rfl)⟩,by simp [intOf]; omega⟩
   | some x=>
    obtain ⟨x1,x2⟩:=x
    obtain ⟨g1,g2,g3,g4⟩:=(zA HBS) _ hB'
    simp only at g1 g2 g3 g4
    have hx1:x1 < ts.length:=by omega
    obtain ⟨jb,hfb,hlb⟩:∃ jb,fnd xs (atT ts x1).t (zd xs ts x1) = some jb /\ sLv xs (sgT xs ts x1) = (atO xs jb).l:=by
     rcases ((zA HF) x1 hx1).1 with ⟨_,_,_,j,h1,h2,_⟩ | ⟨_,_,hno⟩
     ·exact ⟨j,h1,h2⟩
     ·rw [<- g3] at hno; exact absurd g4 hno
    have HL3:=zB (show ∀ W,Below w.heap.size w W -> _ from fun W hW=>zJJ b off cap gt ot ct gr cr x1 jb xs ts us W hm ((zA HW).below hW hB) (Nat.lt_of_lt_of_le hB hW.size) ((zA HT).below hW hBt) (Nat.lt_of_lt_of_le hBt hW.size) ((zA HR).below hW hgr).2 hx1 (by omega) (by rw [(zA HUS) x1 hx1]; exact hfb))
    have hfl:∀ W:World,(Instr.field 46 (.agg #[.string (atO xs jb).s,.int .i64 (atO xs jb).k,.int .i64 (atO xs jb).l,.int .i64 (atO xs jb).sd]) 2).run Tryz.prog W = .ok (.int .i64 (atO xs jb).l) W:=fun W=>zFt W _ _ _ _
    have eR:zBu (some (x1,x2)) = (x1:Int):=rfl
    rw [eR]
    have eb:decide ((x1:Int) < 0) = false:=by rw [decide_eq_false_iff_not]; omega
    rw [g3] at hB'
    have HB2:=zB (show rtF xs (sgs xs ts lo (n + 1)) lo 0 none = zA2 xs (some (x1,sgT xs ts x1)) (i,sgT xs ts i) by rw [zA HST2,hB'])
    have HLB:=zB hlb
    clear HST2 HBS hB' g3 g4 hfb hlb
    rcases (by omega:(atO xs j).l < (atO xs jb).l \/ (atO xs j).l = (atO xs jb).l \/ (atO xs jb).l < (atO xs j).l) with hl | hl | hl
    ·have hld:decide ((atO xs j).l < (atO xs jb).l) = true:=by simpa using hl
     have HB1:=zB (show rtF xs (sgs xs ts lo (n + 1)) lo 0 none = some (i,sgT xs ts i) by
      rw [zA HB2]; exact zJK (Or.inl (by simp only; rw [zA HLV,zA HLB]; exact hl)))
     go_wp2_with fail
     refine wp_region_held_drew (S:=(fun w'=>w'.cell? ⟨w.heap.size,0,none⟩ = some (.slice (some ⟨b,off,none⟩) xs.length cap) /\ w'.cell? ⟨w2.heap.size,0,none⟩ = some (.string (atO xs j).s) /\ w'.cell? ⟨w2.heap.size,1,none⟩ = some (.int .i64 (atO xs j).k) /\ w'.cell? ⟨w2.heap.size,2,none⟩ = some (.int .i64 (atO xs j).l) /\ w'.cell? ⟨w2.heap.size,3,none⟩ = some (.int .i64 (atO xs j).sd))) (by kernel_rfl) (zA HSC) (fun hHeld=>?_)
     refine wpAnyH_take (i:=0) (oi:={ dst:=some 51,op:=_,type:=_,pos:=_,after:=_,guard:=_ }) (v:=.int .i64 (x1:Int)) rfl (by kernel_rfl) (by kernel_rfl) (by kernel_rfl) (fun _ _ _ h=>h) (Or.inl ⟨by rfl,?_⟩) hHeld ?_
     ·intro ww hSw; obtain ⟨s0,s1,s2,s3,s4⟩:=hSw; go_simp
     try simp only [Act.put,List.setIfInBounds_toArray,List.set_cons_zero,List.set_cons_succ]
     refine wpAnyH_take (i:=1) (oi:={ dst:=some 52,op:=_,type:=_,pos:=_,after:=_,guard:=_ }) (v:=.bool false) rfl (by kernel_rfl) (by kernel_rfl) (by kernel_rfl) (fun _ _ _ h=>h) (Or.inl ⟨by rfl,?_⟩) hHeld ?_
     ·intro ww hSw; obtain ⟨s0,s1,s2,s3,s4⟩:=hSw; go_simp
     try simp only [Act.put,List.setIfInBounds_toArray,List.set_cons_zero,List.set_cons_succ]
     refine wpAnyH_take (i:=2) (oi:={ dst:=some 53,op:=_,type:=_,pos:=_,after:=_,guard:=_ }) (v:=.bool false) rfl (by kernel_rfl) (by kernel_rfl) (by kernel_rfl) (fun _ _ _ h=>h) (Or.inl ⟨by rfl,?_⟩) hHeld ?_
     ·intro ww hSw; obtain ⟨s0,s1,s2,s3,s4⟩:=hSw; go_simp
     try simp only [Act.put,List.setIfInBounds_toArray,List.set_cons_zero,List.set_cons_succ]
     refine wpAnyH_take (i:=3) (oi:={ dst:=some 54,op:=_,type:=_,pos:=_,after:=_,guard:=_ }) (v:=.pointer (some ⟨w2.heap.size,2,none⟩)) rfl (by kernel_rfl) (by kernel_rfl) (by kernel_rfl) (fun _ _ _ h=>h) (Or.inl ⟨by rfl,?_⟩) hHeld ?_
     ·intro ww hSw; obtain ⟨s0,s1,s2,s3,s4⟩:=hSw; go_simp
     try simp only [Act.put,List.setIfInBounds_toArray,List.set_cons_zero,List.set_cons_succ]
     refine wpAnyH_take (i:=4) (oi:={ dst:=some 55,op:=_,type:=_,pos:=_,after:=_,guard:=_ }) (v:=.int .i64 (atO xs j).l) rfl (by kernel_rfl) (by kernel_rfl) (by kernel_rfl) (fun _ _ _ h=>h) (Or.inl ⟨by rfl,?_⟩) hHeld ?_
     ·intro ww hSw; obtain ⟨s0,s1,s2,s3,s4⟩:=hSw; go_simp
     try simp only [Act.put,List.setIfInBounds_toArray,List.set_cons_zero,List.set_cons_succ]
     refine wpAnyH_take (i:=5) (oi:={ dst:=some 56,op:=_,type:=_,pos:=_,after:=_,guard:=_ }) (v:=.agg #[.slice (some ⟨b,off,none⟩) xs.length cap]) rfl (by kernel_rfl) (by kernel_rfl) (by kernel_rfl) (fun _ _ _ h=>h) (Or.inl ⟨by rfl,?_⟩) hHeld ?_
     ·intro ww hSw; obtain ⟨s0,s1,s2,s3,s4⟩:=hSw; go_simp
     try simp only [Act.put,List.setIfInBounds_toArray,List.set_cons_zero,List.set_cons_succ]
     refine wpAnyH_take (i:=6) (oi:={ dst:=some 57,op:=_,type:=_,pos:=_,after:=_,guard:=_ }) (v:=.slice (some ⟨gt,ot,none⟩) ts.length ct) rfl (by kernel_rfl) (by kernel_rfl) (by kernel_rfl) (fun _ _ _ h=>h) (Or.inl ⟨by rfl,?_⟩) hHeld ?_
     ·intro ww hSw; obtain ⟨s0,s1,s2,s3,s4⟩:=hSw; go_simp
     try simp only [Act.put,List.setIfInBounds_toArray,List.set_cons_zero,List.set_cons_succ]
     refine wpAnyH_take (i:=7) (oi:={ dst:=some 58,op:=_,type:=_,pos:=_,after:=_,guard:=_ }) (v:=.slice (some ⟨gr,0,none⟩) us.length cr) rfl (by kernel_rfl) (by kernel_rfl) (by kernel_rfl) (fun _ _ _ h=>h) (Or.inl ⟨by rfl,?_⟩) hHeld ?_
     ·intro ww hSw; obtain ⟨s0,s1,s2,s3,s4⟩:=hSw; go_simp
     try simp only [Act.put,List.setIfInBounds_toArray,List.set_cons_zero,List.set_cons_succ]
     refine wpAnyH_take (i:=8) (oi:={ dst:=some 59,op:=_,type:=_,pos:=_,after:=_,guard:=_ }) (v:=.int .i64 (x1:Int)) rfl (by kernel_rfl) (by kernel_rfl) (by kernel_rfl) (fun _ _ _ h=>h) (Or.inl ⟨by rfl,?_⟩) hHeld ?_
     ·intro ww hSw; obtain ⟨s0,s1,s2,s3,s4⟩:=hSw; go_simp
     try simp only [Act.put,List.setIfInBounds_toArray,List.set_cons_zero,List.set_cons_succ]
     refine wpAnyH_ready (rs:=[9]) (by kernel_rfl) (by simp) ?_
     refine AllReadyH.cons rfl (fun K hK=>?_) AllReadyH.nil
     go_simp
     refine ((zA HL3) _ (zA HBC)).mono ?_
     rintro e w3 ⟨rfl,hb3⟩
     replace HBC:=zB ((zA HBC).trans (hb3.mono (zA HBC).size))
     replace HSC:=zB (zDh hb3 (zA HSC))
     clear hb3 hHeld
     refine hK.out _ _ (zA HSC) (fun hHeld=>?_)
     clear hK
     try simp only [Act.put,List.setIfInBounds_toArray,List.set_cons_zero,List.set_cons_succ]
     refine wpAnyH_take (i:=10) (oi:={ dst:=some 61,op:=_,type:=_,pos:=_,after:=_,guard:=_ }) (v:=.int .i64 (atO xs jb).l) rfl (by kernel_rfl) (by kernel_rfl) (by kernel_rfl) (fun _ _ _ h=>h) (Or.inl ⟨by rfl,?_⟩) hHeld ?_
     ·intro ww hSw; obtain ⟨s0,s1,s2,s3,s4⟩:=hSw; go_simp
     try simp only [Act.put,List.setIfInBounds_toArray,List.set_cons_zero,List.set_cons_succ]
     refine wpAnyH_take (i:=11) (oi:={ dst:=some 62,op:=_,type:=_,pos:=_,after:=_,guard:=_ }) (v:=.bool true) rfl (by kernel_rfl) (by kernel_rfl) (by kernel_rfl) (fun _ _ _ h=>h) (Or.inl ⟨by rfl,?_⟩) hHeld ?_
     ·intro ww hSw; obtain ⟨s0,s1,s2,s3,s4⟩:=hSw; go_simp
     try simp only [Act.put,List.setIfInBounds_toArray,List.set_cons_zero,List.set_cons_succ]
     refine wpAnyH_take (i:=12) (oi:={ dst:=some 63,op:=_,type:=_,pos:=_,after:=_,guard:=_ }) (v:=.bool true) rfl (by kernel_rfl) (by kernel_rfl) (by kernel_rfl) (fun _ _ _ h=>h) (Or.inl ⟨by rfl,?_⟩) hHeld ?_
     ·intro ww hSw; obtain ⟨s0,s1,s2,s3,s4⟩:=hSw; go_simp
     try simp only [Act.put,List.setIfInBounds_toArray,List.set_cons_zero,List.set_cons_succ]
     refine wpAnyH_take (i:=13) (oi:={ dst:=some 64,op:=_,type:=_,pos:=_,after:=_,guard:=_ }) (v:=.bool true) rfl (by kernel_rfl) (by kernel_rfl) (by kernel_rfl) (fun _ _ _ h=>h) (Or.inl ⟨by rfl,?_⟩) hHeld ?_
     ·intro ww hSw; obtain ⟨s0,s1,s2,s3,s4⟩:=hSw; go_simp
     try simp only [Act.put,List.setIfInBounds_toArray,List.set_cons_zero,List.set_cons_succ]
     refine wpAnyH_take (i:=14) (oi:={ dst:=some 65,op:=_,type:=_,pos:=_,after:=_,guard:=_ }) (v:=undef) rfl (by kernel_rfl) (by kernel_rfl) (by kernel_rfl) (fun _ _ _ h=>h) (Or.inr ⟨by rfl,rfl⟩) hHeld ?_
     try simp only [Act.put,List.setIfInBounds_toArray,List.set_cons_zero,List.set_cons_succ]
     refine wpAnyH_take (i:=15) (oi:={ dst:=some 66,op:=_,type:=_,pos:=_,after:=_,guard:=_ }) (v:=undef) rfl (by kernel_rfl) (by kernel_rfl) (by kernel_rfl) (fun _ _ _ h=>h) (Or.inr ⟨by rfl,rfl⟩) hHeld ?_
     try simp only [Act.put,List.setIfInBounds_toArray,List.set_cons_zero,List.set_cons_succ]
     refine wpAnyH_take (i:=16) (oi:={ dst:=some 67,op:=_,type:=_,pos:=_,after:=_,guard:=_ }) (v:=undef) rfl (by kernel_rfl) (by kernel_rfl) (by kernel_rfl) (fun _ _ _ h=>h) (Or.inr ⟨by rfl,rfl⟩) hHeld ?_
     try simp only [Act.put,List.setIfInBounds_toArray,List.set_cons_zero,List.set_cons_succ]
     refine wpAnyH_take (i:=17) (oi:={ dst:=some 68,op:=_,type:=_,pos:=_,after:=_,guard:=_ }) (v:=undef) rfl (by kernel_rfl) (by kernel_rfl) (by kernel_rfl) (fun _ _ _ h=>h) (Or.inr ⟨by rfl,rfl⟩) hHeld ?_
     try simp only [Act.put,List.setIfInBounds_toArray,List.set_cons_zero,List.set_cons_succ]
     refine wpAnyH_take (i:=18) (oi:={ dst:=some 69,op:=_,type:=_,pos:=_,after:=_,guard:=_ }) (v:=undef) rfl (by kernel_rfl) (by kernel_rfl) (by kernel_rfl) (fun _ _ _ h=>h) (Or.inr ⟨by rfl,rfl⟩) hHeld ?_
     try simp only [Act.put,List.setIfInBounds_toArray,List.set_cons_zero,List.set_cons_succ]
     refine wpAnyH_take (i:=19) (oi:={ dst:=some 70,op:=_,type:=_,pos:=_,after:=_,guard:=_ }) (v:=undef) rfl (by kernel_rfl) (by kernel_rfl) (by kernel_rfl) (fun _ _ _ h=>h) (Or.inr ⟨by rfl,rfl⟩) hHeld ?_
     try simp only [Act.put,List.setIfInBounds_toArray,List.set_cons_zero,List.set_cons_succ]
     refine wpAnyH_take (i:=20) (oi:={ dst:=some 71,op:=_,type:=_,pos:=_,after:=_,guard:=_ }) (v:=undef) rfl (by kernel_rfl) (by kernel_rfl) (by kernel_rfl) (fun _ _ _ h=>h) (Or.inr ⟨by rfl,rfl⟩) hHeld ?_
     try simp only [Act.put,List.setIfInBounds_toArray,List.set_cons_zero,List.set_cons_succ]
     refine wpAnyH_take (i:=21) (oi:={ dst:=some 72,op:=_,type:=_,pos:=_,after:=_,guard:=_ }) (v:=undef) rfl (by kernel_rfl) (by kernel_rfl) (by kernel_rfl) (fun _ _ _ h=>h) (Or.inr ⟨by rfl,rfl⟩) hHeld ?_
     try simp only [Act.put,List.setIfInBounds_toArray,List.set_cons_zero,List.set_cons_succ]
     refine wpAnyH_take (i:=22) (oi:={ dst:=some 73,op:=_,type:=_,pos:=_,after:=_,guard:=_ }) (v:=undef) rfl (by kernel_rfl) (by kernel_rfl) (by kernel_rfl) (fun _ _ _ h=>h) (Or.inr ⟨by rfl,rfl⟩) hHeld ?_
     try simp only [Act.put,List.setIfInBounds_toArray,List.set_cons_zero,List.set_cons_succ]
     refine wpAnyH_take (i:=23) (oi:={ dst:=some 74,op:=_,type:=_,pos:=_,after:=_,guard:=_ }) (v:=undef) rfl (by kernel_rfl) (by kernel_rfl) (by kernel_rfl) (fun _ _ _ h=>h) (Or.inr ⟨by rfl,rfl⟩) hHeld ?_
     try simp only [Act.put,List.setIfInBounds_toArray,List.set_cons_zero,List.set_cons_succ]
     refine wpAnyH_take (i:=24) (oi:={ dst:=some 75,op:=_,type:=_,pos:=_,after:=_,guard:=_ }) (v:=undef) rfl (by kernel_rfl) (by kernel_rfl) (by kernel_rfl) (fun _ _ _ h=>h) (Or.inr ⟨by rfl,rfl⟩) hHeld ?_
     try simp only [Act.put,List.setIfInBounds_toArray,List.set_cons_zero,List.set_cons_succ]
     refine wpAnyH_take (i:=25) (oi:={ dst:=some 76,op:=_,type:=_,pos:=_,after:=_,guard:=_ }) (v:=undef) rfl (by kernel_rfl) (by kernel_rfl) (by kernel_rfl) (fun _ _ _ h=>h) (Or.inr ⟨by rfl,rfl⟩) hHeld ?_
     try simp only [Act.put,List.setIfInBounds_toArray,List.set_cons_zero,List.set_cons_succ]
     refine wpAnyH_take (i:=26) (oi:={ dst:=some 77,op:=_,type:=_,pos:=_,after:=_,guard:=_ }) (v:=undef) rfl (by kernel_rfl) (by kernel_rfl) (by kernel_rfl) (fun _ _ _ h=>h) (Or.inr ⟨by rfl,rfl⟩) hHeld ?_
     try simp only [Act.put,List.setIfInBounds_toArray,List.set_cons_zero,List.set_cons_succ]
     refine wpAnyH_take (i:=27) (oi:={ dst:=some 78,op:=_,type:=_,pos:=_,after:=_,guard:=_ }) (v:=undef) rfl (by kernel_rfl) (by kernel_rfl) (by kernel_rfl) (fun _ _ _ h=>h) (Or.inr ⟨by rfl,rfl⟩) hHeld ?_
     try simp only [Act.put,List.setIfInBounds_toArray,List.set_cons_zero,List.set_cons_succ]
     refine wpAnyH_take (i:=28) (oi:={ dst:=some 79,op:=_,type:=_,pos:=_,after:=_,guard:=_ }) (v:=.bool true) rfl (by kernel_rfl) (by kernel_rfl) (by kernel_rfl) (fun _ _ _ h=>h) (Or.inl ⟨by rfl,?_⟩) hHeld ?_
     ·intro ww hSw; obtain ⟨s0,s1,s2,s3,s4⟩:=hSw; go_simp
     try simp only [Act.put,List.setIfInBounds_toArray,List.set_cons_zero,List.set_cons_succ]
     refine wpAnyH_done (by kernel_rfl) ?_ _
     all_goals go_wp2_with fail
     all_goals refine ⟨⟨n + 1,by omega,by first | (rw [zA HIE]; go_num) | (congr 1; have:=zA HIE; omega),by rw [zA HB1]; rfl,by rw [zA HO1],zB (zA HSC).1,HBC⟩,by simp [intOf]; omega⟩
    ·have hl2:¬ (atO xs j).l < (atO xs jb).l:=by omega
     have hld:decide ((atO xs j).l < (atO xs jb).l) = false:=by rw [decide_eq_false_iff_not]; exact hl2
     have hle:((atO xs j).l == (atO xs jb).l) = true:=by simpa using hl
     by_cases hs2:srt (atO xs j).k (atO xs j).sd = 2
     ·have hsb:(srt (atO xs j).k (atO xs j).sd != 2) = false:=by simpa using hs2
      have HB1:=zB (show rtF xs (sgs xs ts lo (n + 1)) lo 0 none = some (x1,sgT xs ts x1) by
       rw [zA HB2]; exact zK1 (by simp only; rw [zA HLV,zA HLB,zA HSO]; rintro (h | ⟨_,h⟩); exact hl2 h; exact h hs2))
      have HL2:=zB hl2
      clear hs2 hl hl2
      go_wp2_with fail
      go_region_held (fun w'=>w'.cell? ⟨w.heap.size,0,none⟩ = some (.slice (some ⟨b,off,none⟩) xs.length cap) /\ w'.cell? ⟨w2.heap.size,0,none⟩ = some (.string (atO xs j).s) /\ w'.cell? ⟨w2.heap.size,1,none⟩ = some (.int .i64 (atO xs j).k) /\ w'.cell? ⟨w2.heap.size,2,none⟩ = some (.int .i64 (atO xs j).l) /\ w'.cell? ⟨w2.heap.size,3,none⟩ = some (.int .i64 (atO xs j).sd)) (first | (go_keep; done) | exact zA HSC)
       (first | (go_at_call 130; refine ((zA HL3) _ (zA HBC)).mono ?_; rintro e w3 ⟨rfl,hb3⟩; replace HBC:=zB ((zA HBC).trans (hb3.mono (zA HBC).size)); replace HSC:=zB (zDh hb3 (zA HSC)); clear hb3) | (go_at_call 48; refine (Zw _ _ _ _ _).mono ?_; rintro e w4 ⟨rfl,hb4⟩; replace HBC:=zB ((zA HBC).trans (hb4.mono (zA HBC).size)); replace HSC:=zB (zDh hb4 (zA HSC)); clear hb4))
      all_goals go_wp2_with fail
      all_goals refine ⟨⟨n + 1,by omega,by first | (rw [zA HIE]; go_num) | (congr 1; have:=zA HIE; omega),by rw [zA HB1]; rfl,by rw [zA HO1],zB (zA HSC).1,HBC⟩,by simp [intOf]; omega⟩
     ·have hsb:(srt (atO xs j).k (atO xs j).sd != 2) = true:=by simpa using hs2
      have HB1:=zB (show rtF xs (sgs xs ts lo (n + 1)) lo 0 none = some (i,sgT xs ts i) by
       rw [zA HB2]; exact zJK (Or.inr (by simp only; rw [zA HLV,zA HLB,zA HSO]; exact ⟨hl,hs2⟩)))
      have HL2:=zB hl2
      clear hs2 hl hl2
      go_wp2_with fail
      go_region_held (fun w'=>w'.cell? ⟨w.heap.size,0,none⟩ = some (.slice (some ⟨b,off,none⟩) xs.length cap) /\ w'.cell? ⟨w2.heap.size,0,none⟩ = some (.string (atO xs j).s) /\ w'.cell? ⟨w2.heap.size,1,none⟩ = some (.int .i64 (atO xs j).k) /\ w'.cell? ⟨w2.heap.size,2,none⟩ = some (.int .i64 (atO xs j).l) /\ w'.cell? ⟨w2.heap.size,3,none⟩ = some (.int .i64 (atO xs j).sd)) (first | (go_keep; done) | exact zA HSC)
       (first | (go_at_call 130; refine ((zA HL3) _ (zA HBC)).mono ?_; rintro e w3 ⟨rfl,hb3⟩; replace HBC:=zB ((zA HBC).trans (hb3.mono (zA HBC).size)); replace HSC:=zB (zDh hb3 (zA HSC)); clear hb3) | (go_at_call 48; refine (Zw _ _ _ _ _).mono ?_; rintro e w4 ⟨rfl,hb4⟩; replace HBC:=zB ((zA HBC).trans (hb4.mono (zA HBC).size)); replace HSC:=zB (zDh hb4 (zA HSC)); clear hb4))
      all_goals go_wp2_with fail
      all_goals refine ⟨⟨n + 1,by omega,by first | (rw [zA HIE]; go_num) | (congr 1; have:=zA HIE; omega),by rw [zA HB1]; rfl,by rw [zA HO1],zB (zA HSC).1,HBC⟩,by simp [intOf]; omega⟩
    ·have hl2:¬ (atO xs j).l < (atO xs jb).l:=by omega
     have hld:decide ((atO xs j).l < (atO xs jb).l) = false:=by rw [decide_eq_false_iff_not]; exact hl2
     have hle:((atO xs j).l == (atO xs jb).l) = false:=by simp; omega
     have HB1:=zB (show rtF xs (sgs xs ts lo (n + 1)) lo 0 none = some (x1,sgT xs ts x1) by
      rw [zA HB2]; exact zK1 (by simp only; rw [zA HLV,zA HLB]; rintro (h | ⟨h,_⟩); exact hl2 h; omega))
     go_wp2_with fail
     refine wp_region_held_drew (S:=(fun w'=>w'.cell? ⟨w.heap.size,0,none⟩ = some (.slice (some ⟨b,off,none⟩) xs.length cap) /\ w'.cell? ⟨w2.heap.size,0,none⟩ = some (.string (atO xs j).s) /\ w'.cell? ⟨w2.heap.size,1,none⟩ = some (.int .i64 (atO xs j).k) /\ w'.cell? ⟨w2.heap.size,2,none⟩ = some (.int .i64 (atO xs j).l) /\ w'.cell? ⟨w2.heap.size,3,none⟩ = some (.int .i64 (atO xs j).sd))) (by kernel_rfl) (zA HSC) (fun hHeld=>?_)
     refine wpAnyH_take (i:=0) (oi:={ dst:=some 51,op:=_,type:=_,pos:=_,after:=_,guard:=_ }) (v:=.int .i64 (x1:Int)) rfl (by kernel_rfl) (by kernel_rfl) (by kernel_rfl) (fun _ _ _ h=>h) (Or.inl ⟨by rfl,?_⟩) hHeld ?_
     ·intro ww hSw; obtain ⟨s0,s1,s2,s3,s4⟩:=hSw; go_simp
     try simp only [Act.put,List.setIfInBounds_toArray,List.set_cons_zero,List.set_cons_succ]
     refine wpAnyH_take (i:=1) (oi:={ dst:=some 52,op:=_,type:=_,pos:=_,after:=_,guard:=_ }) (v:=.bool false) rfl (by kernel_rfl) (by kernel_rfl) (by kernel_rfl) (fun _ _ _ h=>h) (Or.inl ⟨by rfl,?_⟩) hHeld ?_
     ·intro ww hSw; obtain ⟨s0,s1,s2,s3,s4⟩:=hSw; go_simp
     try simp only [Act.put,List.setIfInBounds_toArray,List.set_cons_zero,List.set_cons_succ]
     refine wpAnyH_take (i:=2) (oi:={ dst:=some 53,op:=_,type:=_,pos:=_,after:=_,guard:=_ }) (v:=.bool false) rfl (by kernel_rfl) (by kernel_rfl) (by kernel_rfl) (fun _ _ _ h=>h) (Or.inl ⟨by rfl,?_⟩) hHeld ?_
     ·intro ww hSw; obtain ⟨s0,s1,s2,s3,s4⟩:=hSw; go_simp
     try simp only [Act.put,List.setIfInBounds_toArray,List.set_cons_zero,List.set_cons_succ]
     refine wpAnyH_take (i:=3) (oi:={ dst:=some 54,op:=_,type:=_,pos:=_,after:=_,guard:=_ }) (v:=.pointer (some ⟨w2.heap.size,2,none⟩)) rfl (by kernel_rfl) (by kernel_rfl) (by kernel_rfl) (fun _ _ _ h=>h) (Or.inl ⟨by rfl,?_⟩) hHeld ?_
     ·intro ww hSw; obtain ⟨s0,s1,s2,s3,s4⟩:=hSw; go_simp
     try simp only [Act.put,List.setIfInBounds_toArray,List.set_cons_zero,List.set_cons_succ]
     refine wpAnyH_take (i:=4) (oi:={ dst:=some 55,op:=_,type:=_,pos:=_,after:=_,guard:=_ }) (v:=.int .i64 (atO xs j).l) rfl (by kernel_rfl) (by kernel_rfl) (by kernel_rfl) (fun _ _ _ h=>h) (Or.inl ⟨by rfl,?_⟩) hHeld ?_
     ·intro ww hSw; obtain ⟨s0,s1,s2,s3,s4⟩:=hSw; go_simp
     try simp only [Act.put,List.setIfInBounds_toArray,List.set_cons_zero,List.set_cons_succ]
     refine wpAnyH_take (i:=5) (oi:={ dst:=some 56,op:=_,type:=_,pos:=_,after:=_,guard:=_ }) (v:=.agg #[.slice (some ⟨b,off,none⟩) xs.length cap]) rfl (by kernel_rfl) (by kernel_rfl) (by kernel_rfl) (fun _ _ _ h=>h) (Or.inl ⟨by rfl,?_⟩) hHeld ?_
     ·intro ww hSw; obtain ⟨s0,s1,s2,s3,s4⟩:=hSw; go_simp
     try simp only [Act.put,List.setIfInBounds_toArray,List.set_cons_zero,List.set_cons_succ]
     refine wpAnyH_take (i:=6) (oi:={ dst:=some 57,op:=_,type:=_,pos:=_,after:=_,guard:=_ }) (v:=.slice (some ⟨gt,ot,none⟩) ts.length ct) rfl (by kernel_rfl) (by kernel_rfl) (by kernel_rfl) (fun _ _ _ h=>h) (Or.inl ⟨by rfl,?_⟩) hHeld ?_
     ·intro ww hSw; obtain ⟨s0,s1,s2,s3,s4⟩:=hSw; go_simp
     try simp only [Act.put,List.setIfInBounds_toArray,List.set_cons_zero,List.set_cons_succ]
     refine wpAnyH_take (i:=7) (oi:={ dst:=some 58,op:=_,type:=_,pos:=_,after:=_,guard:=_ }) (v:=.slice (some ⟨gr,0,none⟩) us.length cr) rfl (by kernel_rfl) (by kernel_rfl) (by kernel_rfl) (fun _ _ _ h=>h) (Or.inl ⟨by rfl,?_⟩) hHeld ?_
     ·intro ww hSw; obtain ⟨s0,s1,s2,s3,s4⟩:=hSw; go_simp
     try simp only [Act.put,List.setIfInBounds_toArray,List.set_cons_zero,List.set_cons_succ]
     refine wpAnyH_take (i:=8) (oi:={ dst:=some 59,op:=_,type:=_,pos:=_,after:=_,guard:=_ }) (v:=.int .i64 (x1:Int)) rfl (by kernel_rfl) (by kernel_rfl) (by kernel_rfl) (fun _ _ _ h=>h) (Or.inl ⟨by rfl,?_⟩) hHeld ?_
     ·intro ww hSw; obtain ⟨s0,s1,s2,s3,s4⟩:=hSw; go_simp
     try simp only [Act.put,List.setIfInBounds_toArray,List.set_cons_zero,List.set_cons_succ]
     refine wpAnyH_ready (rs:=[9]) (by kernel_rfl) (by simp) ?_
     refine AllReadyH.cons rfl (fun K hK=>?_) AllReadyH.nil
     go_simp
     refine ((zA HL3) _ (zA HBC)).mono ?_
     rintro e w3 ⟨rfl,hb3⟩
     replace HBC:=zB ((zA HBC).trans (hb3.mono (zA HBC).size))
     replace HSC:=zB (zDh hb3 (zA HSC))
     clear hb3 hHeld
     refine hK.out _ _ (zA HSC) (fun hHeld=>?_)
     clear hK
     try simp only [Act.put,List.setIfInBounds_toArray,List.set_cons_zero,List.set_cons_succ]
     refine wpAnyH_take (i:=10) (oi:={ dst:=some 61,op:=_,type:=_,pos:=_,after:=_,guard:=_ }) (v:=.int .i64 (atO xs jb).l) rfl (by kernel_rfl) (by kernel_rfl) (by kernel_rfl) (fun _ _ _ h=>h) (Or.inl ⟨by rfl,?_⟩) hHeld ?_
     ·intro ww hSw; obtain ⟨s0,s1,s2,s3,s4⟩:=hSw; go_simp
     try simp only [Act.put,List.setIfInBounds_toArray,List.set_cons_zero,List.set_cons_succ]
     refine wpAnyH_take (i:=11) (oi:={ dst:=some 62,op:=_,type:=_,pos:=_,after:=_,guard:=_ }) (v:=.bool false) rfl (by kernel_rfl) (by kernel_rfl) (by kernel_rfl) (fun _ _ _ h=>h) (Or.inl ⟨by rfl,?_⟩) hHeld ?_
     ·intro ww hSw; obtain ⟨s0,s1,s2,s3,s4⟩:=hSw; go_simp
     try simp only [Act.put,List.setIfInBounds_toArray,List.set_cons_zero,List.set_cons_succ]
     refine wpAnyH_take (i:=12) (oi:={ dst:=some 63,op:=_,type:=_,pos:=_,after:=_,guard:=_ }) (v:=.bool false) rfl (by kernel_rfl) (by kernel_rfl) (by kernel_rfl) (fun _ _ _ h=>h) (Or.inl ⟨by rfl,?_⟩) hHeld ?_
     ·intro ww hSw; obtain ⟨s0,s1,s2,s3,s4⟩:=hSw; go_simp
     try simp only [Act.put,List.setIfInBounds_toArray,List.set_cons_zero,List.set_cons_succ]
     refine wpAnyH_take (i:=13) (oi:={ dst:=some 64,op:=_,type:=_,pos:=_,after:=_,guard:=_ }) (v:=.bool false) rfl (by kernel_rfl) (by kernel_rfl) (by kernel_rfl) (fun _ _ _ h=>h) (Or.inl ⟨by rfl,?_⟩) hHeld ?_
     ·intro ww hSw; obtain ⟨s0,s1,s2,s3,s4⟩:=hSw; go_simp
     try simp only [Act.put,List.setIfInBounds_toArray,List.set_cons_zero,List.set_cons_succ]
     refine wpAnyH_take (i:=14) (oi:={ dst:=some 65,op:=_,type:=_,pos:=_,after:=_,guard:=_ }) (v:=.pointer (some ⟨w2.heap.size,2,none⟩)) rfl (by kernel_rfl) (by kernel_rfl) (by kernel_rfl) (fun _ _ _ h=>h) (Or.inl ⟨by rfl,?_⟩) hHeld ?_
     ·intro ww hSw; obtain ⟨s0,s1,s2,s3,s4⟩:=hSw; go_simp
     try simp only [Act.put,List.setIfInBounds_toArray,List.set_cons_zero,List.set_cons_succ]
     refine wpAnyH_take (i:=15) (oi:={ dst:=some 66,op:=_,type:=_,pos:=_,after:=_,guard:=_ }) (v:=.int .i64 (atO xs j).l) rfl (by kernel_rfl) (by kernel_rfl) (by kernel_rfl) (fun _ _ _ h=>h) (Or.inl ⟨by rfl,?_⟩) hHeld ?_
     ·intro ww hSw; obtain ⟨s0,s1,s2,s3,s4⟩:=hSw; go_simp
     try simp only [Act.put,List.setIfInBounds_toArray,List.set_cons_zero,List.set_cons_succ]
     refine wpAnyH_take (i:=16) (oi:={ dst:=some 67,op:=_,type:=_,pos:=_,after:=_,guard:=_ }) (v:=.agg #[.slice (some ⟨b,off,none⟩) xs.length cap]) rfl (by kernel_rfl) (by kernel_rfl) (by kernel_rfl) (fun _ _ _ h=>h) (Or.inl ⟨by rfl,?_⟩) hHeld ?_
     ·intro ww hSw; obtain ⟨s0,s1,s2,s3,s4⟩:=hSw; go_simp
     try simp only [Act.put,List.setIfInBounds_toArray,List.set_cons_zero,List.set_cons_succ]
     refine wpAnyH_take (i:=17) (oi:={ dst:=some 68,op:=_,type:=_,pos:=_,after:=_,guard:=_ }) (v:=.slice (some ⟨gt,ot,none⟩) ts.length ct) rfl (by kernel_rfl) (by kernel_rfl) (by kernel_rfl) (fun _ _ _ h=>h) (Or.inl ⟨by rfl,?_⟩) hHeld ?_
     ·intro ww hSw; obtain ⟨s0,s1,s2,s3,s4⟩:=hSw; go_simp
     try simp only [Act.put,List.setIfInBounds_toArray,List.set_cons_zero,List.set_cons_succ]
     refine wpAnyH_take (i:=18) (oi:={ dst:=some 69,op:=_,type:=_,pos:=_,after:=_,guard:=_ }) (v:=.slice (some ⟨gr,0,none⟩) us.length cr) rfl (by kernel_rfl) (by kernel_rfl) (by kernel_rfl) (fun _ _ _ h=>h) (Or.inl ⟨by rfl,?_⟩) hHeld ?_
     ·intro ww hSw; obtain ⟨s0,s1,s2,s3,s4⟩:=hSw; go_simp
     try simp only [Act.put,List.setIfInBounds_toArray,List.set_cons_zero,List.set_cons_succ]
     refine wpAnyH_take (i:=19) (oi:={ dst:=some 70,op:=_,type:=_,pos:=_,after:=_,guard:=_ }) (v:=.int .i64 (x1:Int)) rfl (by kernel_rfl) (by kernel_rfl) (by kernel_rfl) (fun _ _ _ h=>h) (Or.inl ⟨by rfl,?_⟩) hHeld ?_
     ·intro ww hSw; obtain ⟨s0,s1,s2,s3,s4⟩:=hSw; go_simp
     try simp only [Act.put,List.setIfInBounds_toArray,List.set_cons_zero,List.set_cons_succ]
     refine wpAnyH_ready (rs:=[20]) (by kernel_rfl) (by simp) ?_
     refine AllReadyH.cons rfl (fun K hK=>?_) AllReadyH.nil
     go_simp
     refine ((zA HL3) _ (zA HBC)).mono ?_
     rintro e w3 ⟨rfl,hb3⟩
     replace HBC:=zB ((zA HBC).trans (hb3.mono (zA HBC).size))
     replace HSC:=zB (zDh hb3 (zA HSC))
     clear hb3 hHeld
     refine hK.out _ _ (zA HSC) (fun hHeld=>?_)
     clear hK
     try simp only [Act.put,List.setIfInBounds_toArray,List.set_cons_zero,List.set_cons_succ]
     refine wpAnyH_take (i:=21) (oi:={ dst:=some 72,op:=_,type:=_,pos:=_,after:=_,guard:=_ }) (v:=.int .i64 (atO xs jb).l) rfl (by kernel_rfl) (by kernel_rfl) (by kernel_rfl) (fun _ _ _ h=>h) (Or.inl ⟨by rfl,?_⟩) hHeld ?_
     ·intro ww hSw; obtain ⟨s0,s1,s2,s3,s4⟩:=hSw; go_simp
     try simp only [Act.put,List.setIfInBounds_toArray,List.set_cons_zero,List.set_cons_succ]
     refine wpAnyH_take (i:=22) (oi:={ dst:=some 73,op:=_,type:=_,pos:=_,after:=_,guard:=_ }) (v:=.bool false) rfl (by kernel_rfl) (by kernel_rfl) (by kernel_rfl) (fun _ _ _ h=>h) (Or.inl ⟨by rfl,?_⟩) hHeld ?_
     ·intro ww hSw; obtain ⟨s0,s1,s2,s3,s4⟩:=hSw; go_simp
     try simp only [Act.put,List.setIfInBounds_toArray,List.set_cons_zero,List.set_cons_succ]
     refine wpAnyH_take (i:=23) (oi:={ dst:=some 74,op:=_,type:=_,pos:=_,after:=_,guard:=_ }) (v:=.bool false) rfl (by kernel_rfl) (by kernel_rfl) (by kernel_rfl) (fun _ _ _ h=>h) (Or.inl ⟨by rfl,?_⟩) hHeld ?_
     ·intro ww hSw; obtain ⟨s0,s1,s2,s3,s4⟩:=hSw; go_simp
     try simp only [Act.put,List.setIfInBounds_toArray,List.set_cons_zero,List.set_cons_succ]
     refine wpAnyH_take (i:=24) (oi:={ dst:=some 75,op:=_,type:=_,pos:=_,after:=_,guard:=_ }) (v:=undef) rfl (by kernel_rfl) (by kernel_rfl) (by kernel_rfl) (fun _ _ _ h=>h) (Or.inr ⟨by rfl,rfl⟩) hHeld ?_
     try simp only [Act.put,List.setIfInBounds_toArray,List.set_cons_zero,List.set_cons_succ]
     refine wpAnyH_take (i:=25) (oi:={ dst:=some 76,op:=_,type:=_,pos:=_,after:=_,guard:=_ }) (v:=undef) rfl (by kernel_rfl) (by kernel_rfl) (by kernel_rfl) (fun _ _ _ h=>h) (Or.inr ⟨by rfl,rfl⟩) hHeld ?_
     try simp only [Act.put,List.setIfInBounds_toArray,List.set_cons_zero,List.set_cons_succ]
     refine wpAnyH_take (i:=26) (oi:={ dst:=some 77,op:=_,type:=_,pos:=_,after:=_,guard:=_ }) (v:=undef) rfl (by kernel_rfl) (by kernel_rfl) (by kernel_rfl) (fun _ _ _ h=>h) (Or.inr ⟨by rfl,rfl⟩) hHeld ?_
     try simp only [Act.put,List.setIfInBounds_toArray,List.set_cons_zero,List.set_cons_succ]
     refine wpAnyH_take (i:=27) (oi:={ dst:=some 78,op:=_,type:=_,pos:=_,after:=_,guard:=_ }) (v:=.bool false) rfl (by kernel_rfl) (by kernel_rfl) (by kernel_rfl) (fun _ _ _ h=>h) (Or.inl ⟨by rfl,?_⟩) hHeld ?_
     ·intro ww hSw; obtain ⟨s0,s1,s2,s3,s4⟩:=hSw; go_simp
     try simp only [Act.put,List.setIfInBounds_toArray,List.set_cons_zero,List.set_cons_succ]
     refine wpAnyH_take (i:=28) (oi:={ dst:=some 79,op:=_,type:=_,pos:=_,after:=_,guard:=_ }) (v:=.bool false) rfl (by kernel_rfl) (by kernel_rfl) (by kernel_rfl) (fun _ _ _ h=>h) (Or.inl ⟨by rfl,?_⟩) hHeld ?_
     ·intro ww hSw; obtain ⟨s0,s1,s2,s3,s4⟩:=hSw; go_simp
     try simp only [Act.put,List.setIfInBounds_toArray,List.set_cons_zero,List.set_cons_succ]
     refine wpAnyH_done (by kernel_rfl) ?_ _
     all_goals go_wp2_with fail
     all_goals refine ⟨⟨n + 1,by omega,by first | (rw [zA HIE]; go_num) | (congr 1; have:=zA HIE; omega),by rw [zA HB1]; rfl,by rw [zA HO1],zB (zA HSC).1,HBC⟩,by simp [intOf]; omega⟩
  ·have hltI:¬ ((lo + n:Nat):Int) < (hi:Int):=by omega
   have e:n = hi - lo:=by omega
   subst e
   go_wp2_with fail
   go_ret
   exact ⟨rfl,zA hbel⟩
end Go.Proofs.YtgiemobdmbijiaaGreatDoor
