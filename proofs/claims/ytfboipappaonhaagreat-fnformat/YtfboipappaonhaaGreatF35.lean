import Derived.Deep.QuietTactic
import Derived.BigQuiet
import Derived.Test.YtfboipappaonhaaGreatF12
import Derived.Test.YtfboipappaonhaaGreatF29
import Derived.Test.YtfboipappaonhaaGreatF32
namespace Go.Proofs.YtfboipappaonhaaGreat
set_option linter.unusedSimpArgs false
set_option maxHeartbeats 16000000
set_option maxRecDepth 100000
open Go.RowKit
theorem zId (ts:List zK):∀ i:Nat,-(i:Int)<=opI ts i/\opI ts i<=(i:Int)
 | 0=>by simp [opI]
 | i+1=>by
  have:=zId ts i
  simp only [opI]
  split <;> split <;> omega
theorem zCN (b off cap n:Nat) (ts:List zK) (w:World) (hm:ts.length<=1048576) (hn:n<=ts.length) (hw:zCS w b off ts) :
  Calls Tryz.prog 148 #[.slice (some ⟨b,off,none⟩) ts.length cap,.int .i64 (n:Int)] w fun e w'=>e = .returned (.int .i64 (opI ts n))/\w'=w:=by
 have HW:=zB hw
 clear hw
 go_enter Tryz.func148,Tryz.ntmps148
 go_wp2
 go_loop [5,6] (fun o i=>∃ k:Nat,k<=n/\i = .int .i64 (k:Int)/\o = .int .i64 (opI ts k)) (fun _ i=>n-(intOf i).toNat)
 case atStart=>exact ⟨0,Nat.zero_le _,rfl,rfl⟩
 case round=>
  obtain ⟨k,hk,rfl,rfl⟩:=hrel
  have hr:=zId ts k
  by_cases hlt:k<n
  ·obtain ⟨a0,a1,a2⟩:=(zA HW) k (by omega)
   have hlt2:k<ts.length:=by omega
   have HS:=zB (show opI ts (k+1)=opI ts k+(if (atT ts k).k=4 then 1 else 0)-(if (atT ts k).k=5 then 1 else 0) from rfl)
   go_wp2
   all_goals
    refine ⟨⟨k+1,by omega,by go_num,?_⟩,by simp [intOf]; omega⟩
    rw [zA HS]
    go_light
    simp only [beq_iff_eq,beq_eq_false_iff_ne,ne_eq] at *
    first | (congr 1; split <;> split <;> omega) | simp [*] | (simp_all; omega)
  ·have HX:=zB (show k=n by omega)
   go_wp2
   go_ret
   exact ⟨zF (by rw [zA HX]),rfl⟩
def zCO (xs:List OpR) (ts:List zK) (k:Nat):List Bool:=(List.range (k+1)).map (zAk xs ts)
def zAR (l:List Bool):List Value:=l.map fun b=>.bool b
theorem zA6 (xs:List OpR) (ts:List zK) (k:Nat):zAR (zCO xs ts (k+1))=zAR (zCO xs ts k)++[.bool (zAk xs ts (k+1))]:=by
 simp [zCO,zAR,List.range_succ (n:=k+1)]
theorem zKd (xs:List OpR) (ts:List zK) (k i:Nat) (h:i<=k):(zAR (zCO xs ts k))[i]?=some (.bool (zAk xs ts i)):=by
 have:i<k+1:=by omega
 simp [zAR,zCO,this]
theorem zOT:(Tryz.prog.info? 4).map (fun i=>(i.zero,i.size,i.bytes))=some (some (.bool false),1,1):=by kernel_rfl
theorem Zk (w:World) (n:Nat):w.grownBy (w.drewN n) none:=⟨rfl,rfl,rfl,Nat.le_refl _,fun _ _ _=>rfl⟩
theorem below_drewN (w:World) (n:Nat):Below w.heap.size w (w.drewN n):=⟨rfl,rfl,rfl,Nat.le_refl _,fun _ _=>rfl⟩
theorem zBa (w:World) (v:Bool):∀ j u,([Value.bool v])[j]?=some u->(w.alloc (.cells #[.bool v] 4)).cell? ((⟨w.heap.size,0,none⟩:Addr).add j)=some u:=by
 intro j u hj
 rw [Addr.add_mid]
 have:=World.rangeAt_of_block (w:=w.alloc (.cells #[.bool v] 4)) (b:=w.heap.size) (heap_alloc_new w _) 0 1
 exact this j u (by simpa using hj)
theorem zJd (b off cap b' off' cap':Nat) (xs:List OpR) (ts:List zK) (w:World) (hmx:xs.length<=1048576) (hm:ts.length<=1048576) (hw:Ops w b off xs) (hB:b<w.heap.size) (hw':zCS w b' off' ts) (hB':b'<w.heap.size) :
  Calls Tryz.prog 107 #[.agg #[.slice (some ⟨b,off,none⟩) xs.length cap],.slice (some ⟨b',off',none⟩) ts.length cap'] w fun e w'=>(∃ g c,e = .returned (.slice (some ⟨g,0,none⟩) (ts.length+1) c)/\w.heap.size<=g/\g<w'.heap.size/\∀ i,i<=ts.length->w'.cell? ⟨g,i,none⟩=some (.bool (zAk xs ts i)))/\Below w.heap.size w w':=by
 obtain ⟨i0,hi,hz0,hz1,hz2⟩:=info_parts zOT
 have HI:=zB hi
 have HZ:=zB (And.intro hz0 (And.intro hz1 hz2))
 have HW:=zB hw
 have HT:=zB hw'
 clear hi hz0 hz1 hz2 hw hw'
 have HO:=zB (show ((w.alloc (.cells #[.slice (some ⟨b,off,none⟩) xs.length cap] 25)).alloc (.cells #[.bool false] 4)).ownsRow (w.heap.size+1) 4 1 (.slice (some ⟨w.heap.size+1,0,none⟩) 1 1) 1 (zAR (zCO xs ts 0)) by
  have h0:=World.ownsRow_lit (base:=w.heap.size+1) (e:=4) (size:=1) (w.alloc (.cells #[.slice (some ⟨b,off,none⟩) xs.length cap] 25)) #[.bool false] 1 (by simp) (by decide) rfl
  simpa [zAR,zCO,zAk] using h0)
 go_enter Tryz.func107,Tryz.ntmps107
 go_wp2_with fail
 go_loopw [5,6] (fun out i wr=>∃ (k g c:Nat),k<=ts.length/\i = .int .i64 (k:Int)/\out = .slice (some ⟨g,0,none⟩) (k+1) c/\Hid (wr.ownsRow (w.heap.size+1) 4 1 (.slice (some ⟨g,0,none⟩) (k+1) c) (k+1) (zAR (zCO xs ts k)))/\Below (w.heap.size+1) (w.alloc (.cells #[.slice (some ⟨b,off,none⟩) xs.length cap] 25)) wr) (fun _ i _=>ts.length-(intOf i).toNat)
 case atStart=>exact ⟨0,w.heap.size+1,1,Nat.zero_le _,rfl,rfl,HO,(zC _ _).mono (by simp)⟩
 case round=>
  clear HO
  obtain ⟨k,g,c,hk,rfl,rfl,hown,hbel⟩:=hrel
  have hbw:Below w.heap.size w wr:=(zC _ _).trans (hbel.mono (by omega))
  have zw:w.heap.size<wr.heap.size:=by have:=hbel.size; simp at this; omega
  have c0:wr.cell? ⟨w.heap.size,0,none⟩=some (.slice (some ⟨b,off,none⟩) xs.length cap):=by
   rw [hbel.cell (p:=⟨w.heap.size,0,none⟩) (show w.heap.size<_ by omega)]; simp [go_sem]
  by_cases hlt:k<ts.length
  ·obtain ⟨a0,a1,a2⟩:=((zA HT) k hlt).below hbw hB'
   have s0:wr.cell? ⟨g,k,none⟩=some (.bool (zAk xs ts k)):=((zA hown).cellAt k (by omega)).trans (zKd xs ts k k (Nat.le_refl _))
   have hltI:(k:Int)<(ts.length:Int):=by omega
   have hk1:(k:Int)<((k+1:Nat):Int):=by omega
   have hk1':(k:Int)<(k:Int)+1:=by omega
   by_cases h3:(atT ts k).k=3
   case pos=>
    have g1:((atT ts k).k==1)=false:=by simp; omega
    have g2:((atT ts k).k==2)=false:=by simp; omega
    have g5:((atT ts k).k==5)=false:=by simp; omega
    have g3:((atT ts k).k==3)=true:=by simpa using h3
    cases hst:zAk xs ts k
    ·rw [hst] at s0
     have HV:=zB (show zAk xs ts (k+1)=false by simp [zAk,zDW,hst,h3])
     clear h3
     go_wp2_with fail
     go_quiet (fail)
     go_wp2_with (at_builtin; refine wpList_append_own _ rfl (.tmp 49) (.tmp 51) 92 rfl (w.heap.size+1) 4 i0 _ 1 1 Tryz.underlying92 (zA HI) (zA HZ).1 (zA HZ).2.1 (zA HZ).2.2 rfl (by decide) _ (k+1) (zAR (zCO xs ts k)) rfl (((zA hown).kept (Zk wr nq) (Or.inr (by simp [Value.ownBlock]))).alloc _) ⟨(wr.drewN nq).heap.size,0,none⟩ 1 1 [.bool false] rfl rfl (zBa (wr.drewN nq) false) (by simp [Value.oneCell']) ?b1 ?b2 ?b3 ?next)
     case b1=>unfold maxLen; omega
     case b2=>omega
     case b3=>have:=(hbel.trans ((below_drewN wr nq).mono zw)).size; simp at this; simp; omega
     case next=>
      intro v4 w4 hown4 hgrow4 hnil4
      have hgo:=((zA hown).kept (Zk wr nq) (Or.inr (by simp [Value.ownBlock]))).lt g rfl
      have hbel4:Below (w.heap.size+1) (w.alloc (.cells #[.slice (some ⟨b,off,none⟩) xs.length cap] 25)) w4:=((hbel.trans ((below_drewN wr nq).mono zw)).alloc (by have:=(hbel.trans ((below_drewN wr nq).mono zw)).size; simp at this; omega) _).grown hgrow4 (by have:=(hbel.trans ((below_drewN wr nq).mono zw)).size; simp at this; simp; omega) (fun q hq=>by simp [Value.ownBlock] at hq; omega)
      obtain ⟨g4,c4,rfl⟩:=ZL hown4 (by simp [hnil4])
      rw [show [Value.bool false]=[.bool (zAk xs ts (k+1))] by rw [zA HV],<- zA6] at hown4
      have HW4:=zB hown4
      clear hown4 hgrow4 hnil4
      go_wp2
      exact ⟨⟨k+1,g4,c4,by omega,by go_num,rfl,HW4,hbel4⟩,by simp [intOf]; omega⟩
    ·rw [hst] at s0
     have HST:=zB hst
     have H3:=zB h3
     have zb:b<wr.heap.size:=by omega
     have zg:=(zA hown).lt g rfl
     clear h3
     go_wp2_with fail
     go_region_held (fun w'=>w'.cell? ⟨w.heap.size,0,none⟩=some (.slice (some ⟨b,off,none⟩) xs.length cap)/\w'.cell? ⟨g,k,none⟩=some (.bool true)/\w'.cell? ⟨b',off'+k*3+2,none⟩=some (.string (atT ts k).t)) (go_keep) (first | (go_at_call 97; refine (zAz b off cap xs (atT ts k).t 3 _ hmx ((zA HW).below hbw.drew hB) zb).mono ?_; rintro e w2 ⟨⟨r,rfl,hr⟩,hb2⟩; have HR:=zB hr; have HB2:=zB hb2; have q0:=(hb2.cell (p:=⟨w.heap.size,0,none⟩) zw).trans (show wr.drew.cell? ⟨w.heap.size,0,none⟩=_ from c0); have q1:=(hb2.cell (p:=⟨g,k,none⟩) zg.2).trans (show wr.drew.cell? ⟨g,k,none⟩=_ from s0); have q2:=(hb2.cell (p:=⟨b',off'+k*3+2,none⟩) (Nat.lt_of_lt_of_le hB' (Nat.le_of_lt zw))).trans (show wr.drew.cell? ⟨b',off'+k*3+2,none⟩=_ from a2); clear hr hb2))
     have hbel2:=hbel.drew.trans ((zA HB2).mono zw)
     have HOW2:=zB ((zA hown).drew.kept (Zb (zA HB2) none) (Or.inr (by simp [Value.ownBlock])))
     by_cases hr0:0<=r
     ·have HV:=zB (show zAk xs ts (k+1)=true by
       have:=(ZQ xs (atT ts k).t 3).2 ((zA HR).1 hr0)
       simp [zAk,zDW,zA HST,zA H3,this])
      go_wp2_with (at_builtin; refine wpList_append_own _ rfl (.tmp 49) (.tmp 51) 92 rfl (w.heap.size+1) 4 i0 _ 1 1 Tryz.underlying92 (zA HI) (zA HZ).1 (zA HZ).2.1 (zA HZ).2.2 rfl (by decide) _ (k+1) (zAR (zCO xs ts k)) rfl ((zA HOW2).alloc _) ⟨(w2).heap.size,0,none⟩ 1 1 [.bool true] rfl rfl (zBa (w2) true) (by simp [Value.oneCell']) ?b1 ?b2 ?b3 ?next)
      case b1=>unfold maxLen; omega
      case b2=>omega
      case b3=>have:=(hbel2).size; simp at this; simp; omega
      case next=>
       intro v4 w4 hown4 hgrow4 hnil4
       have hgo:=(zA HOW2).lt g rfl
       have hbel4:Below (w.heap.size+1) (w.alloc (.cells #[.slice (some ⟨b,off,none⟩) xs.length cap] 25)) w4:=((hbel2).alloc (by have:=(hbel2).size; simp at this; omega) _).grown hgrow4 (by have:=(hbel2).size; simp at this; simp; omega) (fun q hq=>by simp [Value.ownBlock] at hq; omega)
       obtain ⟨g4,c4,rfl⟩:=ZL hown4 (by simp [hnil4])
       rw [show [Value.bool true]=[.bool (zAk xs ts (k+1))] by rw [zA HV],<- zA6] at hown4
       have HW4:=zB hown4
       clear hown4 hgrow4 hnil4
       go_wp2
       exact ⟨⟨k+1,g4,c4,by omega,by go_num,rfl,HW4,hbel4⟩,by simp [intOf]; omega⟩
     ·have HV:=zB (show zAk xs ts (k+1)=false by
       have:zn xs (atT ts k).t 3=false:=by
        cases h:zn xs (atT ts k).t 3
        ·rfl
        ·exact absurd ((zA HR).2 ((ZQ xs (atT ts k).t 3).1 h)) hr0
       simp [zAk,zDW,zA HST,zA H3,this])
      have hr0':decide (0<=r)=false:=decide_eq_false hr0
      go_wp2_with (at_builtin; refine wpList_append_own _ rfl (.tmp 49) (.tmp 51) 92 rfl (w.heap.size+1) 4 i0 _ 1 1 Tryz.underlying92 (zA HI) (zA HZ).1 (zA HZ).2.1 (zA HZ).2.2 rfl (by decide) _ (k+1) (zAR (zCO xs ts k)) rfl ((zA HOW2).alloc _) ⟨(w2).heap.size,0,none⟩ 1 1 [.bool false] rfl rfl (zBa (w2) false) (by simp [Value.oneCell']) ?b1 ?b2 ?b3 ?next)
      case b1=>unfold maxLen; omega
      case b2=>omega
      case b3=>have:=(hbel2).size; simp at this; simp; omega
      case next=>
       intro v4 w4 hown4 hgrow4 hnil4
       have hgo:=(zA HOW2).lt g rfl
       have hbel4:Below (w.heap.size+1) (w.alloc (.cells #[.slice (some ⟨b,off,none⟩) xs.length cap] 25)) w4:=((hbel2).alloc (by have:=(hbel2).size; simp at this; omega) _).grown hgrow4 (by have:=(hbel2).size; simp at this; simp; omega) (fun q hq=>by simp [Value.ownBlock] at hq; omega)
       obtain ⟨g4,c4,rfl⟩:=ZL hown4 (by simp [hnil4])
       rw [show [Value.bool false]=[.bool (zAk xs ts (k+1))] by rw [zA HV],<- zA6] at hown4
       have HW4:=zB hown4
       clear hown4 hgrow4 hnil4
       go_wp2
       exact ⟨⟨k+1,g4,c4,by omega,by go_num,rfl,HW4,hbel4⟩,by simp [intOf]; omega⟩
   have h1:(atT ts k).k=1\/(atT ts k).k=2\/(atT ts k).k=5\/((atT ts k).k≠1/\(atT ts k).k≠2/\(atT ts k).k≠5):=by omega
   rcases h1 with h1 | h1 | h1 | h1
   ·have g1:((atT ts k).k==1)=true:=by simp; omega
    have g2:((atT ts k).k==2)=false:=by simp; omega
    have g5:((atT ts k).k==5)=false:=by simp; omega
    have g3:((atT ts k).k==3)=false:=by simp; omega
    have HV:=zB (show zAk xs ts (k+1)=true by simp [zAk,zDW,h3]; omega)
    clear h3
    go_wp2_with fail
    go_quiet (fail)
    go_wp2_with (at_builtin; refine wpList_append_own _ rfl (.tmp 49) (.tmp 51) 92 rfl (w.heap.size+1) 4 i0 _ 1 1 Tryz.underlying92 (zA HI) (zA HZ).1 (zA HZ).2.1 (zA HZ).2.2 rfl (by decide) _ (k+1) (zAR (zCO xs ts k)) rfl (((zA hown).kept (Zk wr nq) (Or.inr (by simp [Value.ownBlock]))).alloc _) ⟨(wr.drewN nq).heap.size,0,none⟩ 1 1 [.bool true] rfl rfl (zBa (wr.drewN nq) true) (by simp [Value.oneCell']) ?b1 ?b2 ?b3 ?next)
    case b1=>unfold maxLen; omega
    case b2=>omega
    case b3=>have:=(hbel.trans ((below_drewN wr nq).mono zw)).size; simp at this; simp; omega
    case next=>
     intro v4 w4 hown4 hgrow4 hnil4
     have hgo:=((zA hown).kept (Zk wr nq) (Or.inr (by simp [Value.ownBlock]))).lt g rfl
     have hbel4:Below (w.heap.size+1) (w.alloc (.cells #[.slice (some ⟨b,off,none⟩) xs.length cap] 25)) w4:=((hbel.trans ((below_drewN wr nq).mono zw)).alloc (by have:=(hbel.trans ((below_drewN wr nq).mono zw)).size; simp at this; omega) _).grown hgrow4 (by have:=(hbel.trans ((below_drewN wr nq).mono zw)).size; simp at this; simp; omega) (fun q hq=>by simp [Value.ownBlock] at hq; omega)
     obtain ⟨g4,c4,rfl⟩:=ZL hown4 (by simp [hnil4])
     rw [show [Value.bool true]=[.bool (zAk xs ts (k+1))] by rw [zA HV],<- zA6] at hown4
     have HW4:=zB hown4
     clear hown4 hgrow4 hnil4
     go_wp2
     exact ⟨⟨k+1,g4,c4,by omega,by go_num,rfl,HW4,hbel4⟩,by simp [intOf]; omega⟩
   ·have g1:((atT ts k).k==1)=false:=by simp; omega
    have g2:((atT ts k).k==2)=true:=by simp; omega
    have g5:((atT ts k).k==5)=false:=by simp; omega
    have g3:((atT ts k).k==3)=false:=by simp; omega
    have HV:=zB (show zAk xs ts (k+1)=true by simp [zAk,zDW,h3]; omega)
    clear h3
    go_wp2_with fail
    go_quiet (fail)
    go_wp2_with (at_builtin; refine wpList_append_own _ rfl (.tmp 49) (.tmp 51) 92 rfl (w.heap.size+1) 4 i0 _ 1 1 Tryz.underlying92 (zA HI) (zA HZ).1 (zA HZ).2.1 (zA HZ).2.2 rfl (by decide) _ (k+1) (zAR (zCO xs ts k)) rfl (((zA hown).kept (Zk wr nq) (Or.inr (by simp [Value.ownBlock]))).alloc _) ⟨(wr.drewN nq).heap.size,0,none⟩ 1 1 [.bool true] rfl rfl (zBa (wr.drewN nq) true) (by simp [Value.oneCell']) ?b1 ?b2 ?b3 ?next)
    case b1=>unfold maxLen; omega
    case b2=>omega
    case b3=>have:=(hbel.trans ((below_drewN wr nq).mono zw)).size; simp at this; simp; omega
    case next=>
     intro v4 w4 hown4 hgrow4 hnil4
     have hgo:=((zA hown).kept (Zk wr nq) (Or.inr (by simp [Value.ownBlock]))).lt g rfl
     have hbel4:Below (w.heap.size+1) (w.alloc (.cells #[.slice (some ⟨b,off,none⟩) xs.length cap] 25)) w4:=((hbel.trans ((below_drewN wr nq).mono zw)).alloc (by have:=(hbel.trans ((below_drewN wr nq).mono zw)).size; simp at this; omega) _).grown hgrow4 (by have:=(hbel.trans ((below_drewN wr nq).mono zw)).size; simp at this; simp; omega) (fun q hq=>by simp [Value.ownBlock] at hq; omega)
     obtain ⟨g4,c4,rfl⟩:=ZL hown4 (by simp [hnil4])
     rw [show [Value.bool true]=[.bool (zAk xs ts (k+1))] by rw [zA HV],<- zA6] at hown4
     have HW4:=zB hown4
     clear hown4 hgrow4 hnil4
     go_wp2
     exact ⟨⟨k+1,g4,c4,by omega,by go_num,rfl,HW4,hbel4⟩,by simp [intOf]; omega⟩
   ·have g1:((atT ts k).k==1)=false:=by simp; omega
    have g2:((atT ts k).k==2)=false:=by simp; omega
    have g5:((atT ts k).k==5)=true:=by simp; omega
    have g3:((atT ts k).k==3)=false:=by simp; omega
    have HV:=zB (show zAk xs ts (k+1)=true by simp [zAk,zDW,h3]; omega)
    clear h3
    go_wp2_with fail
    go_quiet (fail)
    go_wp2_with (at_builtin; refine wpList_append_own _ rfl (.tmp 49) (.tmp 51) 92 rfl (w.heap.size+1) 4 i0 _ 1 1 Tryz.underlying92 (zA HI) (zA HZ).1 (zA HZ).2.1 (zA HZ).2.2 rfl (by decide) _ (k+1) (zAR (zCO xs ts k)) rfl (((zA hown).kept (Zk wr nq) (Or.inr (by simp [Value.ownBlock]))).alloc _) ⟨(wr.drewN nq).heap.size,0,none⟩ 1 1 [.bool true] rfl rfl (zBa (wr.drewN nq) true) (by simp [Value.oneCell']) ?b1 ?b2 ?b3 ?next)
    case b1=>unfold maxLen; omega
    case b2=>omega
    case b3=>have:=(hbel.trans ((below_drewN wr nq).mono zw)).size; simp at this; simp; omega
    case next=>
     intro v4 w4 hown4 hgrow4 hnil4
     have hgo:=((zA hown).kept (Zk wr nq) (Or.inr (by simp [Value.ownBlock]))).lt g rfl
     have hbel4:Below (w.heap.size+1) (w.alloc (.cells #[.slice (some ⟨b,off,none⟩) xs.length cap] 25)) w4:=((hbel.trans ((below_drewN wr nq).mono zw)).alloc (by have:=(hbel.trans ((below_drewN wr nq).mono zw)).size; simp at this; omega) _).grown hgrow4 (by have:=(hbel.trans ((below_drewN wr nq).mono zw)).size; simp at this; simp; omega) (fun q hq=>by simp [Value.ownBlock] at hq; omega)
     obtain ⟨g4,c4,rfl⟩:=ZL hown4 (by simp [hnil4])
     rw [show [Value.bool true]=[.bool (zAk xs ts (k+1))] by rw [zA HV],<- zA6] at hown4
     have HW4:=zB hown4
     clear hown4 hgrow4 hnil4
     go_wp2
     exact ⟨⟨k+1,g4,c4,by omega,by go_num,rfl,HW4,hbel4⟩,by simp [intOf]; omega⟩
   ·have g1:((atT ts k).k==1)=false:=by simp; omega
    have g2:((atT ts k).k==2)=false:=by simp; omega
    have g5:((atT ts k).k==5)=false:=by simp; omega
    have g3:((atT ts k).k==3)=false:=by simp; omega
    have HV:=zB (show zAk xs ts (k+1)=false by simp [zAk,zDW,h3]; omega)
    clear h3
    go_wp2_with fail
    go_quiet (fail)
    go_wp2_with (at_builtin; refine wpList_append_own _ rfl (.tmp 49) (.tmp 51) 92 rfl (w.heap.size+1) 4 i0 _ 1 1 Tryz.underlying92 (zA HI) (zA HZ).1 (zA HZ).2.1 (zA HZ).2.2 rfl (by decide) _ (k+1) (zAR (zCO xs ts k)) rfl (((zA hown).kept (Zk wr nq) (Or.inr (by simp [Value.ownBlock]))).alloc _) ⟨(wr.drewN nq).heap.size,0,none⟩ 1 1 [.bool false] rfl rfl (zBa (wr.drewN nq) false) (by simp [Value.oneCell']) ?b1 ?b2 ?b3 ?next)
    case b1=>unfold maxLen; omega
    case b2=>omega
    case b3=>have:=(hbel.trans ((below_drewN wr nq).mono zw)).size; simp at this; simp; omega
    case next=>
     intro v4 w4 hown4 hgrow4 hnil4
     have hgo:=((zA hown).kept (Zk wr nq) (Or.inr (by simp [Value.ownBlock]))).lt g rfl
     have hbel4:Below (w.heap.size+1) (w.alloc (.cells #[.slice (some ⟨b,off,none⟩) xs.length cap] 25)) w4:=((hbel.trans ((below_drewN wr nq).mono zw)).alloc (by have:=(hbel.trans ((below_drewN wr nq).mono zw)).size; simp at this; omega) _).grown hgrow4 (by have:=(hbel.trans ((below_drewN wr nq).mono zw)).size; simp at this; simp; omega) (fun q hq=>by simp [Value.ownBlock] at hq; omega)
     obtain ⟨g4,c4,rfl⟩:=ZL hown4 (by simp [hnil4])
     rw [show [Value.bool false]=[.bool (zAk xs ts (k+1))] by rw [zA HV],<- zA6] at hown4
     have HW4:=zB hown4
     clear hown4 hgrow4 hnil4
     go_wp2
     exact ⟨⟨k+1,g4,c4,by omega,by go_num,rfl,HW4,hbel4⟩,by simp [intOf]; omega⟩
  ·have HX:=zB (show k=ts.length by omega)
   have hg:=(zA hown).lt g rfl
   have hcs:=zB (fun i (hi:i<=k)=>((zA hown).cellAt i (by omega)).trans (zKd xs ts k i hi))
   go_wp2
   go_ret
   have e:=zA HX
   subst e
   exact ⟨⟨g,c,rfl,by omega,hg.2,fun i hi=>(zA hcs) i hi⟩,hbw⟩
end Go.Proofs.YtfboipappaonhaaGreat
