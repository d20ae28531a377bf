import Derived.Test.YtgbkgkdpdfdokaaGreatDoorQ21
namespace Go.Proofs.YtgbkgkdpdfdokaaGreatDoor
set_option linter.all false
set_option maxHeartbeats 16000000
set_option maxRecDepth 100000
open Go.RowKit
theorem zIe (ts:List zX):∀ i:Nat,-(i:Int)<=opI ts i/\opI ts i<=(i:Int)
 | 0=>by simp [opI]
 | i+1=>by
  have:=zIe ts i
  simp only [opI]
  split <;> split <;> omega
theorem zCD (b h cap n:Nat) (ts:List zX) (w:JY) (hm:ts.length<=1048576) (hn:n<=ts.length) (hw:zFA w b h ts) :
  Calls Tryz.prog 131 #[.slice (some ⟨b,h,none⟩) ts.length cap,.int .i64 (n:Int)] w fun e w'=>e = .returned (.int .i64 (opI ts n))/\w'=w:=by
 have HW:=zB hw
 clear hw
 go_enter Tryz.func131,Tryz.ntmps131
 go_wp2
 go_loop [5,6] (fun o i=>∃ k:Nat,k<=n/\i = .int .i64 (k:Int)/\o = .int .i64 (opI ts k)) (fun _ i=>n-(intOf i).toNat)
 case atStart=>exact ⟨0,yj _,rfl,rfl⟩
 case round=>
  obtain ⟨k,hk,rfl,rfl⟩:=hrel
  have hr:=zIe ts k
  by_cases K:k<n
  ·obtain ⟨a0,a1,a2⟩:=(zA HW) k (by omega)
   have H:k<ts.length:=by omega
   have HS:=zB (show opI ts (k+1)=opI ts k+(if (atT ts k).k=4 then 1 else 0)-(if (atT ts k).k=5 then 1 else 0) from rfl)
   go_wp2
   all_goals
    refine ⟨⟨k+1,by omega,by go_num,?_⟩,by simp [intOf]; omega⟩
    rw [zA HS]
    go_light
    simp only [beq_iff_eq,yU,ne_eq] at *
    first | (congr 1; split <;> split <;> omega) | simp [*] | (simp_all; omega)
  ·have HX:=zB (show k=n by omega)
   go_wp2
   go_ret
   exact ⟨zJ (by rw [zA HX]),rfl⟩
def zCE (xs:List OpR) (ts:List zX) (k:Nat):List Bool:=(List.range (k+1)).map (zAc xs ts)
def zAF (l:List Bool):List Value:=l.map fun b=>.bool b
theorem zA0 (xs:List OpR) (ts:List zX) (k:Nat):zAF (zCE xs ts (k+1))=zAF (zCE xs ts k)++[.bool (zAc xs ts (k+1))]:=by
 simp [zCE,zAF,List.range_succ (n:=k+1)]
theorem zKa (xs:List OpR) (ts:List zX) (k i:Nat) (h:i<=k):(zAF (zCE xs ts k))[i]?=some (.bool (zAc xs ts i)):=by
 have:i<k+1:=by omega
 simp [zAF,zCE,this]
theorem zOn:(Tryz.prog.info? 4).map (fun i=>(i.zero,i.size,i.bytes))=some (some (.bool false),1,1):=by kernel_rfl
theorem Zi (w:JY) (n:Nat):w.grownBy (w.drewN n) none:=⟨rfl,rfl,rfl,yh _,fun _ _ _=>rfl⟩
theorem below_drewN (w:JY) (n:Nat):Below w.heap.size w (w.drewN n):=⟨rfl,rfl,rfl,yh _,fun _ _=>rfl⟩
theorem zBU (w:JY) (v:Bool):∀ j u,([Value.bool v])[j]?=some u->(w.alloc (.cells #[.bool v] 4)).cell? ((⟨w.heap.size,0,none⟩:Addr).add j)=some u:=by
 intro j u hj
 rw [Addr.add_mid]
 have:=yz (w:=w.alloc (.cells #[.bool v] 4)) (b:=w.heap.size) (heap_alloc_new w _) 0 1
 exact this j u (by simpa using hj)
theorem zJI (b j cap b' P a:Nat) (xs:List OpR) (ts:List zX) (w:JY) (I:xs.length<=1048576) (hm:ts.length<=1048576) (hw:Ops w b j xs) (hB:b<w.heap.size) (A:zFA w b' P ts) (D:b'<w.heap.size) :
  Calls Tryz.prog 116 #[.agg #[.slice (some ⟨b,j,none⟩) xs.length cap],.slice (some ⟨b',P,none⟩) ts.length a] w fun e w'=>(∃ g c,e = .returned (.slice (some ⟨g,0,none⟩) (ts.length+1) c)/\w.heap.size<=g/\g<w'.heap.size/\∀ i,i<=ts.length->w'.cell? ⟨g,i,none⟩=some (.bool (zAc xs ts i)))/\Below w.heap.size w w':=by
 obtain ⟨i0,hi,C,E,f⟩:=info_parts zOn
 have HI:=zB hi
 have HZ:=zB (yH C (yH E f))
 have HW:=zB hw
 have HT:=zB A
 clear hi C E f hw A
 have HO:=zB (show ((w.alloc (.cells #[.slice (some ⟨b,j,none⟩) xs.length cap] 33)).alloc (.cells #[.bool false] 4)).ownsRow (w.heap.size+1) 4 1 (.slice (some ⟨w.heap.size+1,0,none⟩) 1 1) 1 (zAF (zCE xs ts 0)) by
  have h0:=yD (base:=w.heap.size+1) (e:=4) (size:=1) (w.alloc (.cells #[.slice (some ⟨b,j,none⟩) xs.length cap] 33)) #[.bool false] 1 (by simp) (by decide) rfl
  simpa [zAF,zCE,zAc] using h0)
 go_enter Tryz.func116,Tryz.ntmps116
 go_wp2_with fail
 go_loopw [5,6] (fun out i wr=>∃ (k g c:Nat),k<=ts.length/\i = .int .i64 (k:Int)/\out = .slice (some ⟨g,0,none⟩) (k+1) c/\Hid (wr.ownsRow (w.heap.size+1) 4 1 (.slice (some ⟨g,0,none⟩) (k+1) c) (k+1) (zAF (zCE xs ts k)))/\Below (w.heap.size+1) (w.alloc (.cells #[.slice (some ⟨b,j,none⟩) xs.length cap] 33)) wr) (fun _ i _=>ts.length-(intOf i).toNat)
 case atStart=>exact ⟨0,w.heap.size+1,1,yj _,rfl,rfl,HO,(zC _ _).mono (by simp)⟩
 case round=>
  clear HO
  obtain ⟨k,g,c,hk,rfl,rfl,y,x⟩:=hrel
  have U:Below w.heap.size w wr:=(zC _ _).trans (x.mono (by omega))
  have zw:w.heap.size<wr.heap.size:=by have:=x.size; simp at this; omega
  have c0:wr.cell? ⟨w.heap.size,0,none⟩=some (.slice (some ⟨b,j,none⟩) xs.length cap):=by
   rw [x.cell (p:=⟨w.heap.size,0,none⟩) (show w.heap.size<_ by omega)]; simp [go_sem]
  by_cases G:k<ts.length
  ·obtain ⟨a0,a1,a2⟩:=((zA HT) k G).below U D
   have s0:wr.cell? ⟨g,k,none⟩=some (.bool (zAc xs ts k)):=((zA y).cellAt k (by omega)).trans (zKa xs ts k k (yh _))
   have L:(k:Int)<(ts.length:Int):=by omega
   have M:(k:Int)<((k+1:Nat):Int):=by omega
   have m:(k:Int)<(k:Int)+1:=by omega
   by_cases h3:(atT ts k).k=3
   case pos=>
    have g1:((atT ts k).k==1)=false:=by simp; omega
    have g2:((atT ts k).k==2)=false:=by simp; omega
    have g5:((atT ts k).k==5)=false:=by simp; omega
    have g3:((atT ts k).k==3)=true:=by simpa using h3
    cases hst:zAc xs ts k
    ·rw [hst] at s0
     have HV:=zB (show zAc xs ts (k+1)=false by simp [zAc,zCy,hst,h3])
     clear h3
     go_wp2_with fail
     go_quiet (fail)
     go_wp2_with (at_builtin; refine wpList_append_own _ rfl (.tmp 49) (.tmp 51) 50 rfl (w.heap.size+1) 4 i0 _ 1 1 Tryz.underlying50 (zA HI) (zA HZ).1 (zA HZ).2.1 (zA HZ).2.2 rfl (by decide) _ (k+1) (zAF (zCE xs ts k)) rfl (((zA y).kept (Zi wr nq) (yR (by simp [Value.ownBlock]))).alloc _) ⟨(wr.drewN nq).heap.size,0,none⟩ 1 1 [.bool false] rfl rfl (zBU (wr.drewN nq) false) (by simp [Value.oneCell']) ?b1 ?b2 ?b3 ?next)
     case b1=>unfold maxLen; omega
     case b2=>omega
     case b3=>have:=(x.trans ((below_drewN wr nq).mono zw)).size; simp at this; simp; omega
     case next=>
      intro v4 w4 H K Q
      have V:=((zA y).kept (Zi wr nq) (yR (by simp [Value.ownBlock]))).lt g rfl
      have X:Below (w.heap.size+1) (w.alloc (.cells #[.slice (some ⟨b,j,none⟩) xs.length cap] 33)) w4:=((x.trans ((below_drewN wr nq).mono zw)).alloc (by have:=(x.trans ((below_drewN wr nq).mono zw)).size; simp at this; omega) _).grown K (by have:=(x.trans ((below_drewN wr nq).mono zw)).size; simp at this; simp; omega) (fun q hq=>by simp [Value.ownBlock] at hq; omega)
      obtain ⟨g4,c4,rfl⟩:=ZW H (by simp [Q])
      rw [show [Value.bool false]=[.bool (zAc xs ts (k+1))] by rw [zA HV],<- zA0] at H
      have J:=zB H
      clear H K Q
      go_wp2
      exact ⟨⟨k+1,g4,c4,by omega,by go_num,rfl,J,X⟩,by simp [intOf]; omega⟩
    ·rw [hst] at s0
     have d:=zB hst
     have H3:=zB h3
     have zb:b<wr.heap.size:=by omega
     have zg:=(zA y).lt g rfl
     clear h3
     go_wp2_with fail
     go_region_held (fun w'=>w'.cell? ⟨w.heap.size,0,none⟩=some (.slice (some ⟨b,j,none⟩) xs.length cap)/\w'.cell? ⟨g,k,none⟩=some (.bool true)/\w'.cell? ⟨b',P+k*3+2,none⟩=some (.string (atT ts k).t)) (go_keep) (first | (go_at_call 106; refine (zAy b j cap xs (atT ts k).t 3 _ I ((zA HW).below U.drew hB) zb).mono ?_; rintro e w2 ⟨⟨r,rfl,hr⟩,hb2⟩; have HR:=zB hr; have B:=zB hb2; have q0:=(hb2.cell (p:=⟨w.heap.size,0,none⟩) zw).trans (show wr.drew.cell? ⟨w.heap.size,0,none⟩=_ from c0); have q1:=(hb2.cell (p:=⟨g,k,none⟩) zg.2).trans (show wr.drew.cell? ⟨g,k,none⟩=_ from s0); have q2:=(hb2.cell (p:=⟨b',P+k*3+2,none⟩) (yi D (Nat.le_of_lt zw))).trans (show wr.drew.cell? ⟨b',P+k*3+2,none⟩=_ from a2); clear hr hb2))
     have Y:=x.drew.trans ((zA B).mono zw)
     have v:=zB ((zA y).drew.kept (zAn (zA B) none) (yR (by simp [Value.ownBlock])))
     by_cases u:0<=r
     ·have HV:=zB (show zAc xs ts (k+1)=true by
       have:=(zAb xs (atT ts k).t 3).2 ((zA HR).1 u)
       simp [zAc,zCy,zA d,zA H3,this])
      go_wp2_with (at_builtin; refine wpList_append_own _ rfl (.tmp 49) (.tmp 51) 50 rfl (w.heap.size+1) 4 i0 _ 1 1 Tryz.underlying50 (zA HI) (zA HZ).1 (zA HZ).2.1 (zA HZ).2.2 rfl (by decide) _ (k+1) (zAF (zCE xs ts k)) rfl ((zA v).alloc _) ⟨(w2).heap.size,0,none⟩ 1 1 [.bool true] rfl rfl (zBU (w2) true) (by simp [Value.oneCell']) ?b1 ?b2 ?b3 ?next)
      case b1=>unfold maxLen; omega
      case b2=>omega
      case b3=>have:=(Y).size; simp at this; simp; omega
      case next=>
       intro v4 w4 H K Q
       have V:=(zA v).lt g rfl
       have X:Below (w.heap.size+1) (w.alloc (.cells #[.slice (some ⟨b,j,none⟩) xs.length cap] 33)) w4:=((Y).alloc (by have:=(Y).size; simp at this; omega) _).grown K (by have:=(Y).size; simp at this; simp; omega) (fun q hq=>by simp [Value.ownBlock] at hq; omega)
       obtain ⟨g4,c4,rfl⟩:=ZW H (by simp [Q])
       rw [show [Value.bool true]=[.bool (zAc xs ts (k+1))] by rw [zA HV],<- zA0] at H
       have J:=zB H
       clear H K Q
       go_wp2
       exact ⟨⟨k+1,g4,c4,by omega,by go_num,rfl,J,X⟩,by simp [intOf]; omega⟩
     ·have HV:=zB (show zAc xs ts (k+1)=false by
       have:Zu xs (atT ts k).t 3=false:=by
        cases h:Zu xs (atT ts k).t 3
        ·rfl
        ·exact yP ((zA HR).2 ((zAb xs (atT ts k).t 3).1 h)) u
       simp [zAc,zCy,zA d,zA H3,this])
      have l:decide (0<=r)=false:=decide_eq_false u
      go_wp2_with (at_builtin; refine wpList_append_own _ rfl (.tmp 49) (.tmp 51) 50 rfl (w.heap.size+1) 4 i0 _ 1 1 Tryz.underlying50 (zA HI) (zA HZ).1 (zA HZ).2.1 (zA HZ).2.2 rfl (by decide) _ (k+1) (zAF (zCE xs ts k)) rfl ((zA v).alloc _) ⟨(w2).heap.size,0,none⟩ 1 1 [.bool false] rfl rfl (zBU (w2) false) (by simp [Value.oneCell']) ?b1 ?b2 ?b3 ?next)
      case b1=>unfold maxLen; omega
      case b2=>omega
      case b3=>have:=(Y).size; simp at this; simp; omega
      case next=>
       intro v4 w4 H K Q
       have V:=(zA v).lt g rfl
       have X:Below (w.heap.size+1) (w.alloc (.cells #[.slice (some ⟨b,j,none⟩) xs.length cap] 33)) w4:=((Y).alloc (by have:=(Y).size; simp at this; omega) _).grown K (by have:=(Y).size; simp at this; simp; omega) (fun q hq=>by simp [Value.ownBlock] at hq; omega)
       obtain ⟨g4,c4,rfl⟩:=ZW H (by simp [Q])
       rw [show [Value.bool false]=[.bool (zAc xs ts (k+1))] by rw [zA HV],<- zA0] at H
       have J:=zB H
       clear H K Q
       go_wp2
       exact ⟨⟨k+1,g4,c4,by omega,by go_num,rfl,J,X⟩,by simp [intOf]; omega⟩
   have h1:(atT ts k).k=1\/(atT ts k).k=2\/(atT ts k).k=5\/((atT ts k).k≠1/\(atT ts k).k≠2/\(atT ts k).k≠5):=by omega
   rcases h1 with h1 | h1 | h1 | h1
   ·have g1:((atT ts k).k==1)=true:=by simp; omega
    have g2:((atT ts k).k==2)=false:=by simp; omega
    have g5:((atT ts k).k==5)=false:=by simp; omega
    have g3:((atT ts k).k==3)=false:=by simp; omega
    have HV:=zB (show zAc xs ts (k+1)=true by simp [zAc,zCy,h3]; omega)
    clear h3
    go_wp2_with fail
    go_quiet (fail)
    go_wp2_with (at_builtin; refine wpList_append_own _ rfl (.tmp 49) (.tmp 51) 50 rfl (w.heap.size+1) 4 i0 _ 1 1 Tryz.underlying50 (zA HI) (zA HZ).1 (zA HZ).2.1 (zA HZ).2.2 rfl (by decide) _ (k+1) (zAF (zCE xs ts k)) rfl (((zA y).kept (Zi wr nq) (yR (by simp [Value.ownBlock]))).alloc _) ⟨(wr.drewN nq).heap.size,0,none⟩ 1 1 [.bool true] rfl rfl (zBU (wr.drewN nq) true) (by simp [Value.oneCell']) ?b1 ?b2 ?b3 ?next)
    case b1=>unfold maxLen; omega
    case b2=>omega
    case b3=>have:=(x.trans ((below_drewN wr nq).mono zw)).size; simp at this; simp; omega
    case next=>
     intro v4 w4 H K Q
     have V:=((zA y).kept (Zi wr nq) (yR (by simp [Value.ownBlock]))).lt g rfl
     have X:Below (w.heap.size+1) (w.alloc (.cells #[.slice (some ⟨b,j,none⟩) xs.length cap] 33)) w4:=((x.trans ((below_drewN wr nq).mono zw)).alloc (by have:=(x.trans ((below_drewN wr nq).mono zw)).size; simp at this; omega) _).grown K (by have:=(x.trans ((below_drewN wr nq).mono zw)).size; simp at this; simp; omega) (fun q hq=>by simp [Value.ownBlock] at hq; omega)
     obtain ⟨g4,c4,rfl⟩:=ZW H (by simp [Q])
     rw [show [Value.bool true]=[.bool (zAc xs ts (k+1))] by rw [zA HV],<- zA0] at H
     have J:=zB H
     clear H K Q
     go_wp2
     exact ⟨⟨k+1,g4,c4,by omega,by go_num,rfl,J,X⟩,by simp [intOf]; omega⟩
   ·have g1:((atT ts k).k==1)=false:=by simp; omega
    have g2:((atT ts k).k==2)=true:=by simp; omega
    have g5:((atT ts k).k==5)=false:=by simp; omega
    have g3:((atT ts k).k==3)=false:=by simp; omega
    have HV:=zB (show zAc xs ts (k+1)=true by simp [zAc,zCy,h3]; omega)
    clear h3
    go_wp2_with fail
    go_quiet (fail)
    go_wp2_with (at_builtin; refine wpList_append_own _ rfl (.tmp 49) (.tmp 51) 50 rfl (w.heap.size+1) 4 i0 _ 1 1 Tryz.underlying50 (zA HI) (zA HZ).1 (zA HZ).2.1 (zA HZ).2.2 rfl (by decide) _ (k+1) (zAF (zCE xs ts k)) rfl (((zA y).kept (Zi wr nq) (yR (by simp [Value.ownBlock]))).alloc _) ⟨(wr.drewN nq).heap.size,0,none⟩ 1 1 [.bool true] rfl rfl (zBU (wr.drewN nq) true) (by simp [Value.oneCell']) ?b1 ?b2 ?b3 ?next)
    case b1=>unfold maxLen; omega
    case b2=>omega
    case b3=>have:=(x.trans ((below_drewN wr nq).mono zw)).size; simp at this; simp; omega
    case next=>
     intro v4 w4 H K Q
     have V:=((zA y).kept (Zi wr nq) (yR (by simp [Value.ownBlock]))).lt g rfl
     have X:Below (w.heap.size+1) (w.alloc (.cells #[.slice (some ⟨b,j,none⟩) xs.length cap] 33)) w4:=((x.trans ((below_drewN wr nq).mono zw)).alloc (by have:=(x.trans ((below_drewN wr nq).mono zw)).size; simp at this; omega) _).grown K (by have:=(x.trans ((below_drewN wr nq).mono zw)).size; simp at this; simp; omega) (fun q hq=>by simp [Value.ownBlock] at hq; omega)
     obtain ⟨g4,c4,rfl⟩:=ZW H (by simp [Q])
     rw [show [Value.bool true]=[.bool (zAc xs ts (k+1))] by rw [zA HV],<- zA0] at H
     have J:=zB H
     clear H K Q
     go_wp2
     exact ⟨⟨k+1,g4,c4,by omega,by go_num,rfl,J,X⟩,by simp [intOf]; omega⟩
   ·have g1:((atT ts k).k==1)=false:=by simp; omega
    have g2:((atT ts k).k==2)=false:=by simp; omega
    have g5:((atT ts k).k==5)=true:=by simp; omega
    have g3:((atT ts k).k==3)=false:=by simp; omega
    have HV:=zB (show zAc xs ts (k+1)=true by simp [zAc,zCy,h3]; omega)
    clear h3
    go_wp2_with fail
    go_quiet (fail)
    go_wp2_with (at_builtin; refine wpList_append_own _ rfl (.tmp 49) (.tmp 51) 50 rfl (w.heap.size+1) 4 i0 _ 1 1 Tryz.underlying50 (zA HI) (zA HZ).1 (zA HZ).2.1 (zA HZ).2.2 rfl (by decide) _ (k+1) (zAF (zCE xs ts k)) rfl (((zA y).kept (Zi wr nq) (yR (by simp [Value.ownBlock]))).alloc _) ⟨(wr.drewN nq).heap.size,0,none⟩ 1 1 [.bool true] rfl rfl (zBU (wr.drewN nq) true) (by simp [Value.oneCell']) ?b1 ?b2 ?b3 ?next)
    case b1=>unfold maxLen; omega
    case b2=>omega
    case b3=>have:=(x.trans ((below_drewN wr nq).mono zw)).size; simp at this; simp; omega
    case next=>
     intro v4 w4 H K Q
     have V:=((zA y).kept (Zi wr nq) (yR (by simp [Value.ownBlock]))).lt g rfl
     have X:Below (w.heap.size+1) (w.alloc (.cells #[.slice (some ⟨b,j,none⟩) xs.length cap] 33)) w4:=((x.trans ((below_drewN wr nq).mono zw)).alloc (by have:=(x.trans ((below_drewN wr nq).mono zw)).size; simp at this; omega) _).grown K (by have:=(x.trans ((below_drewN wr nq).mono zw)).size; simp at this; simp; omega) (fun q hq=>by simp [Value.ownBlock] at hq; omega)
     obtain ⟨g4,c4,rfl⟩:=ZW H (by simp [Q])
     rw [show [Value.bool true]=[.bool (zAc xs ts (k+1))] by rw [zA HV],<- zA0] at H
     have J:=zB H
     clear H K Q
     go_wp2
     exact ⟨⟨k+1,g4,c4,by omega,by go_num,rfl,J,X⟩,by simp [intOf]; omega⟩
   ·have g1:((atT ts k).k==1)=false:=by simp; omega
    have g2:((atT ts k).k==2)=false:=by simp; omega
    have g5:((atT ts k).k==5)=false:=by simp; omega
    have g3:((atT ts k).k==3)=false:=by simp; omega
    have HV:=zB (show zAc xs ts (k+1)=false by simp [zAc,zCy,h3]; omega)
    clear h3
    go_wp2_with fail
    go_quiet (fail)
    go_wp2_with (at_builtin; refine wpList_append_own _ rfl (.tmp 49) (.tmp 51) 50 rfl (w.heap.size+1) 4 i0 _ 1 1 Tryz.underlying50 (zA HI) (zA HZ).1 (zA HZ).2.1 (zA HZ).2.2 rfl (by decide) _ (k+1) (zAF (zCE xs ts k)) rfl (((zA y).kept (Zi wr nq) (yR (by simp [Value.ownBlock]))).alloc _) ⟨(wr.drewN nq).heap.size,0,none⟩ 1 1 [.bool false] rfl rfl (zBU (wr.drewN nq) false) (by simp [Value.oneCell']) ?b1 ?b2 ?b3 ?next)
    case b1=>unfold maxLen; omega
    case b2=>omega
    case b3=>have:=(x.trans ((below_drewN wr nq).mono zw)).size; simp at this; simp; omega
    case next=>
     intro v4 w4 H K Q
     have V:=((zA y).kept (Zi wr nq) (yR (by simp [Value.ownBlock]))).lt g rfl
     have X:Below (w.heap.size+1) (w.alloc (.cells #[.slice (some ⟨b,j,none⟩) xs.length cap] 33)) w4:=((x.trans ((below_drewN wr nq).mono zw)).alloc (by have:=(x.trans ((below_drewN wr nq).mono zw)).size; simp at this; omega) _).grown K (by have:=(x.trans ((below_drewN wr nq).mono zw)).size; simp at this; simp; omega) (fun q hq=>by simp [Value.ownBlock] at hq; omega)
     obtain ⟨g4,c4,rfl⟩:=ZW H (by simp [Q])
     rw [show [Value.bool false]=[.bool (zAc xs ts (k+1))] by rw [zA HV],<- zA0] at H
     have J:=zB H
     clear H K Q
     go_wp2
     exact ⟨⟨k+1,g4,c4,by omega,by go_num,rfl,J,X⟩,by simp [intOf]; omega⟩
  ·have HX:=zB (show k=ts.length by omega)
   have hg:=(zA y).lt g rfl
   have F:=zB (fun i (hi:i<=k)=>((zA y).cellAt i (by omega)).trans (zKa xs ts k i hi))
   go_wp2
   go_ret
   have e:=zA HX
   subst e
   exact ⟨⟨g,c,rfl,by omega,hg.2,fun i hi=>(zA F) i hi⟩,U⟩
theorem zLh (b Q cap b' q x i:Nat) (bh:Bool) (xs:List OpR) (ts:List zX) (w:JY) (V:xs.length<=1048576) (hm:ts.length<=1048576) (hi:i<ts.length) (hw:Ops w b Q xs) (hB:b<w.heap.size) (v:zFA w b' q ts) (U:b'<w.heap.size) :
  Calls Tryz.prog 117 #[.agg #[.slice (some ⟨b,Q,none⟩) xs.length cap],.slice (some ⟨b',q,none⟩) ts.length x,.int .i64 (i:Int),.bool bh] w fun e w'=>e = .returned (.int .i64 (zAd xs ts i bh))/\Below w.heap.size w w':=by
 have HW:=zB (hw.below (zC w (.cells #[.slice (some ⟨b,Q,none⟩) xs.length cap] 33)) hB)
 have HT:=zB (v.below (zC w (.cells #[.slice (some ⟨b,Q,none⟩) xs.length cap] 33)) U)
 have c0:(w.alloc (.cells #[.slice (some ⟨b,Q,none⟩) xs.length cap] 33)).cell? ⟨w.heap.size,0,none⟩=some (.slice (some ⟨b,Q,none⟩) xs.length cap):=by simp [go_sem]
 obtain ⟨a0,a1,a2⟩:=(v i hi).below (zC w (.cells #[.slice (some ⟨b,Q,none⟩) xs.length cap] 33)) U
 clear hw v
 have C:(i:Int)<(ts.length:Int):=by omega
 have H:=zC w (.cells #[.slice (some ⟨b,Q,none⟩) xs.length cap] 33)
 have z0:w.heap.size+1=(w.alloc (.cells #[.slice (some ⟨b,Q,none⟩) xs.length cap] 33)).heap.size:=by simp
 have hk:(atT ts i).k=1\/(atT ts i).k=2\/(atT ts i).k=4\/(atT ts i).k=3\/(atT ts i).k=5\/(atT ts i).k=7\/((atT ts i).k≠1/\(atT ts i).k≠2/\(atT ts i).k≠4/\(atT ts i).k≠3/\(atT ts i).k≠5/\(atT ts i).k≠7):=by omega
 have LB0:b<(w.alloc (.cells #[.slice (some ⟨b,Q,none⟩) xs.length cap] 33)).heap.size:=by simp; omega
 have LW0:w.heap.size<(w.alloc (.cells #[.slice (some ⟨b,Q,none⟩) xs.length cap] 33)).heap.size:=by simp
 have LT0:b'<(w.alloc (.cells #[.slice (some ⟨b,Q,none⟩) xs.length cap] 33)).heap.size:=by simp; omega
 have j:=zB (fun n=>(zA HT).below (below_drewN _ n) LT0)
 have Y:=zB (fun n m=>((zA HT).below (below_drewN _ n) LT0).below (below_drewN _ m) LT0)
 cases bh
 case false=>
  rcases hk with hk | hk | hk | hk | hk | hk | hk
  ·have K:=zB hk
   have g1:((atT ts i).k==1)=true:=by simp; omega
   have g2:((atT ts i).k==2)=false:=by simp; omega
   have g4:((atT ts i).k==4)=false:=by simp; omega
   have g3:((atT ts i).k==3)=false:=by simp; omega
   have g5:((atT ts i).k==5)=false:=by simp; omega
   have g7:((atT ts i).k==7)=false:=by simp; omega
   clear hk
   go_enter Tryz.func117,Tryz.ntmps117
   go_wp2_with fail
   go_ret
   exact ⟨zJ (by simp [zAd,zA K]),H⟩
  ·have K:=zB hk
   have g1:((atT ts i).k==1)=false:=by simp; omega
   have g2:((atT ts i).k==2)=true:=by simp; omega
   have g4:((atT ts i).k==4)=false:=by simp; omega
   have g3:((atT ts i).k==3)=false:=by simp; omega
   have g5:((atT ts i).k==5)=false:=by simp; omega
   have g7:((atT ts i).k==7)=false:=by simp; omega
   clear hk
   go_enter Tryz.func117,Tryz.ntmps117
   go_wp2_with fail
   go_ret
   exact ⟨zJ (by simp [zAd,zA K]),H⟩
  ·have K:=zB hk
   have g1:((atT ts i).k==1)=false:=by simp; omega
   have g2:((atT ts i).k==2)=false:=by simp; omega
   have g4:((atT ts i).k==4)=true:=by simp; omega
   have g3:((atT ts i).k==3)=false:=by simp; omega
   have g5:((atT ts i).k==5)=false:=by simp; omega
   have g7:((atT ts i).k==7)=false:=by simp; omega
   clear hk
   go_enter Tryz.func117,Tryz.ntmps117
   go_wp2_with fail
   go_ret
   exact ⟨zJ (by simp [zAd,zA K]),H⟩
  ·have K:=zB hk
   have g1:((atT ts i).k==1)=false:=by simp; omega
   have g2:((atT ts i).k==2)=false:=by simp; omega
   have g4:((atT ts i).k==4)=false:=by simp; omega
   have g3:((atT ts i).k==3)=true:=by simp; omega
   have g5:((atT ts i).k==5)=false:=by simp; omega
   have g7:((atT ts i).k==7)=false:=by simp; omega
   clear hk
   go_enter Tryz.func117,Tryz.ntmps117
   go_wp2_with fail
   go_region_held (fun w'=>w'.cell? ⟨w.heap.size,0,none⟩=some (.slice (some ⟨b,Q,none⟩) xs.length cap)/\w'.cell? ⟨b',q+i*3+2,none⟩=some (.string (atT ts i).t)) (go_keep) (first | (go_at_call 106; refine (zAy b Q cap xs (atT ts i).t 1 _ V ((zA HW).below (yG _ _).drew LB0) LB0).mono ?_; rintro e w1 ⟨⟨r1,rfl,hr1⟩,hb1⟩; have y:=zB hr1; have X:=zB hb1; have c1:=(hb1.cell (p:=⟨w.heap.size,0,none⟩) LW0).trans (show (w.alloc (.cells #[.slice (some ⟨b,Q,none⟩) xs.length cap] 33)).drew.cell? ⟨w.heap.size,0,none⟩=_ from c0); have d1:=(hb1.cell (p:=⟨b',q+i*3+2,none⟩) LT0).trans (show (w.alloc (.cells #[.slice (some ⟨b,Q,none⟩) xs.length cap] 33)).drew.cell? ⟨b',q+i*3+2,none⟩=_ from a2); clear hr1 hb1))
   by_cases p1:0<=r1
   ·have hp:Zu xs (atT ts i).t 1=true:=(zAb _ _ _).2 ((zA y).1 p1)
    have HP:=zB hp
    clear hp
    go_wp2_with fail
    go_ret
    exact ⟨zJ (by simp [zAd,zA K,zA HP]),H.trans (((yG _ _).drew.trans (zA X)).mono (Nat.le_of_lt LW0))⟩
   ·have hp:Zu xs (atT ts i).t 1=false:=by
     cases h:Zu xs (atT ts i).t 1
     ·rfl
     ·exact yP ((zA y).2 ((zAb _ _ _).1 h)) p1
    have HP:=zB hp
    clear hp
    have p1':decide (0<=r1)=false:=decide_eq_false p1
    go_wp2_with fail
    go_ret
    exact ⟨zJ (by simp [zAd,zA K,zA HP]),H.trans (((yG _ _).drew.trans (zA X)).mono (Nat.le_of_lt LW0))⟩
  ·have K:=zB hk
   have g1:((atT ts i).k==1)=false:=by simp; omega
   have g2:((atT ts i).k==2)=false:=by simp; omega
   have g4:((atT ts i).k==4)=false:=by simp; omega
   have g3:((atT ts i).k==3)=false:=by simp; omega
   have g5:((atT ts i).k==5)=true:=by simp; omega
   have g7:((atT ts i).k==7)=false:=by simp; omega
   clear hk
   go_enter Tryz.func117,Tryz.ntmps117
   go_wp2_with fail
   go_quiet (fail)
   go_wp2_with fail
   go_ret
   exact ⟨zJ (by have:=zA K; simp [zAd,this]),⟨H.os,H.tape,H.output,H.size,H.block⟩⟩
  ·have K:=zB hk
   have g1:((atT ts i).k==1)=false:=by simp; omega
   have g2:((atT ts i).k==2)=false:=by simp; omega
   have g4:((atT ts i).k==4)=false:=by simp; omega
   have g3:((atT ts i).k==3)=false:=by simp; omega
   have g5:((atT ts i).k==5)=false:=by simp; omega
   have g7:((atT ts i).k==7)=true:=by simp; omega
   clear hk
   go_enter Tryz.func117,Tryz.ntmps117
   go_wp2_with fail
   go_quiet (fail)
   go_wp2_with fail
   go_ret
   exact ⟨zJ (by have:=zA K; simp [zAd,this]),⟨H.os,H.tape,H.output,H.size,H.block⟩⟩
  ·have K:=zB hk
   have g1:((atT ts i).k==1)=false:=by simp; omega
   have g2:((atT ts i).k==2)=false:=by simp; omega
   have g4:((atT ts i).k==4)=false:=by simp; omega
   have g3:((atT ts i).k==3)=false:=by simp; omega
   have g5:((atT ts i).k==5)=false:=by simp; omega
   have g7:((atT ts i).k==7)=false:=by simp; omega
   clear hk
   go_enter Tryz.func117,Tryz.ntmps117
   go_wp2_with fail
   go_quiet (fail)
   go_wp2_with fail
   go_ret
   exact ⟨zJ (by have:=zA K; simp [zAd,this]),⟨H.os,H.tape,H.output,H.size,H.block⟩⟩
 case true=>
  rcases hk with hk | hk | hk | hk | hk | hk | hk
  ·have K:=zB hk
   have g1:((atT ts i).k==1)=true:=by simp; omega
   have g2:((atT ts i).k==2)=false:=by simp; omega
   have g4:((atT ts i).k==4)=false:=by simp; omega
   have g3:((atT ts i).k==3)=false:=by simp; omega
   have g5:((atT ts i).k==5)=false:=by simp; omega
   have g7:((atT ts i).k==7)=false:=by simp; omega
   clear hk
   go_enter Tryz.func117,Tryz.ntmps117
   go_wp2_with fail
   go_quiet (fail)
   go_wp2_with fail
   go_quiet (fail)
   go_wp2_with fail
   go_ret
   exact ⟨zJ (by have:=zA K; simp [zAd,this]),⟨H.os,H.tape,H.output,H.size,H.block⟩⟩
  ·have K:=zB hk
   have g1:((atT ts i).k==1)=false:=by simp; omega
   have g2:((atT ts i).k==2)=true:=by simp; omega
   have g4:((atT ts i).k==4)=false:=by simp; omega
   have g3:((atT ts i).k==3)=false:=by simp; omega
   have g5:((atT ts i).k==5)=false:=by simp; omega
   have g7:((atT ts i).k==7)=false:=by simp; omega
   clear hk
   go_enter Tryz.func117,Tryz.ntmps117
   go_wp2_with fail
   go_quiet (fail)
   go_wp2_with fail
   go_quiet (fail)
   go_wp2_with fail
   go_ret
   exact ⟨zJ (by have:=zA K; simp [zAd,this]),⟨H.os,H.tape,H.output,H.size,H.block⟩⟩
  ·have K:=zB hk
   have g1:((atT ts i).k==1)=false:=by simp; omega
   have g2:((atT ts i).k==2)=false:=by simp; omega
   have g4:((atT ts i).k==4)=true:=by simp; omega
   have g3:((atT ts i).k==3)=false:=by simp; omega
   have g5:((atT ts i).k==5)=false:=by simp; omega
   have g7:((atT ts i).k==7)=false:=by simp; omega
   clear hk
   go_enter Tryz.func117,Tryz.ntmps117
   go_wp2_with fail
   go_quiet (fail)
   go_wp2_with fail
   go_quiet (fail)
   go_wp2_with fail
   go_ret
   exact ⟨zJ (by have:=zA K; simp [zAd,this]),⟨H.os,H.tape,H.output,H.size,H.block⟩⟩
  ·have K:=zB hk
   have g1:((atT ts i).k==1)=false:=by simp; omega
   have g2:((atT ts i).k==2)=false:=by simp; omega
   have g4:((atT ts i).k==4)=false:=by simp; omega
   have g3:((atT ts i).k==3)=true:=by simp; omega
   have g5:((atT ts i).k==5)=false:=by simp; omega
   have g7:((atT ts i).k==7)=false:=by simp; omega
   clear hk
   go_enter Tryz.func117,Tryz.ntmps117
   go_wp2_with fail
   go_region_held (fun w'=>w'.cell? ⟨w.heap.size,0,none⟩=some (.slice (some ⟨b,Q,none⟩) xs.length cap)/\w'.cell? ⟨b',q+i*3+2,none⟩=some (.string (atT ts i).t)) (go_keep) (first | (go_at_call 106; refine (zAy b Q cap xs (atT ts i).t 2 _ V ((zA HW).below (yG _ _).drew LB0) LB0).mono ?_; rintro e w1 ⟨⟨r1,rfl,hr1⟩,hb1⟩; have y:=zB hr1; have X:=zB hb1; have c1:=(hb1.cell (p:=⟨w.heap.size,0,none⟩) LW0).trans (show (w.alloc (.cells #[.slice (some ⟨b,Q,none⟩) xs.length cap] 33)).drew.cell? ⟨w.heap.size,0,none⟩=_ from c0); have d1:=(hb1.cell (p:=⟨b',q+i*3+2,none⟩) LT0).trans (show (w.alloc (.cells #[.slice (some ⟨b,Q,none⟩) xs.length cap] 33)).drew.cell? ⟨b',q+i*3+2,none⟩=_ from a2); clear hr1 hb1))
   have LB1:b<w1.heap.size:=yi LB0 (zA X).size
   have LW1:w.heap.size<w1.heap.size:=yi LW0 (zA X).size
   have LT1:b'<w1.heap.size:=yi LT0 (zA X).size
   have P:=H.trans (((yG _ _).drew.trans (zA X)).mono (Nat.le_of_lt LW0))
   by_cases p1:0<=r1
   ·have HP:=zB (show Zu xs (atT ts i).t 2=true from (zAb _ _ _).2 ((zA y).1 p1))
    go_wp2_with fail
    go_ret
    exact ⟨zJ (by simp [zAd,zA K,zA HP]),P⟩
   ·have HP:=zB (show Zu xs (atT ts i).t 2=false by
     cases h:Zu xs (atT ts i).t 2
     ·rfl
     ·exact yP ((zA y).2 ((zAb _ _ _).1 h)) p1)
    have p1':decide (0<=r1)=false:=decide_eq_false p1
    go_wp2_with fail
    go_region_held (fun w'=>w'.cell? ⟨w.heap.size,0,none⟩=some (.slice (some ⟨b,Q,none⟩) xs.length cap)/\w'.cell? ⟨b',q+i*3+2,none⟩=some (.string (atT ts i).t)) (go_keep) (first | (go_at_call 106; refine (zAy b Q cap xs (atT ts i).t 3 _ V (((zA HW).below ((yG _ _).drew.trans (zA X)) LB0).below (yG _ _).drew LB1) LB1).mono ?_; rintro e w2 ⟨⟨r2,rfl,hr2⟩,hb2⟩; have A:=zB hr2; have B:=zB hb2; have c2:=(hb2.cell (p:=⟨w.heap.size,0,none⟩) LW1).trans (show w1.drew.cell? ⟨w.heap.size,0,none⟩=_ from c1); have d2:=(hb2.cell (p:=⟨b',q+i*3+2,none⟩) LT1).trans (show w1.drew.cell? ⟨b',q+i*3+2,none⟩=_ from d1); clear hr2 hb2))
    have J:=P.trans (((yG _ _).drew.trans (zA B)).mono (Nat.le_of_lt LW1))
    by_cases p2:0<=r2
    ·have u:=zB (show Zu xs (atT ts i).t 3=true from (zAb _ _ _).2 ((zA A).1 p2))
     go_wp2_with fail
     go_ret
     exact ⟨zJ (by simp [zAd,zA K,zA HP,zA u]),J⟩
    ·have u:=zB (show Zu xs (atT ts i).t 3=false by
      cases h:Zu xs (atT ts i).t 3
      ·rfl
      ·exact yP ((zA A).2 ((zAb _ _ _).1 h)) p2)
     have p2':decide (0<=r2)=false:=decide_eq_false p2
     go_wp2_with fail
     go_ret
     exact ⟨zJ (by simp [zAd,zA K,zA HP,zA u]),J⟩
  ·have K:=zB hk
   have g1:((atT ts i).k==1)=false:=by simp; omega
   have g2:((atT ts i).k==2)=false:=by simp; omega
   have g4:((atT ts i).k==4)=false:=by simp; omega
   have g3:((atT ts i).k==3)=false:=by simp; omega
   have g5:((atT ts i).k==5)=true:=by simp; omega
   have g7:((atT ts i).k==7)=false:=by simp; omega
   clear hk
   by_cases ho:0<opI ts i
   ·have HO:=zB ho
    go_enter Tryz.func117,Tryz.ntmps117
    go_wp2_with fail
    go_quiet (fail)
    go_wp2_with fail
    go_quiet (fail)
    go_wp2_with (go_at_call 131; refine (zCD b' q x i ts _ hm (Nat.le_of_lt hi) (by first | exact (zA Y) _ _ | exact (zA j) _)).mono ?_; rintro e w3 ⟨rfl,hx⟩; obtain rfl:=hx.symm)
    go_ret
    exact ⟨zJ (by simp [zAd,zA K,zA HO]),⟨H.os,H.tape,H.output,H.size,H.block⟩⟩
   ·have HO:=zB ho
    have a:decide (0<opI ts i)=false:=decide_eq_false ho
    go_enter Tryz.func117,Tryz.ntmps117
    go_wp2_with fail
    go_quiet (fail)
    go_wp2_with fail
    go_quiet (fail)
    go_wp2_with (go_at_call 131; refine (zCD b' q x i ts _ hm (Nat.le_of_lt hi) (by first | exact (zA Y) _ _ | exact (zA j) _)).mono ?_; rintro e w3 ⟨rfl,hx⟩; obtain rfl:=hx.symm)
    go_ret
    exact ⟨zJ (by simp [zAd,zA K,zA HO]),⟨H.os,H.tape,H.output,H.size,H.block⟩⟩
  ·have K:=zB hk
   have g1:((atT ts i).k==1)=false:=by simp; omega
   have g2:((atT ts i).k==2)=false:=by simp; omega
   have g4:((atT ts i).k==4)=false:=by simp; omega
   have g3:((atT ts i).k==3)=false:=by simp; omega
   have g5:((atT ts i).k==5)=false:=by simp; omega
   have g7:((atT ts i).k==7)=true:=by simp; omega
   clear hk
   by_cases ho:opI ts i=0
   ·have HO:=zB ho
    have a:(opI ts i==0)=true:=by simpa using ho
    by_cases hl:i+1=ts.length
    ·have HL:=zB hl
     have c:((i:Int)==(ts.length:Int)-1)=true:=by simp; omega
     go_enter Tryz.func117,Tryz.ntmps117
     go_wp2_with fail
     go_quiet (fail)
     go_wp2_with fail
     go_quiet (fail)
     go_wp2_with (go_at_call 131; refine (zCD b' q x i ts _ hm (Nat.le_of_lt hi) (by first | exact (zA Y) _ _ | exact (zA j) _)).mono ?_; rintro e w3 ⟨rfl,hx⟩; obtain rfl:=hx.symm)
     go_ret
     exact ⟨zJ (by simp [zAd,zA K,zA HO,zA HL]),⟨H.os,H.tape,H.output,H.size,H.block⟩⟩
    ·have HL:=zB hl
     have c:((i:Int)==(ts.length:Int)-1)=false:=by simp; omega
     go_enter Tryz.func117,Tryz.ntmps117
     go_wp2_with fail
     go_quiet (fail)
     go_wp2_with fail
     go_quiet (fail)
     go_wp2_with (go_at_call 131; refine (zCD b' q x i ts _ hm (Nat.le_of_lt hi) (by first | exact (zA Y) _ _ | exact (zA j) _)).mono ?_; rintro e w3 ⟨rfl,hx⟩; obtain rfl:=hx.symm)
     go_ret
     exact ⟨zJ (by simp [zAd,zA K,zA HO,zA HL]),⟨H.os,H.tape,H.output,H.size,H.block⟩⟩
   ·have HO:=zB ho
    have a:(opI ts i==0)=false:=by simpa using ho
    go_enter Tryz.func117,Tryz.ntmps117
    go_wp2_with fail
    go_quiet (fail)
    go_wp2_with fail
    go_quiet (fail)
    go_wp2_with (go_at_call 131; refine (zCD b' q x i ts _ hm (Nat.le_of_lt hi) (by first | exact (zA Y) _ _ | exact (zA j) _)).mono ?_; rintro e w3 ⟨rfl,hx⟩; obtain rfl:=hx.symm)
    go_ret
    exact ⟨zJ (by simp [zAd,zA K,zA HO]),⟨H.os,H.tape,H.output,H.size,H.block⟩⟩
  ·have K:=zB hk
   have g1:((atT ts i).k==1)=false:=by simp; omega
   have g2:((atT ts i).k==2)=false:=by simp; omega
   have g4:((atT ts i).k==4)=false:=by simp; omega
   have g3:((atT ts i).k==3)=false:=by simp; omega
   have g5:((atT ts i).k==5)=false:=by simp; omega
   have g7:((atT ts i).k==7)=false:=by simp; omega
   clear hk
   go_enter Tryz.func117,Tryz.ntmps117
   go_wp2_with fail
   go_quiet (fail)
   go_wp2_with fail
   go_quiet (fail)
   go_wp2_with fail
   go_ret
   exact ⟨zJ (by have:=zA K; simp [zAd,this]),⟨H.os,H.tape,H.output,H.size,H.block⟩⟩
theorem zOo:(Tryz.prog.info? 3).map (fun i=>(i.zero,i.size,i.bytes))=some (some (.int .i64 0),1,8):=by kernel_rfl
theorem zLi (w:JY) (v:Int):∀ j u,(ZE [v])[j]?=some u->(w.alloc (.cells #[.int .i64 v] 3)).cell? ((⟨w.heap.size,0,none⟩:Addr).add j)=some u:=by
 intro j u hj
 rw [Addr.add_mid]
 have:=yz (w:=w.alloc (.cells #[.int .i64 v] 3)) (b:=w.heap.size) (heap_alloc_new w _) 0 1
 exact this j u (by simpa [ZE] using hj)
theorem zCQ {w:JY} {g:Nat} (h:g<w.heap.size):zGN w g [] 0:=⟨h,fun j hj=>yP hj (yt j),fun i hi=>yP hi (yt i)⟩
theorem zLj {xs:List OpR} (h:zR xs 0):zGF xs:=by
 apply zNp
 rcases h with ⟨h,_⟩ | ⟨_,⟨h,_⟩ | ⟨_,⟨h,_⟩ | ⟨h,_⟩⟩⟩
 ·exact yP h (by decide)
 ·exact yP h (by decide)
 ·exact yP h (by decide)
 ·exact h
theorem zHq (b Q cap b' j J:Nat) (xs:List OpR) (ts:List zX) (w:JY) (F:xs.length<=1048576) (hm:ts.length<=1048576) (hw:Ops w b Q xs) (L:Zg xs) (hB:b<w.heap.size) (M:zFA w b' j ts) (E:b'<w.heap.size) :
  Calls Tryz.prog 97 #[.agg #[.slice (some ⟨b,Q,none⟩) xs.length cap],.slice (some ⟨b',j,none⟩) ts.length J] w fun e w'=>(∃ (g c:Nat) (us:List Int) (v:Int),e = .returned (.tuple #[.slice (some ⟨g,0,none⟩) us.length c,.int .i64 v])/\w.heap.size<=g/\zGN w' g us us.length/\zPi xs (zR xs 0) ts us v)/\Below w.heap.size w w':=by
 have HW:=zB hw
 have HS:=zB L
 have HT:=zB M
 clear hw L M
 go_enter Tryz.func97,Tryz.ntmps97
 go_wp2_with fail
 refine (ZY b Q cap xs _ F ((zA HW).below ((zC _ _).alloc (by simp) _) hB) (zA HS) (by simp; omega)).mono ?_
 rintro e w1 ⟨⟨c,rfl,hc⟩,hb1⟩
 have HC:=zB hc
 have z1:w.heap.size+2<=w1.heap.size:=by have:=hb1.size; simp at this; omega
 have X:Below w.heap.size w w1:=((zC _ _).alloc (by simp) _).trans (hb1.mono (by simp; omega))
 have HO:=zB (show w1.ownsRow (w.heap.size+1) 3 1 (.slice (some ⟨w.heap.size+1,0,none⟩) 0 0) 0 (ZE []) by
  have h0:=yD (base:=w.heap.size+1) (e:=3) (size:=1) (w.alloc (.cells #[.slice (some ⟨b,Q,none⟩) xs.length cap] 33)) #[] 0 (by simp) (yj _) rfl
  have h1:=h0.kept (zAn hb1 none) (yR (by simp [Value.ownBlock]))
  simpa [ZE] using h1)
 have c1:w1.cell? ⟨w.heap.size,0,none⟩=some (.slice (some ⟨b,Q,none⟩) xs.length cap):=by rw [hb1.cell (p:=⟨w.heap.size,0,none⟩) (by simp; omega)]; simp [go_sem]
 clear hb1 hc
 by_cases Y:c=0
 case neg=>
  have h3:(c != 0)=true:=by simpa using Y
  have HN:=zB (show ¬ zR xs 0 from fun h=>Y (zAD (zA HC) h))
  clear Y
  go_wp2_with fail
  go_ret2
  exact ⟨⟨w.heap.size+1,0,[],0,rfl,by omega,zCQ (by omega),yQ ⟨zA HN,rfl,rfl⟩⟩,X⟩
 subst Y
 have hs:=zB (zLj (zA HC))
 go_wp2_with fail
 refine (zJI b Q cap b' j J xs ts _ F hm ((zA HW).below X hB) (by omega) ((zA HT).below X E) (by omega)).mono ?_
 rintro e w2 ⟨⟨gs,cst,rfl,hgsl,u,hst⟩,hb2⟩
 have W:=zB hst
 have d:=X.trans (hb2.mono X.size)
 have t:=zB ((zA HO).kept (zAn hb2 none) (yR (by simp [Value.ownBlock])))
 have c2:=(hb2.cell (p:=⟨w.heap.size,0,none⟩) (show w.heap.size<w1.heap.size by omega)).trans c1
 have z2:w.heap.size+2<=w2.heap.size:=yr z1 hb2.size
 have he:=zB (show w1.heap.size<=gs from hgsl)
 clear hst hb2 HO c1
 obtain ⟨i0,m,o,R,S⟩:=info_parts zOo
 have hh:=zB m
 have D:=zB (yH o (yH R S))
 clear m o R S
 go_wp2_with fail
 go_loopw [6,8] (fun ov iv wr=>∃ (k g c:Nat),k<=ts.length/\iv = .int .i64 (k:Int)/\ov = .slice (some ⟨g,0,none⟩) k c/\Hid (zC8 xs ts k)/\Hid (wr.ownsRow (w.heap.size+1) 3 1 (.slice (some ⟨g,0,none⟩) k c) k (ZE (Z0 xs ts k)))/\Hid (wr.cell? ⟨w.heap.size,0,none⟩=some (.slice (some ⟨b,Q,none⟩) xs.length cap))/\Hid (∀ i,i<=ts.length->wr.cell? ⟨gs,i,none⟩=some (.bool (zAc xs ts i)))/\gs<wr.heap.size/\w.heap.size+2<=wr.heap.size/\Hid (Below w.heap.size w wr)/\Hid (g≠gs)) (fun _ iv _=>ts.length-(intOf iv).toNat)
 case atStart=>exact ⟨0,w.heap.size+1,0,yj _,rfl,rfl,zB (fun i hi=>by omega),t,zB c2,W,u,z2,zB d,zB (by have:=zA he; omega)⟩
 case round=>
  clear t W c2 z2 d u
  obtain ⟨k,g,c,hk,rfl,rfl,x,U,Y,l,u,hz,K,O⟩:=hrel
  have e0:=zA Y
  by_cases f:k<ts.length
  ·have h4:(k:Int)<(ts.length:Int):=by omega
   have hp:(k:Int)<((ts.length+1:Nat):Int):=by omega
   have hj:(k:Int)<(ts.length:Int)+1:=by omega
   have s0:=(zA l) k (by omega)
   have ht:b<wr.heap.size:=by omega
   have s:b'<wr.heap.size:=by omega
   have zw:w.heap.size<wr.heap.size:=by omega
   go_wp2_with fail
   go_region_held (fun w'=>w'.cell? ⟨w.heap.size,0,none⟩=some (.slice (some ⟨b,Q,none⟩) xs.length cap)/\w'.cell? ⟨gs,k,none⟩=some (.bool (zAc xs ts k))) (go_keep) (first | (go_at_call 117; refine (zLh b Q cap b' j J k (zAc xs ts k) xs ts _ F hm f ((zA HW).below (zA K).drew hB) ht ((zA HT).below (zA K).drew E) s).mono ?_; rintro e w3 ⟨rfl,hb3⟩; have q0:=(hb3.cell (p:=⟨w.heap.size,0,none⟩) zw).trans (show wr.drew.cell? ⟨w.heap.size,0,none⟩=_ from e0); have q1:=(hb3.cell (p:=⟨gs,k,none⟩) u).trans (show wr.drew.cell? ⟨gs,k,none⟩=_ from s0); have r:=zB hb3; clear hb3))
   have T:=zPj (zA hs) k f (zA x)
   rw [T]
   have V:Below wr.heap.size wr w3:=(yG _ _).drew.trans (zA r)
   have I:=zB ((zA U).kept (zAn V none) (yR (by simp [Value.ownBlock])))
   have G:=zB ((zA K).trans (V.mono (zA K).size))
   have n:=zB (fun i (hi:i<=ts.length)=>(V.cell (p:=⟨gs,i,none⟩) u).trans ((zA l) i hi))
   have z3:wr.heap.size<=w3.heap.size:=V.size
   clear V U K l T r e0 s0 Y
   by_cases hr:zi xs ts k<0
   ·have HR:=zB hr
    go_wp2_with fail
    go_ret2
    exact ⟨⟨w3.heap.size,0,[],(k:Int),rfl,by omega,zCQ (by simp),yR ⟨zA HC,yQ ⟨k,f,zA x,zA HR,rfl,rfl⟩⟩⟩,(zA G).alloc (by omega) _⟩
   have hd:0<=zi xs ts k:=by omega
   have Z:=zB (show zC8 xs ts (k+1) from fun i hi=>by
    by_cases e:i=k
    ·subst e; exact hd
    ·exact (zA x) i (by omega))
   have hC:=(zA I).lt g rfl
   go_wp2_with (at_builtin; refine wpList_append_lies _ rfl (.tmp 36) (.tmp 38) 152 rfl (w.heap.size+1) 3 i0 _ 1 8 Tryz.underlying152 (zA hh) (zA D).1 (zA D).2.1 (zA D).2.2 rfl (by decide) _ k (ZE (Z0 xs ts k)) rfl ((zA I).alloc _) ⟨w3.heap.size,0,none⟩ 1 1 (ZE [zi xs ts k]) rfl rfl (zLi w3 (zi xs ts k)) (zCC _) (by decide) ?b1 ?b2 ?b3 _ rfl ?next)
   case b1=>unfold maxLen; omega
   case b2=>omega
   case b3=>first | omega | (simp; omega)
   case next=>
    intro g4 c4 w4 y H B h5
    have A:Below w.heap.size w w4:=((zA G).alloc (by omega) _).grown H (by simp; omega) (fun q hq=>by simp [Value.ownBlock] at hq; omega)
    have P:∀ bb,bb<w3.heap.size->bb≠g->w4.heap[bb]?=w3.heap[bb]?:=fun bb h1 h2=>(H.block bb (by simp; omega) (by simp [Value.ownBlock]; omega)).trans ((zC w3 _).block bb h1)
    have q4:w4.cell? ⟨w.heap.size,0,none⟩=some (.slice (some ⟨b,Q,none⟩) xs.length cap):=(yp (P w.heap.size (by omega) (by omega))).trans q0
    have N:=zA O
    have hy:=zB (fun i (hi:i<=ts.length)=>(yp (w:=w3) (a:=⟨gs,i,none⟩) (P gs (by omega) (fun e=>N e.symm))).trans ((zA n) i hi))
    have hx:g4≠gs:=by
     rcases B with h | h
     ·simp [Value.ownBlock] at h; omega
     ·first | omega | (simp at h; omega)
    rw [<- zAt,<- zIz] at y
    have z:=zB y
    have hE:w3.heap.size<=w4.heap.size:=by have:=H.size; simp at this; omega
    have hl:=zB A
    have hu:=zB q4
    clear y H B P A I G n q4 q0 q1 O
    go_wp2
    exact ⟨⟨k+1,g4,c4,by omega,by go_num,rfl,Z,z,hu,hy,by omega,by omega,hl,zB hx⟩,by simp [intOf]; omega⟩
  ·obtain rfl:k=ts.length:=by omega
   by_cases hn:ts.length=0
   ·have hv:((ts.length:Int)==0)=true:=beq_iff_eq.2 (by omega)
    have HN:=zB hn
    clear hn
    go_wp2_with fail
    go_ret2
    refine ⟨⟨wr.heap.size,0,[],(ts.length:Int),rfl,by omega,zCQ (by simp),yR ⟨zA HC,yR ⟨zA x,yR ⟨fun h=>by have:=zA HN; omega,rfl,rfl⟩⟩⟩⟩,?_⟩
    first
     | exact (zA K).alloc (by omega) _
     | (have hb:=(zA K).alloc (by omega:w.heap.size<=wr.heap.size) (.cells #[] 3); exact ⟨hb.os,hb.tape,hb.output,hb.size,hb.block⟩)
   ·have hv:((ts.length:Int)==0)=false:=yU.2 (by omega)
    obtain ⟨a0,a1,a2⟩:=((zA HT) (ts.length-1) (by omega)).below (zA K) E
    have hD:(ts.length:Int)-1=((ts.length-1:Nat):Int):=by omega
    have h9:((ts.length-1:Nat):Int)<(ts.length:Int):=by omega
    have h8:((ts.length:Int)-1).toNat=ts.length-1:=by omega
    have hA:(ts.length:Int)-1<(ts.length:Int):=by omega
    have h6:(0:Int)<=(ts.length:Int)-1:=by omega
    by_cases h7:(atT ts (ts.length-1)).k=7
    ·have ha:((atT ts (ts.length-1)).k != 7)=false:=by simpa using h7
     have H7:=zB h7
     clear h7
     go_wp2_with fail
     go_ret2
     have ho:=zA U
     have C:(Z0 xs ts ts.length).length=ts.length:=Z8 _ _ _
     obtain ⟨hg,hf⟩:=zEz (zs:=Z0 xs ts ts.length) (by rw [C]; exact ho)
     exact ⟨⟨g,c,Z0 xs ts ts.length,-1,by rw [C]; rfl,by omega,hf,yR ⟨zA HC,yR ⟨zA x,yQ ⟨⟨by omega,zA H7⟩,rfl,rfl⟩⟩⟩⟩,zA K⟩
    ·have ha:((atT ts (ts.length-1)).k != 7)=true:=by simpa using h7
     have H7:=zB h7
     clear h7
     go_wp2_with fail
     go_ret2
     exact ⟨⟨wr.heap.size,0,[],(ts.length:Int),rfl,by omega,zCQ (by simp),yR ⟨zA HC,yR ⟨zA x,yR ⟨fun h=>(zA H7) h.2,rfl,rfl⟩⟩⟩⟩,(zA K).alloc (by omega) _⟩
end Go.Proofs.YtgbkgkdpdfdokaaGreatDoor
