import Derived.Test.YtgbkgkdpdfdokaaGreatDoorQ12
namespace Go.Proofs.YtgbkgkdpdfdokaaGreatDoor
set_option linter.all false
set_option maxHeartbeats 16000000
set_option maxRecDepth 100000
open Go.RowKit
theorem zJN (rp cap p gw cw:Nat) (a:Option Addr) (bs:List UInt8) (ws:List JZ) (w:JY) (h:RdF w rp a cap bs p) (hl:bs.length<=1200) (E:ws.length<=100000) (Y:∀ i,(atB ws i).size<=20000) (V:gw<w.heap.size) (J:gw≠rp) (hw:∀ i,i<ws.length->w.cell? ⟨gw,i,none⟩=some (.string (atB ws i))) :
  Calls Tryz.prog 47 #[.pointer (some ⟨rp,0,none⟩),.slice (some ⟨gw,0,none⟩) ws.length cw] w fun e w'=>(∃ s:JZ,e = .returned (.string s)/\Hid (s=(zAS bs ws p ws.length).1++zEF (nxt bs (zAS bs ws p ws.length).2)))/\Hid (RdF w' rp a cap bs (adv bs (zAS bs ws p ws.length).2))/\Hid (zG w w' rp):=by
 have H:=zB h
 have HW:=zB hw
 have j:=zB Y
 clear h hw Y
 go_enter Tryz.func47,Tryz.ntmps47
 go_wp2_with fail
 (with_reducible refine (zEG rp cap p a bs _ (zA H) hl).mono ?_)
 rintro e w1 ⟨⟨g1,rfl,HG1⟩,H1,HP1⟩
 obtain ⟨o0,y⟩:∃ o0,Hid (o0=(zAS bs ws p 0).1):=⟨_,zB rfl⟩
 obtain rfl:g1=o0:=(zA HG1).trans (zA y).symm
 go_wp2_with fail
 go_loopw [5,6] (fun ov iv wr=>∃ (i:Nat) (o:JZ) (q:Nat),i<=ws.length/\iv = .int .i64 (i:Int)/\ov = .string o/\Hid (o=(zAS bs ws p i).1)/\Hid (q=(zAS bs ws p i).2)/\Hid (RdF wr rp a cap bs q)/\Hid (zG w wr rp)) (fun _ iv _=>ws.length-(intOf iv).toNat)
 case atStart=>exact ⟨0,_,_,yj _,rfl,rfl,y,zB rfl,H1,HP1⟩
 case round=>
  clear H H1 HP1 y HG1
  obtain ⟨i,o,q,hi,rfl,rfl,Q,k,HR,HK⟩:=hrel
  have U:o.size<=2+20002*i:=by rw [zA Q]; exact zII bs ws p (zA j) i
  have C:o.size<=2000300000:=by omega
  have D:=(zA j) i
  clear U
  by_cases B:i<ws.length
  case neg=>
   have c:i=ws.length:=by omega
   subst c
   go_wp2_with fail
   (with_reducible refine (zEG rp cap q a bs _ (zA HR) hl).mono ?_)
   rintro e w2 ⟨⟨g2,rfl,HG2⟩,H2,HP2⟩
   have v:g2.size<=2:=by rw [zA HG2]; exact zBy _
   go_wp2_with fail
   go_ret
   exact ⟨⟨_,rfl,zB (by rw [<- zA Q,<- zA k,<- zA HG2])⟩,zB (by rw [<- zA k]; exact zA H2),zB ((zA HK).trans (zA HP2))⟩
  have d:(i:Int)<(ws.length:Int):=by omega
  go_wp2_with fail
  (with_reducible refine (zEG rp cap q a bs _ (zA HR) hl).mono ?_)
  rintro e w2 ⟨⟨g2,rfl,HG2⟩,H2,HP2⟩
  have v:g2.size<=2:=by rw [zA HG2]; exact zBy _
  have K:=zB ((zA HK).trans (zA HP2))
  have c0:=((zA K).cell (b:=gw) V J i).trans ((zA HW) i B)
  clear HR HK HP2
  by_cases u:i=0
  ·subst u
   have e0:¬ (0:Int)<((0:Nat):Int):=by omega
   go_wp2_with fail
   go_quiet (fail)
   go_wp2_with fail
   refine ⟨⟨1,_,adv bs q,by omega,rfl,rfl,zB ?_,zB ?_,zB ((zA H2).drewN _),zB ((zA K).trans (Z7 _ _ _))⟩,by simp [intOf]; omega⟩
   ·show o++g2++atB ws 0=(zAS bs ws p 0).1++zDT ws 0 (nxt bs (zAS bs ws p 0).2)++atB ws 0
    have e1:zDT ws 0 (nxt bs (zAS bs ws p 0).2)=g2:=by
     unfold zDT
     rw [yN (fun h=>yP h.1 (by omega)),zA HG2,zA k]
    rw [e1,zA Q]
   ·rw [zA k]; rfl
  ·have e0:(0:Int)<(i:Int):=by omega
   have e0n:0<i:=by omega
   have e0b:decide (0<i)=true:=decide_eq_true e0n
   have e0c:decide ((0:Int)<(i:Int))=true:=decide_eq_true e0
   have c1:=((zA K).cell (b:=gw) V J (i-1)).trans ((zA HW) (i-1) (by omega))
   by_cases P:g2.size=0
   ·have eg:g2=⟨#[]⟩:=ByteArray.size_eq_zero_iff.1 P
    have ei:(i:Int)-1=((i-1:Nat):Int):=by omega
    have f:((i-1:Nat):Int)<(ws.length:Int):=by omega
    subst eg
    obtain ⟨mv,X⟩:∃ mv,Hid (zD2 (atB ws (i-1)) (atB ws i)=mv):=⟨_,zB rfl⟩
    have HX:=zB (zEH (atB ws (i-1)) (atB ws i) w2.drew)
    rw [zA X] at HX
    cases mv with
    | true=>
     go_wp2_with fail
     go_quiet ((go_at_call 72; exact Calls.quiet_of_same (by have:=zEH (atB ws (i-1)) (atB ws i); rw [zA X] at this; exact this _)))
     go_wp2_with fail
     refine ⟨⟨i+1,_,adv bs q,by omega,by simp,rfl,zB ?_,zB ?_,zB ((zA H2).drewN _),zB ((zA K).trans (Z7 _ _ _))⟩,by simp [intOf]; omega⟩
     ·show o++(⟨#[32]⟩:JZ)++atB ws i=(zAS bs ws p i).1++zDT ws i (nxt bs (zAS bs ws p i).2)++atB ws i
      have e1:zDT ws i (nxt bs (zAS bs ws p i).2)=(⟨#[32]⟩:JZ):=by
       unfold zDT
       rw [<- zA k]
       rw [yO ⟨e0n,by rw [<- zA HG2]; rfl,zA X⟩]
      rw [e1,zA Q]
     ·rw [zA k]; rfl
    | false=>
     go_wp2_with fail
     go_quiet ((go_at_call 72; exact Calls.quiet_of_same (by have:=zEH (atB ws (i-1)) (atB ws i); rw [zA X] at this; exact this _)))
     go_wp2_with fail
     refine ⟨⟨i+1,_,adv bs q,by omega,by simp,rfl,zB ?_,zB ?_,zB ((zA H2).drewN _),zB ((zA K).trans (Z7 _ _ _))⟩,by simp [intOf]; omega⟩
     ·show o++(⟨#[]⟩:JZ)++atB ws i=(zAS bs ws p i).1++zDT ws i (nxt bs (zAS bs ws p i).2)++atB ws i
      have e1:zDT ws i (nxt bs (zAS bs ws p i).2)=(⟨#[]⟩:JZ):=by
       unfold zDT
       rw [<- zA k]
       rw [yN (fun h=>by rw [zA X] at h; exact yP h.2.2 (by decide)),<- zA HG2]
      rw [e1,zA Q]
     ·rw [zA k]; rfl
   ·have ng:¬ g2=⟨#[]⟩:=fun e=>P (by rw [e]; rfl)
    have ng':¬ g2.toList=[]:=fun e=>ng (zAT (by rw [e,yC]))
    have eg:g2.toList.isEmpty=false:=by cases h:g2.toList with | nil=>exact yP h ng' | cons x r=>rfl
    have A:g2=⟨#[32]⟩\/g2=⟨#[10,9]⟩\/g2=⟨#[32,32]⟩:=by
     have h:=zA HG2
     unfold zEF at h
     split at h
     ·exact yQ h
     ·split at h
      ·exact yR (yQ h)
      ·split at h
       ·exact yR (yR h)
       ·exact yP h ng
    clear eg ng ng' v
    rcases A with rfl | rfl | rfl
    all_goals
     go_wp2_with fail
     go_quiet (fail)
     go_wp2_with fail
     refine ⟨⟨i+1,_,adv bs q,by omega,by simp,rfl,zB ?_,zB ?_,zB ((zA H2).drewN _),zB ((zA K).trans (Z7 _ _ _))⟩,by simp [intOf]; omega⟩
     ·show _=(zAS bs ws p i).1++zDT ws i (nxt bs (zAS bs ws p i).2)++atB ws i
      have e1:zDT ws i (nxt bs (zAS bs ws p i).2)=zEF (nxt bs q):=by
       unfold zDT
       rw [<- zA k,yN (fun h=>by rw [<- zA HG2] at h; exact yP h.2.1 (by decide))]
      rw [e1,<- zA HG2,zA Q]
     ·rw [zA k]; rfl
theorem zOs {w:JY} {B g0 c0:Nat} {us vs:List zF} (ty:TypeId) (hr:ZH w B (.slice (some ⟨g0,0,none⟩) us.length c0) us) (ad:Addr) (c:Nat)
  (h:∀ j u,(zY vs)[j]?=some u->w.cell? (ad.add j)=some u) (hl:us.length+vs.length<=1000) (hB:B<=w.heap.size) :
  ∃ g cap w' ts,(Builtin.append_ #[23,23] ty #[.slice (some ⟨g0,0,none⟩) us.length c0,.slice (some ad) vs.length c]).run Tryz.prog w = .ok (.slice (some ⟨g,0,none⟩) (List.length ts) cap) w' /\
   ts=us++vs/\ZH w' B (.slice (some ⟨g,0,none⟩) (List.length ts) cap) ts/\w.grownBy w' (some g0)/\(g=g0\/g=w.heap.size)/\g<w'.heap.size:=by
 obtain ⟨i2,k,Q,x,q⟩:=info_parts zEP
 obtain ⟨v',w',h1,h2,h3,h4,h5⟩:=run_append_own_at (P:=Tryz.prog) w B 23 ty 29 i2 _ 2 32 Tryz.underlying23 k Q x q rfl (by decide) _ us.length (zY us) hr ad vs.length c (zY vs) (zC4 vs) h (Z9 _) (by unfold maxLen; omega) (by omega) hB
 have hn:v' ≠ .slice none 0 0:=fun e=>by have:=(h4.1 e).1; cases this
 obtain ⟨_,⟨e,_⟩ | ⟨g,cap,X,rfl,_⟩⟩:=id h2
 ·exact yP e hn
 have K:us.length+vs.length=(us++vs).length:=by simp
 have H:ZH w' B (.slice (some ⟨g,0,none⟩) (us++vs).length cap) (us++vs):=by
  unfold ZH
  rw [zAr,ym]
  exact h2
 refine ⟨g,cap,w',us++vs,by rw [<- K]; exact h1,rfl,H,h3,?_,(H.lt g rfl).2⟩
 rcases h5 with h5 | h5
 ·exact yQ (by simpa [Value.ownBlock] using h5)
 ·exact yR (by simpa [Value.ownBlock] using h5)
theorem Zr {w:JY} {ops:Array Oper} {o:Oper} {a:Act} {K:Act->World->Prop} {Q:Exit->Act->World->Prop} {E:Prop} {B g0 c0:Nat} {us vs:List zF} (k:o.guard=none) (s x:Operand)
  (ho:o.op = .call { callee:=.builtin .append,args:=#[s,x],argTypes:=#[23,23] })
  (hr:ZH w B (.slice (some ⟨g0,0,none⟩) us.length c0) us) (ad:Addr) (c:Nat) (H:∀ j u,(zY vs)[j]?=some u->w.cell? (ad.add j)=some u) (hl:us.length+vs.length<=1000) (hB:B<=w.heap.size)
  (hs:a.eval s = .slice (some ⟨g0,0,none⟩) us.length c0) (hx:a.eval x = .slice (some ad) vs.length c)
  (h:∀ g cap w' (ts:List zF),ts=us++vs->ZH w' B (.slice (some ⟨g,0,none⟩) ts.length cap) ts->w.grownBy w' (some g0)->(g=g0\/g=w.heap.size)->g<w'.heap.size->K (a.put o.dst (.slice (some ⟨g,0,none⟩) ts.length cap)) w') :
  if Region.wanted o (yielded ops a.tmps)=true then Oper.wp Tryz.prog o a w K Q else E:=by
 have hw:Region.wanted o (yielded ops a.tmps)=true:=by simp [Region.wanted,k]
 rw [yO hw]
 obtain ⟨g,cap,w',ts,h1,h2,h3,h4,h5,h6⟩:=zOs (w:=w) o.type hr ad c H hl hB
 unfold Oper.wp execOp
 simp only [ho,resolve,invoke,builtin,Sem.run_bind,Sem.run_pure,Result.andThen_ok,List.map_toArray,List.map_cons,List.map_nil,hs,hx,h1]
 exact h g cap w' ts h2 h3 h4 h5 h6
end Go.Proofs.YtgbkgkdpdfdokaaGreatDoor
