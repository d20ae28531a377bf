import Derived.Test.YtgbkgkdpdfdokaaGreatDoorQ26
import Derived.Test.YtgbkgkdpdfdokaaGreatDoorQ27
namespace Go.Proofs.YtgbkgkdpdfdokaaGreatDoor
set_option linter.all false
set_option maxHeartbeats 16000000
set_option maxRecDepth 100000
open Go.RowKit
def zRf (w:JY) (rp cap:Nat) (a:Option Addr) (bs:List UInt8) (D:List zF->Nat->Prop) (e:Ending) (w':JY):Prop:=
 ∃ (g c q:Nat) (ms:List zF),e = .returned (.slice (some ⟨g,0,none⟩) ms.length c)/\Hid (ZH w' w.heap.size (.slice (some ⟨g,0,none⟩) ms.length c) ms)/\1<=ms.length/\ms.length<=4/\Hid (MsZ 3 2000000000000 ms)/\Hid (D ms q)/\Hid (RdS w' rp a cap bs q)/\Hid (zG w w' rp)
theorem zE4 (rp cap p:Nat) (a:Option Addr) (bs:List UInt8) (w:JY) (h:RdS w rp a cap bs p) (hl:bs.length<=1200) :
  Calls Tryz.prog 22 #[.pointer (some ⟨rp,0,none⟩)] w (zRf w rp cap a bs (fun ms q=>zM0 bs p ms q)):=by
 have Kv:=h.lt
 have H:=zB h
 clear h
 obtain ⟨i0,kR,k9,Ht,Kd⟩:=zN zCL
 have HI:=zB kR
 have HZ:=zB (yH k9 (yH Ht Kd))
 obtain ⟨i1,kP,kK,k3,kY⟩:=info_parts zCr
 have HJ:=zB kP
 have HY:=zB (yH kK (yH k3 kY))
 obtain ⟨i2,kV,Ke,kZ,kX⟩:=info_parts zEP
 have HM:=zB kV
 have HX:=zB (yH Ke (yH kZ kX))
 clear kR k9 Ht Kd kP kK k3 kY kV Ke kZ kX
 go_enter Tryz.func22,Tryz.ntmps22
 go_wp2_with fail
 (with_reducible refine (zAj rp cap p a bs _ (zA H) hl).mono ?_)
 rintro e w1 ⟨⟨k0,rfl,hk0,HK0⟩,H1,HP1⟩
 have Ht:=(zA HP1).size
 go_wp2_with fail
 (with_reducible refine (zF2 rp cap (adv bs p) a bs _ ((zA H1).below (zC _ _)) hl).mono ?_)
 rintro e w2 ⟨⟨ga,ca,qa,xa,rfl,hga,hF2,HTB,H2⟩,HP2⟩
 obtain ⟨n,HN⟩:∃ n,Hid (n=1+nxt bs p%4):=⟨_,zB rfl⟩
 have KW:1<=n/\n<=4:=by rw [zA HN]; omega
 have KV:(1:Int)+(k0:Int)%4=(n:Int):=by rw [zA HN,<- zA HK0]; omega
 have z2:w1.heap.size+1<=w2.heap.size:=by have:=(zA HP2).size; simpa using this
 have KS:w1.heap.size+1<=ga:=by simpa using hga
 have K1:xa.length<=10:=by have:=(zA HTB).small.1; have:=Nat.mod_lt (nxt bs (adv bs p)) (show 0<8 by decide); omega
 have Ks:=zB ((zA HTB).opT)
 have kQ:=zB (show PrS w (w2.alloc (.cells #[.slice (some ⟨ga,0,none⟩) xa.length ca] 33)) rp cap a bs w2.heap.size ga ca xa w1.heap.size 0 [] qa from by
  have hk:zG w w2 rp:=((zA HP1).belowN (zC _ _)).trans (zA HP2)
  have hb:=zC w2 (.cells #[.slice (some ⟨ga,0,none⟩) xa.length ca] 33)
  have hr:ZH w2 w.heap.size (.slice (some ⟨w1.heap.size,0,none⟩) 0 0) []:=(ZH.nil (w:=w1) (B:=w.heap.size) Ht).grown (zr (zA HP2)) (fun k hk e=>by simp [Value.ownBlock] at hk; injection e with e; omega)
  have hy:=hF2.lt1
  exact ⟨hr.below hb,(zA H2).below hb,hk.belowN hb,by simp [go_sem],hF2.tabO.below hb hy,by omega,by omega,by omega,by omega,Kv⟩)
 clear hF2 H1 HP1 H2 HP2 H
 go_wp2_with fail
 go_loopw [4,6] (fun ov iv wr=>∃ (g c q:Nat) (ms:List zF),ms.length<=n/\iv = .int .i64 (ms.length:Int)/\ov = .slice (some ⟨g,0,none⟩) ms.length c/\Hid (PrS w wr rp cap a bs w2.heap.size ga ca xa g c ms q)/\Hid (zFv bs n xa qa ms.length ms q)/\Hid (MsZ 3 2000000000000 ms)) (fun _ iv _=>n-(intOf iv).toNat)
 case atStart=>exact ⟨w1.heap.size,0,qa,[],yj _,rfl,rfl,kQ,zB ⟨rfl,rfl⟩,zB (MsZ.nil _ _)⟩
 case round=>
  clear kQ
  obtain ⟨g,c,q,ms,qc,rfl,rfl,HS,hP,Hi⟩:=hrel
  by_cases qg:ms.length<n
  case neg=>
   have HF:=zB (show zM0 bs p ms q from ⟨xa,qa,zA HTB,by
    have KA:ms.length=n:=by omega
    have h:=zA hP
    rw [KA] at h
    rw [<- zA HN]
    exact h⟩)
   have k1:¬ (ms.length:Int)<(n:Int):=by omega
   go_wp2_with fail
   go_ret
   exact ⟨g,c,q,ms,rfl,zB (zA HS).row,by omega,by omega,Hi,HF,zB (zA HS).rd,zB (zA HS).kp⟩
  have k1:(ms.length:Int)<(n:Int):=by omega
  go_wp2_with fail
  (with_reducible refine (zAj rp cap q a bs _ (zA HS).rd hl).mono ?_)
  rintro e w3 ⟨⟨k,rfl,hk,HK⟩,H3,HP3⟩
  have kU:=zB ((zA HS).read (zA HP3) (zA H3))
  clear HS H3 HP3
  obtain ⟨L,hL⟩:∃ L,L=w3.heap.size:=⟨_,rfl⟩
  obtain ⟨W4,hD⟩:∃ W4,W4=((w3.alloc (.cells #[] 9)).alloc (.cells #[] 57)).alloc (.cells #[.slice (some ⟨w3.heap.size+1,0,none⟩) 0 0] 33):=⟨_,rfl⟩
  have Kf:Below w3.heap.size w3 W4:=by rw [hD]; exact ((zC _ _).alloc (by simp) _).alloc (by simp; omega) _
  have HV:=zB (show RnS w W4 rp cap a bs w2.heap.size ga ca xa g c ms (adv bs q) L (L+2) (.slice (some ⟨L+1,0,none⟩) 0 0) from by
   have h3:=zA kU
   refine ⟨h3.below Kf,?_,?_,?_,?_,by omega,?_,?_⟩
   ·rw [hL]; exact (h3.row.lt g rfl).2
   ·rw [hL]; exact block_lt_of_cell h3.al
   ·rw [hL]; exact h3.tb.1
   ·rw [hL]; exact h3.kp.size
   ·rw [hD,hL]; simp [go_sem]
   ·rw [hD,hL]; simp [go_sem])
  have Kb:=zB (show zZ W4 L (.slice (some ⟨L,0,none⟩) 0 0) [] from by
   have h0:=zZ.nil (w:=w3) (B:=L) (by omega)
   have hb:Below (w3.alloc (.cells #[] 9)).heap.size (w3.alloc (.cells #[] 9)) W4:=by rw [hD]; exact (zC _ _).alloc (by simp) _
   rw [hL] at h0 ⊢
   exact h0.below hb)
  have kG:W4.heap.size=L+3:=by rw [hD,hL]; simp
  have KO:=zB hD
  have HL:=zB hL
  clear hD Kf hL kU
  go_wp2_with fail
  rw [<- zA KO,<- zA HL]
  obtain ⟨Sb,Hq⟩:∃ Sb,Sb=L+1+1:=⟨_,rfl⟩
  obtain ⟨S0,Hn⟩:∃ S0,S0=L+1:=⟨_,rfl⟩
  have eSb:L+2=Sb:=Hq.symm
  rw [eSb,<- Hn] at HV
  rw [<- Hq,<- Hn]
  have HT:=zB (yH kG (yH Hq Hn))
  have KT:ms.length<=3:=by omega
  clear Hq Hn eSb kG
  go_loopw [8,10] (fun uv jv wr=>∃ (j gu cu:Nat) (us:List JZ),j<=ms.length/\us.length<=j/\jv = .int .i64 (j:Int)/\uv = .slice (some ⟨gu,0,none⟩) us.length cu/\Hid (us=zDc k ms j)/\Hid (zZ wr L (.slice (some ⟨gu,0,none⟩) us.length cu) us)/\Hid (RnS w wr rp cap a bs w2.heap.size ga ca xa g c ms (adv bs q) L Sb (.slice (some ⟨S0,0,none⟩) 0 0))/\gu≠Sb) (fun _ jv _=>ms.length-(intOf jv).toNat)
  case atStart=>
   have h:=zA HT
   exact ⟨0,L,0,[],yj _,yj _,rfl,rfl,zB rfl,Kb,HV,by omega⟩
  case round=>
   clear Kb HV
   obtain ⟨j,gu,cu,us,hj,qh,rfl,rfl,Ho,f,K,kO⟩:=hrel
   obtain ⟨wo,Kk⟩:∃ wo,wo=wr:=⟨_,rfl⟩
   subst Kk
   by_cases Hm:j<ms.length
   ·have kW:(j:Int)<(ms.length:Int):=by omega
    obtain ⟨c0,c1⟩:=(zA K).pr.row.ops j Hm
    simp only [yV] at c0 c1
    have hC:((k:Int)/2 ^ j).tmod 2=((k/2 ^ j%2:Nat):Int):=by
     have e:((k:Int)/2 ^ j)=((k/2 ^ j:Nat):Int):=by simp
     rw [e]
     generalize k/2 ^ j=x
     rw [yu (by omega)]
     omega
    obtain ⟨nm,h7⟩:∃ nm,nm=(atM ms j).n:=⟨_,rfl⟩
    rw [<- h7] at c0
    by_cases hQ:k/2 ^ j%2=1
    ·have eb:(((k:Int)/2 ^ j).tmod 2==1)=true:=by rw [hC,hQ]; rfl
     have h5:=zB (show us++[nm]=zDc k ms (j+1) by simp only [zDc]; rw [yO hQ,<- zA Ho,h7])
     clear hC hQ h7
     go_wp2_with (at_builtin; refine yJ _ rfl (.tmp 48) (.tmp 54) 39 rfl L 9 i0 _ 1 16 Tryz.underlying39 (zA HI) (zA HZ).1 (zA HZ).2.1 (zA HZ).2.2 rfl (by decide) _ us.length (zI us) rfl ((zA f).below (zC _ _)) ⟨wo.heap.size,0,none⟩ 1 1 (zI [nm]) rfl rfl (ZG wo nm) (zT _) ?b1 ?b2 ?b3 ?next)
     case b1=>unfold maxLen; omega
     case b2=>omega
     case b3=>have:=(zA K).lS; have:Sb<wo.heap.size:=block_lt_of_cell (zA K).sc; simp; omega
     case next=>
      intro v6 w6 G d hq P
      have hy:=(zA f).lt gu rfl
      have Ki:Sb<wo.heap.size:=block_lt_of_cell (zA K).sc
      have U:zZ w6 L v6 (us++[nm]):=zZ.join G rfl
      obtain ⟨g6,c6,rfl⟩:=U.has (by simp)
      obtain ⟨hV,hK⟩:∃ hV,hV=us++[nm]:=⟨_,rfl⟩
      rw [<- hK] at U h5
      have T:hV.length=us.length+1:=by rw [hK]; simp
      have N:=zB (((zA K).below (zC _ (.cells #[.string nm] 9))).grow d hy.1 kO)
      have Hw:g6≠Sb:=by
       rcases P with e | e
       ·have:g6=gu:=by simpa [Value.ownBlock] using e
        omega
       ·have:g6=wo.heap.size+1:=by simpa [Value.ownBlock] using e
        omega
      have hn:=zB U
      rw [<- hK]
      have Hk:hV.length<=j+1:=by omega
      clear G d hq P U hK T K f
      go_wp2_with fail
      exact ⟨⟨j+1,g6,c6,hV,by omega,Hk,by go_num,rfl,h5,hn,N,Hw⟩,by simp [intOf]; omega⟩
    ·have eb:(((k:Int)/2 ^ j).tmod 2==1)=false:=by rw [hC]; generalize k/2 ^ j%2=x at hQ ⊢; simp; omega
     have h5:=zB (show us=zDc k ms (j+1) by simp only [zDc]; rw [yN hQ,<- zA Ho])
     clear hC hQ h7
     go_wp2_with fail
     exact ⟨⟨j+1,gu,cu,us,by omega,by omega,by go_num,rfl,h5,f,K,kO⟩,by simp [intOf]; omega⟩
   ·obtain rfl:j=ms.length:=by omega
    clear Hm hj
    have Ki:Sb<wo.heap.size:=block_lt_of_cell (zA K).sc
    have HE:=zB (show Zw (wo.alloc (.cells #[] 57)) L (.slice (some ⟨wo.heap.size,0,none⟩) 0 0) [] from by
     have:=yD (base:=L) (e:=57) (size:=4) wo #[] 0 (by have:=(zA K).lS; omega) (yj _) rfl
     simpa [Zw,zU] using this)
    have Hd:=zB ((zA K).below (zC wo (.cells #[] 57)))
    have hW:=zB ((zA f).below (zC wo (.cells #[] 57)))
    have hy:=(zA f).lt gu rfl
    have hS:wo.heap.size≠Sb/\wo.heap.size≠gu:=by omega
    obtain ⟨W5,kj⟩:∃ W5,W5=wo.alloc (.cells #[] 57):=⟨_,rfl⟩
    rw [<- kj] at HE Hd hW
    have Kr:=zB kj
    clear kj K f
    go_wp2_with fail
    rw [<- zA Kr]
    have H9:wo.heap.size≠Sb:=hS.1
    have Hy:wo.heap.size≠gu:=hS.2
    clear hS
    go_loopw [11,12] (fun ov jv wr=>∃ (j go co:Nat) (own:List OpR),j<=xa.length/\own.length<=j/\jv = .int .i64 (j:Int)/\ov = .slice (some ⟨go,0,none⟩) own.length co/\Hid (own=zEN k n ms.length xa j)/\Hid (Zw wr L (.slice (some ⟨go,0,none⟩) own.length co) own)/\Hid (zZ wr L (.slice (some ⟨gu,0,none⟩) us.length cu) us)/\Hid (RnS w wr rp cap a bs w2.heap.size ga ca xa g c ms (adv bs q) L Sb (.slice (some ⟨S0,0,none⟩) 0 0))/\go≠Sb/\go≠gu) (fun _ jv _=>xa.length-(intOf jv).toNat)
    case atStart=>exact ⟨0,wo.heap.size,0,[],yj _,yj _,rfl,rfl,zB rfl,HE,hW,Hd,H9,Hy⟩
    case round=>
     clear HE hW Hd H9 Hy
     obtain ⟨j,go,co,own,hj,kM,rfl,rfl,hZ,ht,f,K,Hr,Ka⟩:=hrel
     obtain ⟨wp,KH⟩:∃ wp,wp=wr:=⟨_,rfl⟩
     subst KH
     have al0:=(zA K).pr.al
     have hy:=(zA ht).lt go rfl
     have hY:=(zA f).lt gu rfl
     have kz:Sb<wp.heap.size:=block_lt_of_cell (zA K).sc
     by_cases Hm:j<xa.length
     ·have kW:(j:Int)<(xa.length:Int):=by omega
      obtain ⟨r,hr⟩:∃ r,r=j%n:=⟨_,rfl⟩
      have ql:((n:Int)==0)=false:=by simp; omega
      have tm:(j:Int).tmod (n:Int)=(r:Int):=by rw [yu (by omega),hr]; simp
      have tm2:(j:Int)%(n:Int)=(r:Int):=by rw [hr]; simp
      by_cases Hp:r=ms.length\/(240<=k/\r=0)
      ·obtain ⟨b0,b1,b2,b3⟩:=(zA K).pr.tb.2 j Hm
       simp only [yV] at b0 b1 b2 b3
       obtain ⟨o,ho⟩:∃ o,o=atO xa j:=⟨_,rfl⟩
       rw [<- ho] at b0 b1 b2 b3
       have h5:=zB (show own++[o]=zEN k n ms.length xa (j+1) by simp only [zEN]; rw [yO (by rw [<- hr]; exact Hp),<- zA hZ,ho])
       clear hr ho
       have HO:((r:Int)==(ms.length:Int))=true\/(((r:Int)==(ms.length:Int))=false/\(240:Int)<=(k:Int)/\((r:Int)==0)=true):=by
        by_cases e:r=ms.length
        ·exact yQ (by simp [e])
        ·exact yR ⟨by simp; omega,by omega,by simp; omega⟩
       clear Hp
       rcases HO with e1 | ⟨e1,e2,e3⟩
       all_goals
        go_wp2_with (at_builtin; refine yJ _ rfl (.tmp 79) (.tmp 85) 31 rfl L 57 i1 _ 4 40 Tryz.underlying31 (zA HJ) (zA HY).1 (zA HY).2.1 (zA HY).2.2 rfl (by decide) _ own.length (zU own) rfl ((zA ht).below (zC _ _)) ⟨wp.heap.size,0,none⟩ 1 1 (zU [o]) rfl rfl (zAH wp o) (ZA _) ?b1 ?b2 ?b3 ?next)
        case b1=>unfold maxLen; omega
        case b2=>omega
        case b3=>have:=(zA K).lS; simp; omega
        case next=>
         intro v6 w6 G d hq P
         have U:Zw w6 L v6 (own++[o]):=by
          unfold Zw
          rw [ZT,ym]
          exact G
         obtain ⟨g6,c6,rfl⟩:∃ g6 c6,v6 = .slice (some ⟨g6,0,none⟩) (own++[o]).length c6:=by
          obtain ⟨_,⟨_,h0⟩ | ⟨g',Hh,KL,hv,_⟩⟩:=U
          ·simp at h0
          ·exact ⟨g',Hh,hv⟩
         obtain ⟨own6,hN⟩:∃ own6,own6=own++[o]:=⟨_,rfl⟩
         rw [<- hN] at U h5
         have T:own6.length=own.length+1:=by rw [hN]; simp
         have hE:=zC wp (.cells #[.string o.s,.int .i64 o.k,.int .i64 o.l,.int .i64 o.sd] 57)
         have N:=zB (((zA K).below hE).grow d hy.1 Hr)
         have hs:=zB (((zA f).below hE).grown d (fun x hx e=>by simp [Value.ownBlock] at hx; have e':some go=some x:=e; injection e' with e'; omega))
         have Hw:g6≠Sb/\g6≠gu:=by
          rcases P with e | e
          ·have:g6=go:=by simpa [Value.ownBlock] using e
           omega
          ·have:g6=wp.heap.size+1:=by simpa [Value.ownBlock] using e
           omega
         have hn:=zB U
         rw [<- hN]
         have Hk:own6.length<=j+1:=by omega
         clear G d hq P U hN T K f ht hE
         go_wp2_with fail
         exact ⟨⟨j+1,g6,c6,own6,by omega,Hk,by go_num,rfl,h5,hn,hs,N,Hw.1,Hw.2⟩,by simp [intOf]; omega⟩
      ·have h5:=zB (show own=zEN k n ms.length xa (j+1) by simp only [zEN]; rw [yN (by rw [<- hr]; exact Hp),<- zA hZ])
       clear hr
       have e1:((r:Int)==(ms.length:Int))=false:=by simp; omega
       have HO:¬ (240:Int)<=(k:Int)\/((240:Int)<=(k:Int)/\((r:Int)==0)=false):=by
        by_cases e:240<=k
        ·exact yR ⟨by omega,by simp; omega⟩
        ·exact yQ (by omega)
       clear Hp
       rcases HO with e2 | ⟨e2,e3⟩
       all_goals
        go_wp2_with fail
        exact ⟨⟨j+1,go,co,own,by omega,by omega,by go_num,rfl,h5,ht,f,K,Hr,Ka⟩,by simp [intOf]; omega⟩
     ·obtain rfl:j=xa.length:=by omega
      have kW:¬ (xa.length:Int)<(xa.length:Int):=by omega
      clear Hm hj
      go_upto_region 21 with fail
      go_cut [93] from 28 to 166 (fun sv wc=>sv = .bool (decide (0<ms.length/\k%32=31))/\wc=wp)
      case first=>
       as_aux_lemma=>
        by_cases h0:0<ms.length
        ·have e0:(0:Int)<(ms.length:Int):=by omega
         by_cases kv:k%32=31
         ·have e1:((k:Int)%32==31)=true:=by simp; omega
          go_wp2_with fail
          go_meet
          case rel=>exact ⟨by simp [h0,kv],rfl⟩
         ·have e1:((k:Int)%32==31)=false:=by simp; omega
          go_wp2_with fail
          go_meet
          case rel=>exact ⟨by simp [kv],rfl⟩
        ·have e0:¬ (0:Int)<(ms.length:Int):=by omega
         go_wp2_with fail
         go_meet
         case rel=>exact ⟨by simp [h0],rfl⟩
      case rest=>
       obtain ⟨rfl,KF⟩:=hcut
       have Kt:=KF.symm
       subst Kt
       have KU:rp<L:=by have:=(zA K).pr.rpl; have:=(zA K).lw; omega
       go_upto_if 93 with fail
       go_cut [11] from 28 to 166 (fun sv wc=>∃ (go co p1:Nat) (own:List OpR),sv = .slice (some ⟨go,0,none⟩) own.length co/\Hid (zF6 bs n ms.length xa q=(own,p1))/\Hid (Zw wc L (.slice (some ⟨go,0,none⟩) own.length co) own)/\Hid (zZ wc L (.slice (some ⟨gu,0,none⟩) us.length cu) us)/\Hid (RnS w wc rp cap a bs w2.heap.size ga ca xa g c ms p1 L Sb (.slice (some ⟨S0,0,none⟩) 0 0)))
       case first=>
        as_aux_lemma=>
         by_cases hd:0<ms.length/\k%32=31
         ·have ed:decide (0<ms.length/\k%32=31)=true:=decide_eq_true hd
          have k7:=zB (zEg rp cap (adv bs q) true a bs wp (zA K).pr.rd hl)
          rw [ed]
          clear ed
          go_wp2_with fail
          (with_reducible refine (zA k7).mono ?_)
          rintro e w6 ⟨⟨o,rfl,HOo⟩,H6,hF⟩
          have N:=zB ((zA K).read (zA hF) (zA H6))
          have hs:=zB ((zA f).grown (zr (zA hF)) (fun x hx e=>by simp [Value.ownBlock] at hx; injection e with e; omega))
          have h9:=zB ((zA ht).grown (zr (zA hF)) (fun x hx e=>by simp [Value.ownBlock] at hx; injection e with e; omega))
          have Ky:=(zA hF).size
          have h8:=zB (show zF6 bs n ms.length xa q=(own++[o],adv bs (adv bs (adv bs q))) by
           unfold zF6
           rw [<- zA HK,yO hd,<- zA hZ,<- zA HOo])
          clear hd H6 hF k7
          go_wp2_with (at_builtin; refine yJ _ rfl (.tmp 94) (.tmp 97) 31 rfl L 57 i1 _ 4 40 Tryz.underlying31 (zA HJ) (zA HY).1 (zA HY).2.1 (zA HY).2.2 rfl (by decide) _ own.length (zU own) rfl ((zA h9).below (zC _ _)) ⟨w6.heap.size,0,none⟩ 1 1 (zU [o]) rfl rfl (zAH w6 o) (ZA _) ?b1 ?b2 ?b3 ?next)
          case b1=>unfold maxLen; omega
          case b2=>omega
          case b3=>have:=(zA K).lS; simp; omega
          case next=>
           intro v7 w7 Hl h4 kd kT
           have kq:Zw w7 L v7 (own++[o]):=by
            unfold Zw
            rw [ZT,ym]
            exact Hl
           obtain ⟨g7,c7,rfl⟩:∃ g7 c7,v7 = .slice (some ⟨g7,0,none⟩) (own++[o]).length c7:=by
            obtain ⟨_,⟨_,h0⟩ | ⟨g',Hh,KL,hv,_⟩⟩:=kq
            ·simp at h0
            ·exact ⟨g',Hh,hv⟩
           have hE:=zC w6 (.cells #[.string o.s,.int .i64 o.k,.int .i64 o.l,.int .i64 o.sd] 57)
           have hp:=zB (((zA N).below hE).grow h4 hy.1 Hr)
           have k5:=zB (((zA hs).below hE).grown h4 (fun x hx e=>by simp [Value.ownBlock] at hx; have e':some go=some x:=e; injection e' with e'; omega))
           have KM:=zB kq
           clear Hl h4 kd kT kq N hs h9 hE
           go_wp2_with fail
           go_meet
           case rel=>exact ⟨g7,c7,_,own++[o],rfl,h8,KM,k5,hp⟩
         ·have ed:decide (0<ms.length/\k%32=31)=false:=decide_eq_false hd
          have h8:=zB (show zF6 bs n ms.length xa q=(own,adv bs q) by
           unfold zF6
           rw [<- zA HK,yN hd,<- zA hZ])
          rw [ed]
          clear ed hd
          go_wp2_with fail
          go_meet
          case rel=>exact ⟨go,co,_,own,rfl,h8,ht,f,K⟩
       case rest=>
        clear K f ht hZ hy hY kz Hr Ka al0 kM
        obtain ⟨go,co,p1,own,rfl,h8,ht,f,K⟩:=hcut
        have hy:=(zA ht).lt go rfl
        have hY:=(zA f).lt gu rfl
        obtain ⟨wq,Ko⟩:∃ wq,wq=wc:=⟨_,rfl⟩
        subst Ko
        have kA:=zQA (bs:=bs) (n:=n) (i:=ms.length) (p:=q) (zA Ks) K1
        rw [zA h8] at kA
        obtain ⟨kM,Kc⟩:=kA
        have kD:=zB Kc
        obtain ⟨kF,kt⟩:=zKU (k:=k) (z:=3) (fun i=>((zA Hi) i).1) ms.length
        rw [<- zA Ho] at kt
        have K5:=zB kt
        have HQ:=zB (zHO ms.length wq (by omega))
        obtain ⟨nm,h7⟩:∃ nm,nm=zDE ms.length:=⟨_,rfl⟩
        rw [<- h7] at HQ
        have kn:=zB h7
        have ku:nm.size<=3:=by rw [h7]; exact zGT _
        clear Kc kt h7 kF
        go_wp2_with fail
        (with_reducible refine (zA HQ).mono ?_)
        rintro e w6 ⟨rfl,Q⟩
        have hh:=zB Q
        have N:=zB ((zA K).below Q)
        have hs:=zB ((zA f).below Q)
        have h9:=zB ((zA ht).below Q)
        have Ky:=Q.size
        have Hz:Ops w6 go 0 own:=(zBe (zA h9)).2.ops
        have Hg:=zB (zHP rp cap p1 gu cu go co a bs us own w6 (zA N).pr.rd.free hl (by omega) (by omega) (zLd (fun x hx=>yr ((zA K5) x hx) (by decide))) (zRS (fun o ho=>((zA kD) o ho).2)) (fun i hi=>((zA kD) _ (zRX hi)).1) (by omega) (by omega) (by omega) (by omega) (fun i hi=>(zA hs).atE i hi) Hz)
        clear Q Hz HQ
        go_wp2_with fail
        (with_reducible refine (zA Hg).mono ?_)
        rintro e w7 ⟨⟨hd,rfl,hdz,HHD⟩,H7,HP7⟩
        have hp:=zB ((zA N).read (zA HP7) ((zA H7).strict (zE8 (zA N).pr.rd.le)))
        have qd:=(zA HP7).size
        have D:=zB (MdB.new w7 nm hd)
        have he:=zB ((zA hp).below (zC w7 (.cells #[.string nm,.string hd] 29)))
        obtain ⟨W8,Hs⟩:∃ W8,W8=w7.alloc (.cells #[.string nm,.string hd] 29):=⟨_,rfl⟩
        rw [<- Hs] at D he
        have kL:W8.heap.size=w7.heap.size+1:=by rw [Hs]; simp
        have Kw:=zB Hs
        obtain ⟨M,hM⟩:∃ M,M=w7.heap.size:=⟨_,rfl⟩
        rw [<- hM] at D kL
        have HD:L<=M:=by have:=(zA hp).lS; have:Sb<w7.heap.size:=block_lt_of_cell (zA hp).sc; omega
        have Hx:Sb≠M:=by have:Sb<w7.heap.size:=block_lt_of_cell (zA hp).sc; omega
        have Km:=zB hM
        have KQ:M<W8.heap.size:=by omega
        clear kL
        clear Hg H7 HP7 N hs h9 K f ht hh hp Hs hM hy hY
        go_upto_region 24 with fail
        rw [<- zA Kw,<- zA Km]
        go_cut [14,15] from 28 to 166 (fun tv cv wc=>∃ (tabs:List (List OpR)) (cd He:Int),cv = .int .i64 cd/\Hid (zz (ms++[⟨nm,hd⟩]) tabs cd He)/\Hid (zEy wc W8.heap.size tv tabs)/\Hid (Below W8.heap.size W8 wc))
        case first=>
         as_aux_lemma=>
          have ki:hd.size<=2000000000000:=by omega
          have J:M<W8.heap.size:=(zA D).lt
          have hm:=((zA he).pr.row.lt g rfl).2
          have hH:([]:List zF).length+ms.length<=1000:=by simp; omega
          have T:ms.length+[(⟨nm,hd⟩:zF)].length<=1000:=by simp; omega
          have ko:=zB (show ZH (W8.alloc (.cells #[] 29)).drew W8.heap.size (.slice (some ⟨W8.heap.size,0,none⟩) ([]:List zF).length 0) [] from (ZH.nil (w:=W8) (yh _)).below (yG _ _).drew)
          have HP:=zB (show ZH ((W8.alloc (.cells #[] 29)).alloc (.cells #[.string nm,.string hd] 29)).drew W8.heap.size (.slice (some ⟨W8.heap.size,0,none⟩) ([]:List zF).length 0) [] from (ZH.nil (w:=W8) (yh _)).below (zC _ _).drew)
          have kg:=zB (show ZH ((W8.alloc (.cells #[.string nm,.string hd] 29)).alloc (.cells #[] 29)).drew W8.heap.size (.slice (some ⟨W8.heap.size+1,0,none⟩) ([]:List zF).length 0) [] from by
           have:=ZH.nil (w:=W8.alloc (.cells #[.string nm,.string hd] 29)) (B:=W8.heap.size) (by simp)
           simpa using this.below (yG _ _).drew)
          have ka:=zB ((zA he).pr.row.ops.below (zC W8 (.cells #[] 29)).drew hm)
          have kc:=zB ((zA he).pr.row.ops.below ((zC W8 (.cells #[] 29)).alloc (by simp) (.cells #[.string nm,.string hd] 29)).drew hm)
          have HR:=zB ((zA he).pr.row.ops.below ((zC W8 (.cells #[.string nm,.string hd] 29)).alloc (by simp) (.cells #[] 29)).drew hm)
          have kb:=zB (show ∀ j u,(zY [(⟨nm,hd⟩:zF)])[j]?=some u->((W8.alloc (.cells #[] 29)).alloc (.cells #[.string nm,.string hd] 29)).drew.cell? ((⟨W8.heap.size+1,0,none⟩:Addr).add j)=some u from fun j u hj=>by
           have:=Z6 (W8.alloc (.cells #[] 29)) ⟨nm,hd⟩ j u hj
           simpa using this)
          have kk:=zB (show ∀ j u,(zY [(⟨nm,hd⟩:zF)])[j]?=some u->((W8.alloc (.cells #[.string nm,.string hd] 29)).alloc (.cells #[] 29)).drew.cell? ((⟨W8.heap.size,0,none⟩:Addr).add j)=some u from fun j u hj=>by
           have h1:=Z6 W8 ⟨nm,hd⟩ j u hj
           rw [Addr.add_mid] at h1 ⊢
           exact ((zC (W8.alloc (.cells #[.string nm,.string hd] 29)) (.cells #[] 29)).drew.cell (p:=⟨W8.heap.size,0+j,none⟩) (by simp)).trans h1)
          have Hf:=zB (((zA Hi).snoc (m:=⟨nm,hd⟩) ku ki).sized (by decide) (by decide))
          obtain ⟨c00,c01,_⟩:=zA D
          go_region_held3 (fun W=>W.cell? ⟨M,0,none⟩=some (.string nm)/\W.cell? ⟨M,1,none⟩=some (.string hd)) (first | (go_keep; done) | exact ⟨m0,m1⟩ | exact ⟨((zC _ _).cell (p:=⟨M,0,none⟩) (by show M<w5.heap.size; omega)).trans m0,((zC _ _).cell (p:=⟨M,1,none⟩) (by show M<w5.heap.size; omega)).trans m1⟩)
           (first
            | (refine Zr (by rfl) (.tmp 107) (.tmp 108) (by rfl) (zA ko) ⟨g,0,none⟩ c (zBT (zA ka)) hH (by simp) (by rfl) (by rfl) ?_; intro g5 c5 w5 hw A O Y F R; have e5:ms=hw:=A.symm; subst e5; have y:Below W8.heap.size W8 w5:=(zC W8 (.cells #[] 29)).drew.grown Y (by simp <;> omega) (fun x hx=>by injection hx with hx; omega); have E:=zB y; have I:=zB O; have z5:=y.size; have m0:=(y.cell (p:=⟨M,0,none⟩) J).trans (zA D).c0; have m1:=(y.cell (p:=⟨M,1,none⟩) J).trans (zA D).c1; clear y O Y F R A)
            | (refine Zr (by rfl) (.tmp 107) (.tmp 108) (by rfl) (zA HP) ⟨g,0,none⟩ c (zBT (zA kc)) hH (by simp; omega) (by rfl) (by rfl) ?_; intro g5 c5 w5 hw A O Y F R; have e5:ms=hw:=A.symm; subst e5; have y:Below W8.heap.size W8 w5:=((zC W8 (.cells #[] 29)).alloc (by simp) (.cells #[.string nm,.string hd] 29)).drew.grown Y (by simp <;> omega) (fun x hx=>by injection hx with hx; omega); have E:=zB y; have I:=zB O; have z5:=y.size; have m0:=(y.cell (p:=⟨M,0,none⟩) J).trans (zA D).c0; have m1:=(y.cell (p:=⟨M,1,none⟩) J).trans (zA D).c1; have HU:=zB (show ∀ j u,(zY [(⟨nm,hd⟩:zF)])[j]?=some u->w5.cell? ((⟨W8.heap.size+1,0,none⟩:Addr).add j)=some u from fun j u hj=>(by have h:=(zA kb) j u hj; rw [Addr.add_mid] at h ⊢; exact (zE Y (b:=W8.heap.size+1) (by simp) (fun x=>by injection x with x; omega) (0+j)).trans h)); clear y O Y F R A)
            | (refine Zr (by rfl) (.tmp 107) (.tmp 108) (by rfl) (zA kg) ⟨g,0,none⟩ c (zBT (zA HR)) hH (by simp; omega) (by rfl) (by rfl) ?_; intro g5 c5 w5 hw A O Y F R; have e5:ms=hw:=A.symm; subst e5; have y:Below W8.heap.size W8 w5:=((zC W8 (.cells #[.string nm,.string hd] 29)).alloc (by simp) (.cells #[] 29)).drew.grown Y (by simp <;> omega) (fun x hx=>by injection hx with hx; omega); have E:=zB y; have I:=zB O; have z5:=y.size; have m0:=(y.cell (p:=⟨M,0,none⟩) J).trans (zA D).c0; have m1:=(y.cell (p:=⟨M,1,none⟩) J).trans (zA D).c1; have kh:=zB (show ∀ j u,(zY [(⟨nm,hd⟩:zF)])[j]?=some u->w5.cell? ((⟨W8.heap.size,0,none⟩:Addr).add j)=some u from fun j u hj=>(by have h:=(zA kk) j u hj; rw [Addr.add_mid] at h ⊢; exact (zE Y (b:=W8.heap.size) (by simp <;> omega) (fun x=>by injection x with x; omega) (0+j)).trans h)); clear y O Y F R A)
            | (refine Zr (vs:=[⟨nm,hd⟩]) (by rfl) (.tmp 109) (.tmp 111) (by rfl) ((zA I).below (zC _ _)) ⟨w5.heap.size,0,none⟩ 1 (Z6 w5 ⟨nm,hd⟩) T (by simp; omega) (by rfl) (by rfl) ?_; intro g6 c6 w6 ha X U C P S; have Q:Below W8.heap.size W8 w6:=((zA E).alloc (zA E).size _).grown C (by have:=(zA E).size; first | omega | (simp; omega)) (fun x hx=>by injection hx with hx; have:=((zA I).lt g5 rfl).1; omega); have hh:=zB Q; have hn:=zB U; have hA:ha.length<=10:=(by rw [X]; simp; omega); have h6:=zB X; have m0:=(Q.cell (p:=⟨M,0,none⟩) J).trans (zA D).c0; have m1:=(Q.cell (p:=⟨M,1,none⟩) J).trans (zA D).c1; clear Q U C P S X)
            | (refine Zr (vs:=[⟨nm,hd⟩]) (by rfl) (.tmp 109) (.tmp 111) (by rfl) (zA I) ⟨W8.heap.size+1,0,none⟩ 1 (zA HU) T (by omega) (by rfl) (by rfl) ?_; intro g6 c6 w6 ha X U C P S; have Q:Below W8.heap.size W8 w6:=(zA E).grown C (by have:=(zA E).size; first | omega | (simp; omega)) (fun x hx=>by injection hx with hx; have:=((zA I).lt g5 rfl).1; omega); have hh:=zB Q; have hn:=zB U; have hA:ha.length<=10:=(by rw [X]; simp; omega); have h6:=zB X; have m0:=(Q.cell (p:=⟨M,0,none⟩) J).trans (zA D).c0; have m1:=(Q.cell (p:=⟨M,1,none⟩) J).trans (zA D).c1; clear Q U C P S X)
            | (refine Zr (vs:=[⟨nm,hd⟩]) (by rfl) (.tmp 109) (.tmp 111) (by rfl) (zA I) ⟨W8.heap.size,0,none⟩ 1 (zA kh) T (by omega) (by rfl) (by rfl) ?_; intro g6 c6 w6 ha X U C P S; have Q:Below W8.heap.size W8 w6:=(zA E).grown C (by have:=(zA E).size; first | omega | (simp; omega)) (fun x hx=>by injection hx with hx; have:=((zA I).lt g5 rfl).1; omega); have hh:=zB Q; have hn:=zB U; have hA:ha.length<=10:=(by rw [X]; simp; omega); have h6:=zB X; have m0:=(Q.cell (p:=⟨M,0,none⟩) J).trans (zA D).c0; have m1:=(Q.cell (p:=⟨M,1,none⟩) J).trans (zA D).c1; clear Q U C P S X)
            | (go_at_call 5; have Hb:=zBw (some ⟨g6,0,none⟩) c6 ha w6 (by omega) (zA hn).arg (by rw [zA h6]; exact zA Hf); (with_reducible refine Hb.mono ?_); clear Hb; rintro e w9 ⟨tv,tabs,cd,He,rfl,HL9,HT9,hm9,hb9⟩; have hf:=zB ((zA hh).trans (hb9.mono (zA hh).size)); have m0:=((zA hf).cell (p:=⟨M,0,none⟩) J).trans (zA D).c0; have m1:=((zA hf).cell (p:=⟨M,1,none⟩) J).trans (zA D).c1; clear hb9))
          all_goals
           go_wp2_with fail
           go_meet
           case rel=>exact ⟨tabs,cd,He,rfl,by rw [<- zA h6]; exact HL9,zB ((zA HT9).low (zA hh).size),hf⟩
        case rest=>
         obtain ⟨tabs,cd,He,rfl,HW,Kg,hf⟩:=hcut
         have qe:=(zA hf).size
         have hz:=zB ((zA he).below (zA hf))
         have kr:=zB ((zA D).below (zA hf))
         clear D
         go_upto_if 118 with fail
         go_cut [9] from 28 to 166 (fun pv wd=>∃ (gs cs:Nat) (ns:List OpR),pv = .pointer (some ⟨Sb,0,none⟩)/\Hid (ns=if cd=0 then zBQ tabs ms.length else [])/\Hid (zEQ wd gs ns)/\Hid (L<=gs)/\Hid (ns.length<=500/\zB1 ns ns.length)/\Hid (MdB wd M nm hd)/\Hid (RnS w wd rp cap a bs w2.heap.size ga ca xa g c ms (adv bs p1) L Sb (.slice (some ⟨gs,0,none⟩) ns.length cs)))
         case first=>
          as_aux_lemma=>
           by_cases hc:cd=0
           ·subst hc
            obtain ⟨Kz,Kl,Kh⟩:=(zA HW).good
            obtain ⟨gT,cT,hu,KK⟩:=zA Kg
            have kI:ms.length<tabs.length:=by rw [Kh]; simp
            rcases KK with h0 | ⟨KX,qb,kH⟩
            ·omega
            obtain ⟨t,K3,⟨gq,cq,rfl,KG,hC⟩,kx⟩:=kH ms.length kI
            subst hu
            have KY:W8.heap.size<=gq:=kx gq rfl
            have KZ:(ms.length:Int)<(tabs.length:Int):=by omega
            have HH:=zKS ((zA HW).valid ms.length (by simp))
            obtain ⟨ns,HG⟩:∃ ns,ns=zBQ tabs ms.length:=⟨_,rfl⟩
            rw [<- HG] at K3 hC HH
            have sc9:=(zA hz).sc
            have sf9:=(zA hz).sf
            have qm:Sb<W8.heap.size:=block_lt_of_cell (zA he).sc
            have Hj:=zB (show ns=if (0:Int)=0 then zBQ tabs ms.length else [] by rw [yO rfl]; exact HG)
            have hU:=zB (show zEQ (wc.setCell ⟨Sb,0,none⟩ (.slice (some ⟨gq,0,none⟩) ns.length cq)) gq ns from ⟨by simpa [World.setCell] using KG,fun i hi=>by
             obtain ⟨a0,a1,a2,a3⟩:=hC i hi
             have e:∀ o,(wc.setCell ⟨Sb,0,none⟩ (.slice (some ⟨gq,0,none⟩) ns.length cq)).cell? ⟨gq,o,none⟩=wc.cell? ⟨gq,o,none⟩:=fun o=>yg _ _ _ _ (fun e=>by injection e with e; omega)
             exact ⟨(e _).trans a0,(e _).trans a1,(e _).trans a2,(e _).trans a3⟩⟩)
            have K4:=zB ((zA hz).put (.slice (some ⟨gq,0,none⟩) ns.length cq))
            have KB:=zB ((zA kr).other (b:=Sb) (o:=0) (v:=.slice (some ⟨gq,0,none⟩) ns.length cq) Hx)
            have Ku:L<=gq:=by omega
            have Hu:=zB HH
            clear kH hC kx HG HH kI Kz Kl Kh
            go_wp2_with fail
            go_meet
            case rel=>exact ⟨gq,cq,ns,rfl,Hj,hU,zB Ku,Hu,KB,K4⟩
           ·have Hv:(cd==0)=false:=by simpa using hc
            have Hj:=zB (show ([]:List OpR)=if cd=0 then zBQ tabs ms.length else [] by rw [yN hc])
            have qj:Sb<wc.heap.size:=block_lt_of_cell (zA hz).sc
            have hU:=zB (show zEQ wc S0 [] from ⟨by have:=(zA HT).2; omega,fun i hi=>yP hi (yt _)⟩)
            clear hc
            go_wp2_with fail
            go_meet
            case rel=>exact ⟨S0,0,[],rfl,Hj,hU,zB (by have:=(zA HT).2; omega),zB ⟨by simp,fun j hj=>yP hj (yt _)⟩,kr,hz⟩
         case rest=>
          clear hz kr Kg he hf
          obtain ⟨gs,cs,ns,rfl,Hj,hP,KJ,Hu,hg,K⟩:=hcut
          obtain ⟨Wd,KD⟩:∃ Wd,Wd=wc:=⟨_,rfl⟩
          subst KD
          obtain ⟨Hc,H0⟩:=zKV (zA Hu).2
          have Kn:gs≠rp:=by have:=zA KJ; omega
          have kC:=zB (zF7 rp cap (adv bs p1) gs cs a bs ns Wd.drew ((zA K).pr.rd.below (yG _ _).drew) hl (zA Hu).1 ((zA hP).below (yG _ _).drew (zA hP).1) Kn Hc H0)
          obtain ⟨rc0,rc1,rfz,_,_⟩:=(zA K).pr.rd
          obtain ⟨mc0,mc1,mf1⟩:=zA hg
          have sc:=(zA K).sc
          have J:=(zA hg).lt
          have HB:M≠rp:=by omega
          have KR:Sb<Wd.heap.size:=block_lt_of_cell sc
          have qf:Sb≠rp:=by have:=(zA K).lS; omega
          clear Hc H0
          go_upto_region 28 with fail
          go_cut [13] from 28 to 166 (fun pv we=>∃ (ws:List JZ) (q1:Nat),pv = .pointer (some ⟨M,0,none⟩)/\ws.length<=4000/\Hid (zMu bs ns (adv bs p1) ws q1)/\Hid (∀ s∈ws,s.size<=16)/\Hid (MdB we M nm (hd++zKN bs ws q1))/\Hid (RnS w we rp cap a bs w2.heap.size ga ca xa g c ms (zP2 bs ws q1) L Sb (.slice (some ⟨gs,0,none⟩) ns.length cs)))
          case first=>
           as_aux_lemma=>
            go_region_with (first
             | (go_at_call 48; (with_reducible refine (zA kC).mono ?_); rintro e w10 ⟨gw,cw,q1,ws,rfl,HRW,hw1,hw2,hX,km,H10,HP10⟩; have kJ:=(zA HRW).lt gw rfl; have md10:=((zA hg).below (yG _ _).drew).kept (zA HP10) HB; have hR:=zB (((zA K).below (yG _ _).drew).read (zA HP10) (zA H10)); have kf:=zB md10; obtain ⟨mc0,mc1,mf1⟩:=md10; have KP:Wd.heap.size<=w10.heap.size:=(zA HP10).size; have K9:=zB (zJN rp cap q1 gw cw a bs ws w10 (zA H10).free hl (by omega) (fun i=>yr (zLd (zA hX) i) (by decide)) kJ.2 (by have hx:Wd.heap.size<=gw:=kJ.1; omega) (fun i hi=>(zA HRW).atE i hi)); clear HP10 H10)
             | (go_at_call 47; (with_reducible refine (zA K9).mono ?_); rintro e w11 ⟨⟨sp,rfl,HSP⟩,H11,HP11⟩; have ky:sp.size<=72010:=(by rw [zA HSP]; exact zIa (zA hX) hw2); have md11:=(zA kf).kept (zA HP11) HB; have HA:=zB ((zA hR).read (zA HP11) ((zA H11).strict (by have:=(zA hR).pr.rd.le; exact zE8 (zMU bs ws q1 this ws.length)))); have ke:=zB md11; obtain ⟨mc0,mc1,mf1⟩:=md11; have K0:=zB (show sp=zKN bs ws q1 from zA HSP); clear HP11 H11))
            all_goals
             go_wp2_with fail
             go_meet
             case rel=>
              refine ⟨ws,q1,rfl,hw2,km,hX,zB ?_,zB ?_⟩
              ·rw [<- zA K0]; exact (zA ke).put _
              ·have h:=zA HA
               exact h.grow (zf w11 M 1 _) HD (Ne.symm Hx)
          case rest=>
           clear kC hg hP rc0 rc1 rfz mc0 mc1 mf1 sc J
           obtain ⟨ws,q1,rfl,Kj,km,hX,hg,hB⟩:=hcut
           have ky:=zIa (bs:=bs) (q:=q1) (zA hX) Kj
           have H8:(hd++zKN bs ws q1).size<=800000:=by rw [za]; omega
           obtain ⟨t0,k6⟩:∃ t0,Hid (t0=hd++zKN bs ws q1):=⟨_,zB rfl⟩
           rw [<- zA k6] at hg H8
           obtain ⟨We,KC⟩:∃ We,We=wc:=⟨_,rfl⟩
           subst KC
           obtain ⟨rc0,rc1,rfz,_,_⟩:=(zA hB).pr.rd
           obtain ⟨mc0,mc1,mf1⟩:=zA hg
           go_upto_if 137 with fail
           go_cut [13] from 28 to 166 (fun pv we=>∃ (tx:JZ) (q2:Nat),pv = .pointer (some ⟨M,0,none⟩)/\tx.size<=800000/\Hid ((cd=0/\tx=hd++zKN bs ws q1/\q2=zP2 bs ws q1)\/(cd≠0/\tx=⟨#[98,101,103,105,110,10,97]⟩/\q2=adv bs p1))/\Hid (MdB we M nm tx)/\Hid (RnS w we rp cap a bs w2.heap.size ga ca xa g c ms q2 L Sb (.slice (some ⟨gs,0,none⟩) ns.length cs)))
           case first=>
            as_aux_lemma=>
             by_cases hc:cd=0
             ·have Hv:(cd != 0)=false:=by simpa using hc
              have HC:=zB hc
              clear hc
              go_wp2_with fail
              go_meet
              case rel=>exact ⟨t0,zP2 bs ws q1,rfl,H8,zB (yQ ⟨zA HC,zA k6,rfl⟩),hg,hB⟩
             ·have Hv:(cd != 0)=true:=by simpa using hc
              have HC:=zB hc
              have kS:=(zA K).pr.rd.le
              have K6:=zB ((zA hB).read (zA4 We rp 1 (.int .i64 ((adv bs p1:Nat):Int))) (((zA hB).pr.rd.free.move (adv bs p1) _ rfl).strict kS))
              have KE:=zB ((zA hg).other (b:=rp) (o:=1) (v:=.int .i64 ((adv bs p1:Nat):Int)) (Ne.symm HB))
              clear hc kS
              go_wp2_with fail
              go_meet
              case rel=>exact ⟨_,adv bs p1,rfl,by decide,zB (yR ⟨zA HC,rfl,rfl⟩),zB ((zA KE).put _),zB ((zA K6).grow (zf _ M 1 _) HD (Ne.symm Hx))⟩
           case rest=>
            clear hg hB K rc0 rc1 rfz mc0 mc1 mf1
            obtain ⟨tx,q2,rfl,qk,KI,V,Z⟩:=hcut
            obtain ⟨W13,kE⟩:∃ W13,W13=wc:=⟨_,rfl⟩
            subst kE
            go_upto_region 32 with fail
            go_cut [19] from 28 to 166 (fun bv we=>∃ (out:List (List zD)) (bad who2:Int),bv = .int .i64 bad/\Hid (zBv (ms++[⟨nm,tx⟩]) out bad who2)/\Hid (Below W13.heap.size W13 we))
            case first=>
             as_aux_lemma=>
              have ki:tx.size<=2000000000000:=by omega
              have J:M<W13.heap.size:=(zA V).lt
              have hm:=((zA Z).pr.row.lt g rfl).2
              have hH:([]:List zF).length+ms.length<=1000:=by simp; omega
              have T:ms.length+[(⟨nm,tx⟩:zF)].length<=1000:=by simp; omega
              have ko:=zB (show ZH (W13.alloc (.cells #[] 29)).drew W13.heap.size (.slice (some ⟨W13.heap.size,0,none⟩) ([]:List zF).length 0) [] from (ZH.nil (w:=W13) (yh _)).below (yG _ _).drew)
              have HP:=zB (show ZH ((W13.alloc (.cells #[] 29)).alloc (.cells #[.string nm,.string tx] 29)).drew W13.heap.size (.slice (some ⟨W13.heap.size,0,none⟩) ([]:List zF).length 0) [] from (ZH.nil (w:=W13) (yh _)).below (zC _ _).drew)
              have kg:=zB (show ZH ((W13.alloc (.cells #[.string nm,.string tx] 29)).alloc (.cells #[] 29)).drew W13.heap.size (.slice (some ⟨W13.heap.size+1,0,none⟩) ([]:List zF).length 0) [] from by
               have:=ZH.nil (w:=W13.alloc (.cells #[.string nm,.string tx] 29)) (B:=W13.heap.size) (by simp)
               simpa using this.below (yG _ _).drew)
              have ka:=zB ((zA Z).pr.row.ops.below (zC W13 (.cells #[] 29)).drew hm)
              have kc:=zB ((zA Z).pr.row.ops.below ((zC W13 (.cells #[] 29)).alloc (by simp) (.cells #[.string nm,.string tx] 29)).drew hm)
              have HR:=zB ((zA Z).pr.row.ops.below ((zC W13 (.cells #[.string nm,.string tx] 29)).alloc (by simp) (.cells #[] 29)).drew hm)
              have kb:=zB (show ∀ j u,(zY [(⟨nm,tx⟩:zF)])[j]?=some u->((W13.alloc (.cells #[] 29)).alloc (.cells #[.string nm,.string tx] 29)).drew.cell? ((⟨W13.heap.size+1,0,none⟩:Addr).add j)=some u from fun j u hj=>by
               have:=Z6 (W13.alloc (.cells #[] 29)) ⟨nm,tx⟩ j u hj
               simpa using this)
              have kk:=zB (show ∀ j u,(zY [(⟨nm,tx⟩:zF)])[j]?=some u->((W13.alloc (.cells #[.string nm,.string tx] 29)).alloc (.cells #[] 29)).drew.cell? ((⟨W13.heap.size,0,none⟩:Addr).add j)=some u from fun j u hj=>by
               have h1:=Z6 W13 ⟨nm,tx⟩ j u hj
               rw [Addr.add_mid] at h1 ⊢
               exact ((zC (W13.alloc (.cells #[.string nm,.string tx] 29)) (.cells #[] 29)).drew.cell (p:=⟨W13.heap.size,0+j,none⟩) (by simp)).trans h1)
              have Hf:=zB (((zA Hi).snoc (m:=⟨nm,tx⟩) ku ki).sized (by decide) (by decide))
              obtain ⟨c00,c01,_⟩:=zA V
              go_region_held3 (fun W=>W.cell? ⟨M,0,none⟩=some (.string nm)/\W.cell? ⟨M,1,none⟩=some (.string tx)) (first | (go_keep; done) | exact ⟨m0,m1⟩ | exact ⟨((zC _ _).cell (p:=⟨M,0,none⟩) (by show M<w5.heap.size; omega)).trans m0,((zC _ _).cell (p:=⟨M,1,none⟩) (by show M<w5.heap.size; omega)).trans m1⟩)
               (first
                | (refine Zr (by rfl) (.tmp 144) (.tmp 145) (by rfl) (zA ko) ⟨g,0,none⟩ c (zBT (zA ka)) hH (by simp) (by rfl) (by rfl) ?_; intro g5 c5 w5 hw A O Y F R; have e5:ms=hw:=A.symm; subst e5; have y:Below W13.heap.size W13 w5:=(zC W13 (.cells #[] 29)).drew.grown Y (by simp <;> omega) (fun x hx=>by injection hx with hx; omega); have E:=zB y; have I:=zB O; have z5:=y.size; have m0:=(y.cell (p:=⟨M,0,none⟩) J).trans (zA V).c0; have m1:=(y.cell (p:=⟨M,1,none⟩) J).trans (zA V).c1; clear y O Y F R A)
                | (refine Zr (by rfl) (.tmp 144) (.tmp 145) (by rfl) (zA HP) ⟨g,0,none⟩ c (zBT (zA kc)) hH (by simp; omega) (by rfl) (by rfl) ?_; intro g5 c5 w5 hw A O Y F R; have e5:ms=hw:=A.symm; subst e5; have y:Below W13.heap.size W13 w5:=((zC W13 (.cells #[] 29)).alloc (by simp) (.cells #[.string nm,.string tx] 29)).drew.grown Y (by simp <;> omega) (fun x hx=>by injection hx with hx; omega); have E:=zB y; have I:=zB O; have z5:=y.size; have m0:=(y.cell (p:=⟨M,0,none⟩) J).trans (zA V).c0; have m1:=(y.cell (p:=⟨M,1,none⟩) J).trans (zA V).c1; have HU:=zB (show ∀ j u,(zY [(⟨nm,tx⟩:zF)])[j]?=some u->w5.cell? ((⟨W13.heap.size+1,0,none⟩:Addr).add j)=some u from fun j u hj=>(by have h:=(zA kb) j u hj; rw [Addr.add_mid] at h ⊢; exact (zE Y (b:=W13.heap.size+1) (by simp) (fun x=>by injection x with x; omega) (0+j)).trans h)); clear y O Y F R A)
                | (refine Zr (by rfl) (.tmp 144) (.tmp 145) (by rfl) (zA kg) ⟨g,0,none⟩ c (zBT (zA HR)) hH (by simp; omega) (by rfl) (by rfl) ?_; intro g5 c5 w5 hw A O Y F R; have e5:ms=hw:=A.symm; subst e5; have y:Below W13.heap.size W13 w5:=((zC W13 (.cells #[.string nm,.string tx] 29)).alloc (by simp) (.cells #[] 29)).drew.grown Y (by simp <;> omega) (fun x hx=>by injection hx with hx; omega); have E:=zB y; have I:=zB O; have z5:=y.size; have m0:=(y.cell (p:=⟨M,0,none⟩) J).trans (zA V).c0; have m1:=(y.cell (p:=⟨M,1,none⟩) J).trans (zA V).c1; have kh:=zB (show ∀ j u,(zY [(⟨nm,tx⟩:zF)])[j]?=some u->w5.cell? ((⟨W13.heap.size,0,none⟩:Addr).add j)=some u from fun j u hj=>(by have h:=(zA kk) j u hj; rw [Addr.add_mid] at h ⊢; exact (zE Y (b:=W13.heap.size) (by simp <;> omega) (fun x=>by injection x with x; omega) (0+j)).trans h)); clear y O Y F R A)
                | (refine Zr (vs:=[⟨nm,tx⟩]) (by rfl) (.tmp 146) (.tmp 148) (by rfl) ((zA I).below (zC _ _)) ⟨w5.heap.size,0,none⟩ 1 (Z6 w5 ⟨nm,tx⟩) T (by simp; omega) (by rfl) (by rfl) ?_; intro g6 c6 w6 ha X U C P S; have Q:Below W13.heap.size W13 w6:=((zA E).alloc (zA E).size _).grown C (by have:=(zA E).size; first | omega | (simp; omega)) (fun x hx=>by injection hx with hx; have:=((zA I).lt g5 rfl).1; omega); have hh:=zB Q; have hn:=zB U; have hA:ha.length<=10:=(by rw [X]; simp; omega); have h6:=zB X; have m0:=(Q.cell (p:=⟨M,0,none⟩) J).trans (zA V).c0; have m1:=(Q.cell (p:=⟨M,1,none⟩) J).trans (zA V).c1; clear Q U C P S X)
                | (refine Zr (vs:=[⟨nm,tx⟩]) (by rfl) (.tmp 146) (.tmp 148) (by rfl) (zA I) ⟨W13.heap.size+1,0,none⟩ 1 (zA HU) T (by omega) (by rfl) (by rfl) ?_; intro g6 c6 w6 ha X U C P S; have Q:Below W13.heap.size W13 w6:=(zA E).grown C (by have:=(zA E).size; first | omega | (simp; omega)) (fun x hx=>by injection hx with hx; have:=((zA I).lt g5 rfl).1; omega); have hh:=zB Q; have hn:=zB U; have hA:ha.length<=10:=(by rw [X]; simp; omega); have h6:=zB X; have m0:=(Q.cell (p:=⟨M,0,none⟩) J).trans (zA V).c0; have m1:=(Q.cell (p:=⟨M,1,none⟩) J).trans (zA V).c1; clear Q U C P S X)
                | (refine Zr (vs:=[⟨nm,tx⟩]) (by rfl) (.tmp 146) (.tmp 148) (by rfl) (zA I) ⟨W13.heap.size,0,none⟩ 1 (zA kh) T (by omega) (by rfl) (by rfl) ?_; intro g6 c6 w6 ha X U C P S; have Q:Below W13.heap.size W13 w6:=(zA E).grown C (by have:=(zA E).size; first | omega | (simp; omega)) (fun x hx=>by injection hx with hx; have:=((zA I).lt g5 rfl).1; omega); have hh:=zB Q; have hn:=zB U; have hA:ha.length<=10:=(by rw [X]; simp; omega); have h6:=zB X; have m0:=(Q.cell (p:=⟨M,0,none⟩) J).trans (zA V).c0; have m1:=(Q.cell (p:=⟨M,1,none⟩) J).trans (zA V).c1; clear Q U C P S X)
                | (go_at_call 49; have Hb:=zHs (some ⟨g6,0,none⟩) c6 ha w6 (by omega) (zA hn).arg (by rw [zA h6]; exact zA Hf); (with_reducible refine Hb.mono ?_); clear Hb; rintro e w9 ⟨tv,out,bad,who2,rfl,kl,HTR,hb9⟩; have hf:=zB ((zA hh).trans (hb9.mono (zA hh).size)); have m0:=((zA hf).cell (p:=⟨M,0,none⟩) J).trans (zA V).c0; have m1:=((zA hf).cell (p:=⟨M,1,none⟩) J).trans (zA V).c1; clear hb9))
              all_goals
               go_wp2_with fail
               go_meet
               case rel=>exact ⟨out,bad,who2,rfl,by rw [<- zA h6]; exact kl,hf⟩
            case rest=>
             obtain ⟨out,bad,who2,rfl,kl,Ha⟩:=hcut
             have hG:=zB ((zA Z).below (zA Ha))
             have hJ:=zB ((zA V).below (zA Ha))
             obtain ⟨Wf,K8⟩:∃ Wf,Wf=wc:=⟨_,rfl⟩
             subst K8
             obtain ⟨mc0,mc1,mf1⟩:=zA hJ
             go_upto_if 155 with fail
             go_cut [13] from 28 to 166 (fun pv we=>∃ (ty:JZ),pv = .pointer (some ⟨M,0,none⟩)/\ty.size<=2000000000000/\Hid ((bad=0/\ty=tx)\/(bad≠0/\∃ h,zIo tx OpR.zero OpR.zero h/\ty=h++⟨#[49]⟩))/\Hid (MdB we M nm ty)/\Hid (RnS w we rp cap a bs w2.heap.size ga ca xa g c ms q2 L Sb (.slice (some ⟨gs,0,none⟩) ns.length cs)))
             case first=>
              as_aux_lemma=>
               by_cases hc:bad=0
               ·have Hv:(bad != 0)=false:=by simpa using hc
                have HC:=zB hc
                clear hc
                go_wp2_with fail
                go_meet
                case rel=>exact ⟨tx,rfl,by omega,zB (yQ ⟨zA HC,rfl⟩),hJ,hG⟩
               ·have Hv:(bad != 0)=true:=by simpa using hc
                have Hg:=zB (show Calls Tryz.prog 50 #[.string tx,.agg #[.string ⟨#[]⟩,.int .i64 0,.int .i64 0,.int .i64 0],.agg #[.string ⟨#[]⟩,.int .i64 0,.int .i64 0,.int .i64 0]] Wf _ from zJD tx OpR.zero OpR.zero Wf (by omega) (fun ws h=>yP h zOc) (by decide))
                have Kx:=zB hc
                clear hc
                go_wp2_with fail
                (with_reducible refine (zA Hg).mono ?_)
                rintro e w15 ⟨⟨th,rfl,hthz,HTH⟩,hb15⟩
                have ks:=zB ((zA hG).below hb15)
                have md15:=(zA hJ).below hb15
                have kB:=zB md15
                obtain ⟨mc0,mc1,mf1⟩:=md15
                clear hb15 Hg
                go_wp2_with fail
                go_meet
                case rel=>exact ⟨_,rfl,by rw [za]; show th.size+1<=_; omega,zB (yR ⟨zA Kx,th,zA HTH,rfl⟩),zB ((zA kB).put _),zB ((zA ks).grow (zf _ M 1 _) HD (Ne.symm Hx))⟩
             case rest=>
              clear mc0 mc1 mf1 hJ hG Ha V Z
              obtain ⟨ty,rfl,kN,KN,hg,K⟩:=hcut
              obtain ⟨Wg,Kp⟩:∃ Wg,Wg=wc:=⟨_,rfl⟩
              subst Kp
              obtain ⟨mc0,mc1,_⟩:=zA hg
              have Kq:=zB (show zOQ bs n xa ms.length ms q ⟨nm,ty⟩ q2 from by
               refine ⟨hd,tabs,cd,He,ws,q1,tx,out,bad,who2,?_,?_,?_,?_,?_,?_⟩
               ·rw [zA h8,<- zA HK,<- zA Ho]; exact zA HHD
               ·rw [<- zA kn]; exact zA HW
               ·rw [zA h8,<- zA Hj]; exact zA km
               ·rw [zA h8]; exact zA KI
               ·rw [<- zA kn]; exact zA kl
               ·rw [<- zA kn]
                rcases zA KN with ⟨h1,h2⟩ | ⟨h1,h,h2,h3⟩
                ·exact yQ ⟨h1,by rw [h2]⟩
                ·exact yR ⟨h1,h,h2,by rw [h3]⟩)
              have H4:=(zA K).pr.row.below (zC Wg (.cells #[.string nm,.string ty] 29))
              have H5:=zB H4
              have qi:w.heap.size<=Wg.heap.size:=(zA K).pr.kp.size
              clear H4
              go_wp2_with (at_builtin; refine yJ _ rfl (.tmp 163) (.tmp 165) 23 rfl w.heap.size 29 i2 _ 2 32 Tryz.underlying23 (zA HM) (zA HX).1 (zA HX).2.1 (zA HX).2.2 rfl (by decide) _ ms.length (zY ms) rfl (zA H5) ⟨Wg.heap.size,0,none⟩ 1 1 (zY [⟨nm,ty⟩]) rfl rfl (Z6 Wg ⟨nm,ty⟩) (Z9 _) ?b1 ?b2 ?b3 ?next)
              case b1=>unfold maxLen; omega
              case b2=>omega
              case b3=>simp; omega
              case next=>
               intro v6 w6 G d hq P
               obtain ⟨g6,c6,hO,hI,rfl,k4⟩:=((zA K).pr.below (zC Wg (.cells #[.string nm,.string ty] 29))).app G d (P.imp (fun e=>e) (fun e=>⟨Wg.heap.size+1,e,by simp⟩))
               have T:hO.length=ms.length+1:=by rw [hI]; simp
               have K7:=zB (show zFv bs n xa qa hO.length hO q2 from by rw [T]; exact ⟨ms,q,⟨nm,ty⟩,zA hP,zA Kq,hI⟩)
               have kw:=zB (show MsZ 3 2000000000000 hO by rw [hI]; exact (zA Hi).snoc ku kN)
               have hF:=zB k4
               have Hk:hO.length<=n:=by omega
               have k8:=zB T
               clear G d hq P hI k4 T H5 K
               go_wp2_with fail
               exact ⟨⟨g6,c6,q2,hO,Hk,by have:=zA k8; congr 1; omega,rfl,hF,K7,kw⟩,by have:=zA k8; simp [intOf]; omega⟩
end Go.Proofs.YtgbkgkdpdfdokaaGreatDoor
