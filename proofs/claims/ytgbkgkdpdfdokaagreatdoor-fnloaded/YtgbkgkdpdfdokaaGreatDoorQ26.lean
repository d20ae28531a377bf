import Derived.Test.YtgbkgkdpdfdokaaGreatDoorQ25
namespace Go.Proofs.YtgbkgkdpdfdokaaGreatDoor
set_option linter.all false
set_option maxHeartbeats 16000000
set_option maxRecDepth 100000
open Go.RowKit
variable {ns xs:List OpR} {s:ByteArray} {ts:List zX}
theorem zJK {i:Nat} (h:TkF xs ts i) (hk:1<=(atT ts i).k/\(atT ts i).k<=7/\(atT ts i).k≠6) :
  ((sgT xs ts i).1=1\/(sgT xs ts i).1=2->((atT ts i).k=1\/(atT ts i).k=2)/\sgT xs ts i=((atT ts i).k.toNat,(atT ts i).t)) /\
  ((sgT xs ts i).1=6->(atT ts i).k=4) /\
  (3<=(sgT xs ts i).1->(sgT xs ts i).1<=5->((sgT xs ts i).1:Int)=zi xs ts i+2/\(sgT xs ts i).2=(atT ts i).t):=by
 rcases h with ⟨k3,hr,es,_⟩ | ⟨k3,h0,hn⟩
 ·rw [es]
  simp only
  exact ⟨fun h=>by omega,fun h=>by omega,fun _ _=>⟨by omega,trivial⟩⟩
 ·refine ⟨fun h=>?_,fun h=>?_,fun h3 h5=>yP ⟨h3,h5⟩ hn⟩
  ·unfold sgT at h ⊢
   rw [yN k3] at h ⊢
   by_cases k4:(atT ts i).k=4
   ·rw [yO k4] at h; exfalso; revert h; decide
   ·rw [yN k4] at h ⊢
    by_cases k5:(atT ts i).k=5
    ·rw [yO k5] at h; exfalso; revert h; decide
    ·rw [yN k5] at h ⊢
     by_cases k7:(atT ts i).k=7
     ·rw [yO k7] at h; exfalso; revert h; decide
     ·rw [yN k7]
      exact ⟨by omega,rfl⟩
  ·unfold sgT at h
   rw [yN k3] at h
   by_cases k4:(atT ts i).k=4
   ·exact k4
   ·rw [yN k4] at h
    by_cases k5:(atT ts i).k=5
    ·rw [yO k5] at h; exfalso; revert h; decide
    ·rw [yN k5] at h
     by_cases k7:(atT ts i).k=7
     ·rw [yO k7] at h; exfalso; revert h; decide
     ·rw [yN k7] at h
      simp only at h
      omega
theorem zBB {b Q cap gt ot ct gr cr:Nat} {xs:List OpR} {ts:List zX} {us:List Int} {B:Nat} (hv:zR xs 0) (hm:xs.length<=1048576) (K:Zg xs) (hF:TF xs ts us) :
  ∀ (n lo hi:Nat) (u:Value) (ns:List zD) (w:JY),lo<=hi->hi<=ts.length->hi-lo<=n->Seg xs (sgs xs ts lo (hi-lo))->BE w B b Q gt ot gr xs ts us->ZD w B u ns->ns.length+(hi-lo)<=90000 ->
   Calls Tryz.prog 98 #[.agg #[.slice (some ⟨b,Q,none⟩) xs.length cap],.slice (some ⟨gt,ot,none⟩) ts.length ct,.slice (some ⟨gr,0,none⟩) us.length cr,.int .i64 (lo:Int),.int .i64 (hi:Int),u] w (zAG w B u ns (bld xs n (sgs xs ts lo (hi-lo))) (hi-lo))
 | 0,lo,hi,u,ns,w,hlo,hhi,hn,hs,hE,hrow,hlen=>by
  have:hi-lo=0:=by omega
  rw [this] at hs
  exact yP rfl (Seg.ne hs)
 | n+1,lo,hi,u,ns,w,hlo,hhi,hn,hs,hE,hrow,hlen=>by
  have ssl:=zDp xs ts lo (hi-lo)
  cases hrt:rtF xs (sgs xs ts lo (hi-lo)) 0 0 none with
  | none=>
   have hR:zCP (rtF xs (sgs xs ts lo (hi-lo)) lo 0 none) = -1:=by rw [zOm,hrt]; rfl
   rcases zJw hs hrt with ⟨s,U,H⟩ | ⟨q,H,hq⟩
   ·have h1:hi-lo=1:=by rw [H] at ssl; simpa using ssl.symm
    have P:s=sgT xs ts lo:=by
     have:=H
     rw [h1] at this
     simp only [sgs,List.range'_one,List.map_cons,List.map_nil,List.cons.injEq,and_true] at this
     exact this.symm
    rw [P] at U
    obtain ⟨hk,he⟩:=(zJK (hF.all lo (by omega)).1 (hF.all lo (by omega)).2).1 U
    have hb:bld xs (n+1) (sgs xs ts lo (hi-lo))=some (.node (atT ts lo).k.toNat 0 (atT ts lo).t .nil .nil):=by
     simp only [bld]
     rw [hrt,H,P,he]
     simp only
     rw [yN (by omega)]
    rw [hb]
    exact zQI b Q cap gt ot ct gr cr lo hi xs ts us B u ns w hm hE hF (by omega) hhi hR hrow (by omega) hk rfl (by omega)
   ·have g:hi-lo=q.length+2:=by rw [H] at ssl; simp at ssl; omega
    have P:=H
    rw [g,zEo] at P
    injection P with hsg1 hsg2
    have A:=hsg2
    rw [zDR] at A
    have D:=(List.append_inj' A (by simp)).1
    have hk:=(zJK (hF.all lo (by omega)).1 (hF.all lo (by omega)).2).2.1 (by rw [hsg1])
    have e0:hi-1-(lo+1)=q.length:=by omega
    have hb:bld xs (n+1) (sgs xs ts lo (hi-lo))=(bld xs n q).map (fun T=>.node 6 0 ByteArray.empty T .nil):=by
     simp only [bld]
     rw [hrt,H]
     simp
    rw [hb]
    refine zOq b Q cap gt ot ct gr cr lo hi xs ts us B u ns w hm hE hF (by omega) hhi hR hrow hlen hk (bld xs n q) (fun W hW hr=>?_)
    have h:=zBB hv hm K hF n (lo+1) (hi-1) u ns W (cap:=cap) (ct:=ct) (cr:=cr) (by omega) (by omega) (by omega) (by rw [e0,D]; exact hq) hW hr (by omega)
    rw [e0,D,show ((lo+1:Nat):Int)=(lo:Int)+1 by omega,show ((hi-1:Nat):Int)=(hi:Int)-1 by omega] at h
    rw [show hi-lo-2=q.length by omega]
    exact h
  | some x=>
   obtain ⟨L,R,H,V,i,Y⟩:=zJx hs hrt
   obtain ⟨g1,g2,g3,g4⟩:=zMZ H
   rw [<- V] at g1 g2 g3 g4
   have hR:zCP (rtF xs (sgs xs ts lo (hi-lo)) lo 0 none)=((lo+x.1:Nat):Int):=by
    rw [zOm,hrt]
    show ((x.1+lo:Nat):Int)=_
    rw [Nat.add_comm]
   have d:lo+x.1<ts.length:=by omega
   have E:3<=x.2.1/\x.2.1<=5:=by
    rcases Y with ⟨h,_⟩ | ⟨h,_⟩ | ⟨h,_⟩ <;> omega
   obtain ⟨C,v⟩:=(zJK (hF.all (lo+x.1) d).1 (hF.all (lo+x.1) d).2).2.2 (by rw [<- g1]; exact E.1) (by rw [<- g1]; exact E.2)
   rw [<- g1] at C v
   have j:bld xs (n+1) (sgs xs ts lo (hi-lo))=(if (x.2.1=3/\x.1≠0)\/(x.2.1=5/\x.1+1≠hi-lo) then none
     else if x.2.1=3 then (match bld xs n ((sgs xs ts lo (hi-lo)).drop 1) with
      | none=>none
      | some T=>if zBP xs 3 x.2.2 T .nil then some (.node 3 0 x.2.2 T .nil) else none)
     else if x.2.1=5 then (match bld xs n ((sgs xs ts lo (hi-lo)).take x.1) with
      | none=>none
      | some T=>if zBP xs 5 x.2.2 T .nil then some (.node 5 0 x.2.2 T .nil) else none)
     else (match bld xs n ((sgs xs ts lo (hi-lo)).take x.1) with
      | none=>none
      | some T=>(match bld xs n ((sgs xs ts lo (hi-lo)).drop (x.1+1)) with
       | none=>none
       | some T2=>if zBP xs 4 x.2.2 T T2 then some (.node 4 0 x.2.2 T T2) else none))):=by
    conv=>lhs; unfold bld
    rw [hrt]
    simp only [ssl]
    rfl
   have J:(sgs xs ts lo (hi-lo)).take x.1=sgs xs ts lo x.1:=by
    rw [H,V,List.take_left']
    ·rw [<- V]; exact g3
    ·rfl
   have y:(sgs xs ts lo (hi-lo)).drop (x.1+1)=sgs xs ts (lo+x.1+1) (hi-lo-x.1-1):=by
    have e:L++x.2::R=(L++[x.2])++R:=by simp
    rw [H,<- g4,e]
    exact List.drop_left' (by simp [V])
   rcases Y with ⟨h3,p⟩ | ⟨h5,X⟩ | ⟨h4,X,p⟩
   ·by_cases hz:x.1=0
    ·have G:L=[]:=yY.1 (by omega)
     have c:=p G
     rw [g4,hz] at c
     have e0:hi-(lo+1)=hi-lo-0-1:=by omega
     rw [j,yN (by omega),yO h3]
     have f:(sgs xs ts lo (hi-lo)).drop 1=sgs xs ts (lo+1) (hi-(lo+1)):=by
      have:=y
      rw [hz] at this
      rw [e0]
      exact this
     rw [f,v]
     have a:Seg xs (sgs xs ts (lo+1) (hi-(lo+1))):=by rw [e0]; exact c
     refine zRd b Q cap gt ot ct gr cr lo hi (lo+x.1) xs ts us B u ns w hm K hE hF (by omega) (by omega) hhi hR hrow hlen (by omega) (by omega) (bld xs n (sgs xs ts (lo+1) (hi-(lo+1)))) (fun T hT=>(Z4 hv _ _ _ a hT).1) (fun W hW hr=>?_) _ rfl
     have h:=zBB hv hm K hF n (lo+1) hi u ns W (cap:=cap) (ct:=ct) (cr:=cr) (by omega) (by omega) (by omega) a hW hr (by omega)
     rw [show ((lo+1:Nat):Int)=(lo:Int)+1 by omega] at h
     rw [show hi-lo-1=hi-(lo+1) by omega]
     exact h
    ·rw [j,yO (yQ ⟨h3,hz⟩)]
     exact zQM b Q cap gt ot ct gr cr lo hi (lo+x.1) xs ts us B u ns w hm K hE hF (by omega) (by omega) hhi hR hrow hlen (by omega) (by omega)
   ·by_cases hz:x.1+1=hi-lo
    ·rw [j,yN (by omega),yN (by omega),yO h5,J,v]
     rw [g3] at X
     have e0:lo+x.1-lo=x.1:=by omega
     refine zQO b Q cap gt ot ct gr cr lo hi (lo+x.1) xs ts us B u ns w hm K hE hF (by omega) (by omega) hhi hR hrow hlen (by omega) (by omega) (bld xs n (sgs xs ts lo x.1)) (fun T hT=>(Z4 hv _ _ _ X hT).1) (fun W hW hr=>?_) _ rfl
     have h:=zBB hv hm K hF n lo (lo+x.1) u ns W (cap:=cap) (ct:=ct) (cr:=cr) (by omega) (by omega) (by omega) (by rw [e0]; exact X) hW hr (by omega)
     rw [e0] at h
     rw [show hi-lo-1=x.1 by omega]
     exact h
    ·rw [j,yO (yR ⟨h5,hz⟩)]
     exact zQN b Q cap gt ot ct gr cr lo hi (lo+x.1) xs ts us B u ns w hm K hE hF (by omega) (by omega) hhi hR hrow hlen (by omega) (by omega)
   ·rw [j,yN (by omega),yN (by omega),yN (by omega),J,y,v]
    rw [g3] at X
    rw [g4] at p
    have e0:lo+x.1-lo=x.1:=by omega
    have e1:hi-(lo+x.1+1)=hi-lo-x.1-1:=by omega
    refine zRe b Q cap gt ot ct gr cr lo hi (lo+x.1) xs ts us B u ns w hm K hE hF (by omega) (by omega) hhi hR hrow hlen (by omega) (bld xs n (sgs xs ts lo x.1)) (bld xs n (sgs xs ts (lo+x.1+1) (hi-lo-x.1-1))) (fun T hT=>(Z4 hv _ _ _ X hT).1) (fun T hT=>(Z4 hv _ _ _ p hT).1) (fun W hW hr=>?_) (fun W u1 F hW hr hl=>?_) _ rfl
    ·have h:=zBB hv hm K hF n lo (lo+x.1) u ns W (cap:=cap) (ct:=ct) (cr:=cr) (by omega) (by omega) (by omega) (by rw [e0]; exact X) hW hr (by omega)
     rw [e0] at h
     rw [e0]
     exact h
    ·have h:=zBB hv hm K hF n (lo+x.1+1) hi u1 F W (cap:=cap) (ct:=ct) (cr:=cr) (by omega) (by omega) (by omega) (by rw [e1]; exact p) hW hr (by omega)
     rw [e1,show ((lo+x.1+1:Nat):Int)=((lo+x.1:Nat):Int)+1 by omega] at h
     rw [show hi-(lo+x.1)-1=hi-lo-x.1-1 by omega]
     exact h
theorem zJL {H:List Int} {k:Nat} (h:k<H.length):H.take (k+1)=H.take k++[atI H k]:=by
 rw [List.take_add_one]
 simp [atI,List.getD,h]
theorem zKd {H:List Int} {i k:Nat} (h:i<k):atI (H.take k) i=atI H i:=by
 simp [atI,List.getD,List.getElem?_take,h]
theorem zJM (bn cn:Nat) (ns:List zD) (H:List Int) (w:JY) (hw:zBC w bn 0 ns) (hB:bn<w.heap.size) (hl:ns.length<=100000) (h1:1<=ns.length) (hH:H.length=ns.length) (o:∀ i,i<ns.length->zOi (atN ns i) H 0 i) (n:∀ i,i<ns.length->0<=atI H i/\atI H i<=100000) :
  Calls Tryz.prog 99 #[.agg #[.slice (some ⟨bn,0,none⟩) ns.length cn]] w fun e w'=>e = .returned (.int .i64 (atI H (ns.length-1)))/\Below w.heap.size w w':=by
 obtain ⟨i0,G,M,O,r⟩:=info_parts zQE
 have u:=zB G
 have X:=zB (yH M (yH O r))
 have HW:=zB hw
 have W:=zB o
 have A:=zB n
 have d:=zB hH
 clear G M O r hw o n hH
 have HO:=zB (show ((w.alloc (.cells #[.slice (some ⟨bn,0,none⟩) ns.length cn] 125)).alloc (.cells #[] 3)).ownsRow (w.heap.size+1) 3 1 (.slice (some ⟨w.heap.size+1,0,none⟩) 0 0) 0 (ZE []) by
  have h0:=yD (base:=w.heap.size+1) (e:=3) (size:=1) (w.alloc (.cells #[.slice (some ⟨bn,0,none⟩) ns.length cn] 125)) #[] 0 (by simp) (yj _) rfl
  simpa [ZE] using h0)
 have N:Below (w.heap.size+1) (w.alloc (.cells #[.slice (some ⟨bn,0,none⟩) ns.length cn] 125)) ((w.alloc (.cells #[.slice (some ⟨bn,0,none⟩) ns.length cn] 125)).alloc (.cells #[] 3)):=(zC _ _).mono (by simp)
 go_enter Tryz.func99,Tryz.ntmps99
 go_wp2_with fail
 go_loopw [3,4] (fun hv iv wr=>∃ (k go co:Nat),k<=ns.length/\iv = .int .i64 (k:Int)/\hv = .slice (some ⟨go,0,none⟩) k co/\Hid (wr.ownsRow (w.heap.size+1) 3 1 (.slice (some ⟨go,0,none⟩) k co) k (ZE (H.take k)))/\Hid (Below (w.heap.size+1) (w.alloc (.cells #[.slice (some ⟨bn,0,none⟩) ns.length cn] 125)) wr)/\w.heap.size+1<wr.heap.size) (fun _ iv _=>ns.length-(intOf iv).toNat)
 case atStart=>exact ⟨0,w.heap.size+1,0,yj _,rfl,rfl,HO,zB N,by simp⟩
 case round=>
  clear HO N
  obtain ⟨k,go,co,hk,rfl,rfl,y,Y,hz⟩:=hrel
  have tc:wr.cell? ⟨w.heap.size,0,none⟩=some (.slice (some ⟨bn,0,none⟩) ns.length cn):=by
   rw [(zA Y).cell (p:=⟨w.heap.size,0,none⟩) (show w.heap.size<_ by omega)]; simp [go_sem]
  have f:Below w.heap.size w wr:=(zC _ _).trans ((zA Y).mono (by omega))
  have g:=zB (show zGN wr go (H.take k) (H.take k).length by
   have E:(H.take k).length=k:=by rw [List.length_take,zA d]; omega
   have ho:=zA y
   refine (zEz (base:=w.heap.size+1) (cap:=co) (e:=3) ?_).2
   rw [E]; exact ho)
  have E:(H.take k).length=k:=by rw [List.length_take,zA d]; omega
  have I:=zB E
  have s:=(zA y).lt go rfl
  have v:=zB s
  by_cases U:k<ns.length
  ·have L:(k:Int)<(ns.length:Int):=by omega
   obtain ⟨a0,a1,a2,a3⟩:=((zA HW) k U).below f hB
   rw [yV] at a0 a1 a2 a3
   have m:=(zA A) k U
   have hb:bn<wr.heap.size:=by have:=f.size; omega
   have B:=zB (zJL (H:=H) (k:=k) (by rw [zA d]; exact U))
   have D:=zB (show ∀ i,i<k->wr.cell? ⟨go,i,none⟩=some (.int .i64 (atI H i)) from fun i hi=>by
    have:=(zA g).2.2 i (by rw [zA I]; exact hi)
    rw [this,zKd hi])
   rcases (zA W) k U with ⟨k0,e⟩ | ⟨k1,a,e1,e2,e3⟩ | ⟨k2,a,c,e1,e2,e3,e4,e5⟩
   ·have V:=zB k0
    have J:=zB e
    clear k0 e
    go_wp2_with (first | (go_at_call 94; refine (zP (zA V) 0 rfl _).mono ?_; rintro e w' ⟨rfl,hx⟩; obtain rfl:=hx.symm) | (at_builtin; refine wpList_append_own _ rfl (.tmp 47) (.tmp 50) 152 rfl (w.heap.size+1) 3 i0 _ 1 8 Tryz.underlying152 (zA u) (zA X).1 (zA X).2.1 (zA X).2.2 rfl (by decide) _ k (ZE (H.take k)) rfl (((zA y).alloc _).alloc _) ⟨wr.heap.size+1,0,none⟩ 1 1 (ZE [1]) rfl rfl (by simpa using zDt (wr.alloc (.cells #[.int .i64 (atN ns k).k,.string (atN ns k).t,.int .i64 (atN ns k).a,.int .i64 (atN ns k).b] 144)) (1)) (zCC _) ?b1 ?b2 ?b3 ?next))
    case b1=>unfold maxLen; omega
    case b2=>omega
    case b3=>simp; omega
    case next=>
     intro v4 w4 h K Q
     have x:Below (w.heap.size+1) (w.alloc (.cells #[.slice (some ⟨bn,0,none⟩) ns.length cn] 125)) w4:=(((zA Y).alloc (by omega) _).alloc (by simp; omega) _).grown K (by simp; omega) (fun q hq=>by have:=(zA v).1; simp [Value.ownBlock] at hq; omega)
     have z4:w.heap.size+1<w4.heap.size:=by have:=K.size; simp at this; omega
     obtain ⟨g4,c4,rfl⟩:=ZW h (by simp [Q])
     rw [<- zAt,<- zA J,<- zA B] at h
     have j:=zB h
     have P:=zB x
     clear h K Q x
     go_wp2_with fail
     exact ⟨⟨k+1,g4,c4,by omega,by go_num,rfl,j,P,z4⟩,by simp [intOf]; omega⟩
   ·have V:=zB k1
    have J:=zB e3
    rw [yV] at e1
    have ca:=(zA D) a e2
    have T:go<wr.heap.size:=(zA v).2
    have R:go≠wr.heap.size:=by omega
    have z:=(zA A) a (by omega)
    obtain ⟨l,F⟩:=z
    have S:(a:Int)<(k:Int):=by omega
    rw [e1] at a2
    clear k1 e3 e1
    go_wp2_with (first | (go_at_call 94; refine (zP (zA V) 1 rfl _).mono ?_; rintro e w' ⟨rfl,hx⟩; obtain rfl:=hx.symm) | (at_builtin; refine wpList_append_own _ rfl (.tmp 47) (.tmp 50) 152 rfl (w.heap.size+1) 3 i0 _ 1 8 Tryz.underlying152 (zA u) (zA X).1 (zA X).2.1 (zA X).2.2 rfl (by decide) _ k (ZE (H.take k)) rfl (((zA y).alloc _).alloc _) ⟨wr.heap.size+1,0,none⟩ 1 1 (ZE [atI H a+1]) rfl rfl (by simpa using zDt (wr.alloc (.cells #[.int .i64 (atN ns k).k,.string (atN ns k).t,.int .i64 (a:Int),.int .i64 (atN ns k).b] 144)) (atI H a+1)) (zCC _) ?b1 ?b2 ?b3 ?next))
    case b1=>unfold maxLen; omega
    case b2=>omega
    case b3=>simp; omega
    case next=>
     intro v4 w4 h K Q
     have x:Below (w.heap.size+1) (w.alloc (.cells #[.slice (some ⟨bn,0,none⟩) ns.length cn] 125)) w4:=(((zA Y).alloc (by omega) _).alloc (by simp; omega) _).grown K (by simp; omega) (fun q hq=>by have:=(zA v).1; simp [Value.ownBlock] at hq; omega)
     have z4:w.heap.size+1<w4.heap.size:=by have:=K.size; simp at this; omega
     obtain ⟨g4,c4,rfl⟩:=ZW h (by simp [Q])
     rw [<- zAt,<- zA J,<- zA B] at h
     have j:=zB h
     have P:=zB x
     clear h K Q x
     go_wp2_with fail
     exact ⟨⟨k+1,g4,c4,by omega,by go_num,rfl,j,P,z4⟩,by simp [intOf]; omega⟩
   ·have V:=zB k2
    rw [yV] at e1 e2
    have ca:=(zA D) a e3
    have cc:=(zA D) c e4
    have T:go<wr.heap.size:=(zA v).2
    have R:go≠wr.heap.size:=by omega
    obtain ⟨l,F⟩:=(zA A) a (by omega)
    obtain ⟨Z,ha⟩:=(zA A) c (by omega)
    have S:(a:Int)<(k:Int):=by omega
    have hc:(c:Int)<(k:Int):=by omega
    rw [e1] at a2
    rw [e2] at a3
    by_cases hg:atI H a<atI H c
    ·have J:=zB (show atI H k=atI H c+1 by omega)
     clear k2 e5 e1 e2 m
     go_wp2_with (first | (go_at_call 94; refine (zP (zA V) 2 rfl _).mono ?_; rintro e w' ⟨rfl,hx⟩; obtain rfl:=hx.symm) | (at_builtin; refine wpList_append_own _ rfl (.tmp 47) (.tmp 50) 152 rfl (w.heap.size+1) 3 i0 _ 1 8 Tryz.underlying152 (zA u) (zA X).1 (zA X).2.1 (zA X).2.2 rfl (by decide) _ k (ZE (H.take k)) rfl (((zA y).alloc _).alloc _) ⟨wr.heap.size+1,0,none⟩ 1 1 (ZE [atI H c+1]) rfl rfl (by simpa using zDt (wr.alloc (.cells #[.int .i64 (atN ns k).k,.string (atN ns k).t,.int .i64 (a:Int),.int .i64 (c:Int)] 144)) (atI H c+1)) (zCC _) ?b1 ?b2 ?b3 ?next))
     case b1=>unfold maxLen; omega
     case b2=>omega
     case b3=>simp; omega
     case next=>
      intro v4 w4 h K Q
      have x:Below (w.heap.size+1) (w.alloc (.cells #[.slice (some ⟨bn,0,none⟩) ns.length cn] 125)) w4:=(((zA Y).alloc (by omega) _).alloc (by simp; omega) _).grown K (by simp; omega) (fun q hq=>by have:=(zA v).1; simp [Value.ownBlock] at hq; omega)
      have z4:w.heap.size+1<w4.heap.size:=by have:=K.size; simp at this; omega
      obtain ⟨g4,c4,rfl⟩:=ZW h (by simp [Q])
      rw [<- zAt,<- zA J,<- zA B] at h
      have j:=zB h
      have P:=zB x
      clear h K Q x
      go_wp2_with fail
      exact ⟨⟨k+1,g4,c4,by omega,by go_num,rfl,j,P,z4⟩,by simp [intOf]; omega⟩
    ·have J:=zB (show atI H k=atI H a+1 by omega)
     clear k2 e5 e1 e2 m
     go_wp2_with (first | (go_at_call 94; refine (zP (zA V) 2 rfl _).mono ?_; rintro e w' ⟨rfl,hx⟩; obtain rfl:=hx.symm) | (at_builtin; refine wpList_append_own _ rfl (.tmp 47) (.tmp 50) 152 rfl (w.heap.size+1) 3 i0 _ 1 8 Tryz.underlying152 (zA u) (zA X).1 (zA X).2.1 (zA X).2.2 rfl (by decide) _ k (ZE (H.take k)) rfl (((zA y).alloc _).alloc _) ⟨wr.heap.size+1,0,none⟩ 1 1 (ZE [atI H a+1]) rfl rfl (by simpa using zDt (wr.alloc (.cells #[.int .i64 (atN ns k).k,.string (atN ns k).t,.int .i64 (a:Int),.int .i64 (c:Int)] 144)) (atI H a+1)) (zCC _) ?b1 ?b2 ?b3 ?next))
     case b1=>unfold maxLen; omega
     case b2=>omega
     case b3=>simp; omega
     case next=>
      intro v4 w4 h K Q
      have x:Below (w.heap.size+1) (w.alloc (.cells #[.slice (some ⟨bn,0,none⟩) ns.length cn] 125)) w4:=(((zA Y).alloc (by omega) _).alloc (by simp; omega) _).grown K (by simp; omega) (fun q hq=>by have:=(zA v).1; simp [Value.ownBlock] at hq; omega)
      have z4:w.heap.size+1<w4.heap.size:=by have:=K.size; simp at this; omega
      obtain ⟨g4,c4,rfl⟩:=ZW h (by simp [Q])
      rw [<- zAt,<- zA J,<- zA B] at h
      have j:=zB h
      have P:=zB x
      clear h K Q x
      go_wp2_with fail
      exact ⟨⟨k+1,g4,c4,by omega,by go_num,rfl,j,P,z4⟩,by simp [intOf]; omega⟩
  ·have L:¬ (k:Int)<(ns.length:Int):=by omega
   have e:k=ns.length:=by omega
   subst e
   have C:=(zA g).2.2 (ns.length-1) (by rw [zA I]; omega)
   rw [zKd (by omega)] at C
   have ec:((ns.length:Int)-1)=((ns.length-1:Nat):Int):=by omega
   have hd:((ns.length:Int)-1)<(ns.length:Int):=by omega
   have he:(0:Int)<=(ns.length:Int)-1:=by omega
   have et:((ns.length:Int)-1).toNat=ns.length-1:=by omega
   go_wp2_with fail
   go_ret
   exact ⟨rfl,f⟩
open Go.Maps
def zKe (us:List zX):List UInt8:=us.flatMap fun t=>t.g.data.toList++t.t.data.toList
theorem zFw (us:List zX):∀ k,k<=us.length->zAe us k=zKe (us.take k)
 | 0,_=>rfl
 | k+1,h=>by
  have ih:=zFw us k (by omega)
  have e:us.take (k+1)=us.take k++[atT us k]:=by
   rw [List.take_add_one,yn (by omega)]
   simp [atT,List.getD,yn (show k<us.length by omega)]
  rw [e]
  show zAe us k++(atT us k).g.data.toList++(atT us k).t.data.toList=_
  rw [ih]
  simp [zKe]
theorem zHV (us:List zX):zAe us us.length=zKe us:=by
 rw [zFw us us.length (yh _),List.take_length]
theorem zHW (s:JZ) (i j:Nat):(s.extract i j).data.toList=(s.data.toList.drop i).take (j-i):=by
 simp [ByteArray.data_extract,List.extract_eq_take_drop]
theorem zHX {xs:List OpR} {s:JZ}:∀ (us:List zX) (i:Nat),zAQ xs s i us->zKe us=s.data.toList.drop i/\us.length+i<=s.size+1
 | [],_,h=>h.elim
 | t::out,i,h=>by
  have q:s.data.toList.length=s.size:=by simp
  rcases h with ⟨rfl,hi,_,rfl⟩ | ⟨j,n,k,Q,hj,_,_,H,rfl,K⟩
  ·refine ⟨?_,by simp; omega⟩
   show (s.extract i s.size).data.toList++[]++[]=_
   rw [zHW,List.append_nil,List.append_nil,List.take_of_length_le (by rw [List.length_drop,q]; exact yh _)]
  ·obtain ⟨ih1,ih2⟩:=zHX out (j+n) K
   have h1:=H.1
   refine ⟨?_,by simp; omega⟩
   show (s.extract i j).data.toList++(s.extract j (j+n)).data.toList++zKe out=_
   rw [ih1,zHW,zHW]
   have e1:s.data.toList.drop (j+n)=(s.data.toList.drop j).drop n:=by rw [List.drop_drop]
   have e2:s.data.toList.drop j=(s.data.toList.drop i).drop (j-i):=by rw [List.drop_drop]; congr 1; omega
   rw [yx,e1,Nat.add_sub_cancel_left,List.take_append_drop,e2,List.take_append_drop]
theorem zIf {us:List zX} (h:zAQ xs s 0 us):(⟨(zAe us us.length).toArray⟩:JZ)=s/\us.length<=s.size+1/\Z2 us us.length=s.size:=by
 obtain ⟨h1,h2⟩:=zHX us 0 h
 rw [List.drop_zero] at h1
 have h3:=zDP us us.length
 rw [zHV,h1] at h3
 refine ⟨?_,by omega,by rw [<- h3]; simp⟩
 rw [zHV,h1]
def zBx (xs:List OpR) (s:JZ) (w:JY) (e:Ending) (w':JY):Prop:=
 (∃ (a:Option Addr) (cc:Nat) (us:List zD) (c p:Int),e = .returned (.tuple #[.agg #[.slice a us.length cc],.int .i64 c,.int .i64 p])/\Hid (ZU w' w.heap.size a us)/\Hid (zBY xs s us c p))/\Below w.heap.size w w'
theorem zBx.empty {w w':JY} {c p:Int} (h:zBY xs s [] c p) (hb:Below w.heap.size w w'):zBx xs s w (.returned (.tuple #[.agg #[.slice none 0 0],.int .i64 c,.int .i64 p])) w':=
 ⟨⟨none,0,[],c,p,rfl,zB (show ZU w' w.heap.size none [] from yQ ⟨rfl,rfl⟩),zB h⟩,hb⟩
def SpF (N b h n cap:Nat) (W:JY):Prop:=
 W.cell? ⟨N,0,none⟩=some (.slice (some ⟨b,h,none⟩) n cap)/\W.cell? ⟨N+1,0,none⟩=some (.slice none 0 0)/\W.frozen? ⟨N+1,0,none⟩=false
theorem SpF.grown {N b H n cap:Nat} {W W':JY} {row:Option Nat} (h:SpF N b H n cap W) (hg:W.grownBy W' row) (hr:∀ k,row=some k->N+2<=k):SpF N b H n cap W':=by
 obtain ⟨h0,h1,h2⟩:=h
 have l0:N<W.heap.size:=block_lt_of_cell h0
 have l1:N+1<W.heap.size:=block_lt_of_cell h1
 exact ⟨(zE hg l0 (fun e=>by have:=hr _ e; omega) 0).trans h0,(zE hg l1 (fun e=>by have:=hr _ e; omega) 0).trans h1,(yA (w:=W) (hg.block (N+1) l1 (fun e=>by have:=hr _ e.symm; omega))).trans h2⟩
theorem SpF.below {N b H n cap:Nat} {W W':JY} (h:SpF N b H n cap W) (hb:Below W.heap.size W W'):SpF N b H n cap W':=h.grown (zH hb none) (fun k hk=>by cases hk)
theorem zOr (hv:zR ns 0) (hf:zC8 ns ts ts.length) (hl:0<ts.length/\(atT ts (ts.length-1)).k=7) {n:Nat} (hn:ts.length<=n) :
  (∀ T,bld ns n (sgs ns ts 0 (ts.length-1))=some T->RD ns 0 none (sgs ns ts 0 ts.length)=some (T,[eoS]))/\(bld ns n (sgs ns ts 0 (ts.length-1))=none->RD ns 0 none (sgs ns ts 0 ts.length)=none):=by
 obtain ⟨H,q⟩:=zMD hf hl.1 hl.2
 have hb:=fun T=>zQ9 hv H (n:=n) (by rw [zDp]; omega) T
 rw [q]
 refine ⟨fun T h=>(hb T).1 h,fun h=>?_⟩
 cases hr:RD ns 0 none (sgs ns ts 0 (ts.length-1)++[eoS]) with
 | none=>rfl
 | some y=>
  obtain ⟨T,r⟩:=y
  have K:=zQ7 hv H hr
  simp only at K
  rw [K] at hr
  have:=(hb T).2 hr
  rw [h] at this
  cases this
theorem TF.of (hv:zR ns 0) (hs:s.size<=20000) (hx:zAQ ns s 0 ts) (hf:zC8 ns ts ts.length) (H:∀ j,j<ts.length->(atT ts j).k≠6):TF ns ts (Z0 ns ts ts.length) where
 len:=by have:=(zIf hx).2.1; omega
 us:=rfl
 all:=fun i hi=>by
  refine ⟨zRZ (hf i hi),?_⟩
  rcases zMB (zEX (zJG hv)) ts 0 hx i hi with h | h | h | h | h | h
  ·have:=h.1; exact ⟨by omega,by omega,H i hi⟩
  ·have:=h.1; exact ⟨by omega,by omega,H i hi⟩
  ·have:=h.1; exact ⟨by omega,by omega,H i hi⟩
  ·have:=h.1; exact ⟨by omega,by omega,H i hi⟩
  ·exact yP h (H i hi)
  ·have:=h.1; exact ⟨by omega,by omega,H i hi⟩
theorem zHr (b y cap:Nat) (xs:List OpR) (s:JZ) (w:JY) (f:xs.length<=1048576) (hw:Ops w b y xs) (t:Zg xs) (hB:b<w.heap.size) (hs:s.size<=1048576) :
  Calls Tryz.prog 78 #[.agg #[.slice (some ⟨b,y,none⟩) xs.length cap],.string s] w (zBx xs s w):=by
 have HW:=zB hw
 have HS:=zB t
 clear hw t
 have X:Below w.heap.size w ((w.alloc (.cells #[.slice (some ⟨b,y,none⟩) xs.length cap] 33)).alloc (.cells #[.slice none 0 0] 125)):=(zC _ _).alloc (by simp) _
 have HX:=ZY b y cap xs _ f ((zA HW).below X hB) (zA HS) (by have:=X.size; omega)
 go_enter Tryz.func78,Tryz.ntmps78
 go_wp2_with fail
 refine HX.mono ?_
 clear HX
 rintro e w1 ⟨⟨c,rfl,hc⟩,hb1⟩
 have HC:=zB hc
 have z1:w.heap.size+2<=w1.heap.size:=by have:=hb1.size; simp at this; omega
 have J:Below w.heap.size w w1:=X.trans (hb1.mono X.size)
 have HF:=zB (show SpF w.heap.size b y xs.length cap w1 from SpF.below ⟨by simp [go_sem],by simp [go_sem],by simp [go_sem]⟩ hb1)
 obtain ⟨t0,t1,u1⟩:=zA HF
 clear hc hb1 X
 by_cases C:c=0
 case neg=>
  have hA:(c != 0)=true:=by simpa using C
  have HN:=zB (show ¬ zR xs 0 from fun h=>C (zAD (zA HC) h))
  clear C
  go_wp2_with fail
  refine yK (v:=.tuple #[.agg #[.slice none 0 0],.int .i64 1,.int .i64 0]) ?_ rfl (zBx.empty (yQ ⟨zA HN,rfl,rfl,rfl⟩) (J.setCell (by simp only; omega) _))
  simp [results,Tryz.results78,go_sem,t1]
 subst C
 have HX:=zJH b y cap xs s w1 f ((zA HW).below J hB) (zA HS) (yi hB J.size) (by unfold maxLen; omega)
 go_wp2_with fail
 refine HX.mono ?_
 clear HX t0 t1 u1
 rintro e w2 ⟨⟨g,ct,ts,v,rfl,⟨hg,hct,hcm⟩,hfil,Q⟩,hb2⟩
 have K:=J.trans (hb2.mono J.size)
 replace HF:=zB ((zA HF).below hb2)
 have hE:w.heap.size<=g:=by omega
 obtain ⟨t0,t1,u1⟩:=zA HF
 rcases Q with ⟨⟨_,U⟩,rfl,Q⟩ | ⟨x,rfl,_⟩
 case inr=>
  have HN:=zB (show 20000<s.size by
   rcases Nat.lt_or_ge 20000 s.size with h | h
   ·exact h
   ·exact yP ⟨zA HC,h⟩ x)
  clear x hfil
  go_wp2_with fail
  refine yK (v:=.tuple #[.agg #[.slice none 0 0],.int .i64 2,.int .i64 0]) ?_ rfl (zBx.empty (yR ⟨zA HC,yQ ⟨zA HN,rfl,rfl,rfl⟩⟩) (K.setCell (by simp only; omega) _))
  simp [results,Tryz.results78,go_sem,t1]
 have V:=zB Q
 have D:g<w2.heap.size:=hfil.1
 have HT:=zB (show zFA w2 g 0 ts from hfil.2.2)
 have HR:=zB (zIf Q)
 have HZ:=zB (zGv ts 0 Q)
 have z:ts.length+Z2 ts ts.length<=1048576:=by have:=zA HR; omega
 have hC:ts.length<=20001:=by have:=zA HR; omega
 have N:=zGu ts 0 Q
 have h7:=N.1
 have S:=zB N
 clear hfil Q hb2 N
 go_wp2_with fail
 go_loop [9] (fun iv=>∃ k:Nat,k<=ts.length/\iv = .int .i64 (k:Int)/\Hid (∀ j,j<k->(atT ts j).k≠6)) (fun iv=>ts.length-(intOf iv).toNat)
 case atStart=>exact ⟨0,yj _,rfl,zB (fun j hj=>yP hj (yt j))⟩
 case round=>
  obtain ⟨k,hk,rfl,x⟩:=hrel
  by_cases E:k<ts.length
  ·have hf:(k:Int)<(ts.length:Int):=by omega
   obtain ⟨k0,k1,k2⟩:=(zA HT) k E
   rw [yV] at k0 k1 k2
   by_cases h6:(atT ts k).k=6
   ·have e6:((atT ts k).k==6)=true:=by rw [h6]; rfl
    have H6:=zB h6
    have HX:=zE3 g 0 ct k ts w2 z E hct hcm (zA HT) D (by have:=((zA HZ) k E).1; omega)
    clear h6
    go_wp2_with fail
    refine HX.mono ?_
    clear HX
    rintro e w3 ⟨rfl,hb3⟩
    have H:=K.trans (hb3.mono K.size)
    obtain ⟨s0,s1,s2⟩:=(zA HF).below hb3
    go_wp2_with fail
    refine yK (v:=.tuple #[.agg #[.slice none 0 0],.int .i64 3,.int .i64 (zLE ts k:Int)]) ?_ rfl (zBx.empty (yR ⟨zA HC,yR ⟨U,ts,zA V,yQ ⟨k,E,zA H6,zA x,rfl,rfl,rfl⟩⟩⟩) (H.setCell (by simp only; omega) _))
    simp [results,Tryz.results78,go_sem,s1]
   ·have e6:((atT ts k).k==6)=false:=by simpa using h6
    have h1:=zB (show ∀ j,j<k+1->(atT ts j).k≠6 from fun j hj=>by
     by_cases e:j=k
     ·subst e; exact h6
     ·exact (zA x) j (by omega))
    clear h6
    go_wp2_with fail
    exact ⟨⟨k+1,by omega,by go_num,h1⟩,by simp [intOf]; omega⟩
  ·have hf:¬ (k:Int)<(ts.length:Int):=by omega
   have e:k=ts.length:=by omega
   subst e
   have HX:=zHq b y cap g 0 ct xs ts w2 f (by omega) ((zA HW).below K hB) (zA HS) (yi hB K.size) (zA HT) D
   go_wp2_with fail
   refine HX.mono ?_
   clear HX t0 t1 u1
   rintro e w3 ⟨⟨gr,cr,us,at_,rfl,hgr,hfr,hroles⟩,hb3⟩
   have H:=K.trans (hb3.mono K.size)
   replace HF:=zB ((zA HF).below hb3)
   replace HT:=zB ((zA HT).below hb3 D)
   have hv:g<w3.heap.size:=yi D hb3.size
   obtain ⟨t0,t1,u1⟩:=zA HF
   rcases hroles with ⟨h3,_⟩ | ⟨_,⟨i,hi,ho,ha,_,rfl⟩ | ⟨Y,⟨_,hm,rfl⟩ | ⟨h5,_⟩⟩⟩
   ·exact yP (zA HC) h3
   ·have eA:decide ((i:Int) ≥ 0)=true:=by simp
    have hx:=zB ho
    have hy:=zB ha
    have HX:=zE3 g 0 ct i ts w3 z hi hct hcm (zA HT) hv (by have:=((zA HZ) i hi).1; omega)
    clear ho ha hfr
    go_wp2_with fail
    refine HX.mono ?_
    clear HX
    rintro e w4 ⟨rfl,hb4⟩
    have he:=H.trans (hb4.mono H.size)
    obtain ⟨s0,s1,s2⟩:=(zA HF).below hb4
    go_wp2_with fail
    refine yK (v:=.tuple #[.agg #[.slice none 0 0],.int .i64 4,.int .i64 (zLE ts i:Int)]) ?_ rfl (zBx.empty (yR ⟨zA HC,yR ⟨U,ts,zA V,yR ⟨zA x,yQ ⟨i,hi,zA hx,zA hy,rfl,rfl,rfl⟩⟩⟩⟩) (he.setCell (by simp only; omega) _))
    simp [results,Tryz.results78,go_sem,s1]
   case inr.inr.inr=>exact yP (zA S) h5
   have L:=zB Y
   have hu:=zB (show TF xs ts us by rw [hm]; exact TF.of (zA HC) U (zA V) Y (zA x))
   have hb:gr<w3.heap.size:=hfr.1
   have Z:BE w3 w3.heap.size b y g 0 gr xs ts us:=⟨(zA HW).below H hB,yi hB H.size,zA HT,hv,⟨hfr.1,hfr.2.2⟩,hb,yh _⟩
   have hz:=zB (Z.below (zC w3 (.cells #[] 144)))
   have I:=zB (show ZD (w3.alloc (.cells #[] 144)) w3.heap.size (.slice (some ⟨w3.heap.size,0,none⟩) 0 0) [] by
    have h0:=yD (base:=w3.heap.size) (e:=144) (size:=4) w3 #[] 0 (yh _) (yj _) rfl
    simpa [ZD,zL] using h0)
   have m:=zB (zMD Y h7 (zA S).2).1
   have HX:=zBB (cap:=cap) (ct:=ct) (cr:=cr) (zA HC) f (zA HS) (zA hu) ts.length 0 (ts.length-1) (.slice (some ⟨w3.heap.size,0,none⟩) 0 0) [] _ (yj _) (by omega) (by omega) (by rw [Nat.sub_zero]; exact zA m) (zA hz) (zA I) (by simp; omega)
   rw [Nat.sub_zero,show ((0:Nat):Int)=0 from rfl,show ((ts.length-1:Nat):Int)=(ts.length:Int)-1 by omega] at HX
   have A:=zB (zOr (zA HC) Y (zA S) (n:=ts.length) (yh _))
   have G:=zB (show ∀ T,bld xs ts.length (sgs xs ts 0 (ts.length-1))=some T->Zt xs T from fun T h=>(Z4 (zA HC) _ _ _ (zA m) h).1)
   obtain ⟨bl,hl⟩:∃ bl,bl=bld xs ts.length (sgs xs ts 0 (ts.length-1)):=⟨_,rfl⟩
   rw [<- hl] at HX A G
   have z3:w.heap.size+2<=w3.heap.size:=by have:=hb3.size; omega
   clear Y hm hfr Z I m hu hl hb3
   go_wp2_with fail
   refine HX.mono ?_
   clear HX t0 t1 u1
   rintro e w4 ⟨u4,vs,ok,rfl,HR4,HG4,HA4,hl4,HO4⟩
   have HG:=zB (zh (zC w3 (.cells #[] 144)) (zA HG4))
   have F:=zB (show Below w.heap.size w w4 from H.grown (zA HG) H.size (fun q hq=>by simp [Value.ownBlock] at hq; omega))
   replace HF:=zB ((zA HF).grown (zA HG) (fun q hq=>by simp [Value.ownBlock] at hq; omega))
   have z4:=(zA HG).size
   obtain ⟨t0,t1,u1⟩:=zA HF
   rcases zA HO4 with ⟨T,M,rfl,u⟩ | ⟨hd,rfl⟩
   case inr=>
    have h8:=zB ((zA A).2 hd)
    clear hd HO4 A G
    go_wp2_with fail
    refine yK (v:=.tuple #[.agg #[.slice none 0 0],.int .i64 5,.int .i64 0]) ?_ rfl (zBx.empty (yR ⟨zA HC,yR ⟨U,ts,zA V,yR ⟨zA x,yR ⟨zA L,yQ ⟨zA h8,rfl,rfl,rfl⟩⟩⟩⟩⟩) ((zA F).setCell (by simp only; omega) _))
    simp [results,Tryz.results78,go_sem,t1]
   rw [List.nil_append,yW] at u
   have l:=zB ((zA G) T M)
   have hn:=zB ((zA A).1 T M)
   have hp:1<=vs.length:=by rw [u,ZO]; exact Sh.pos (zA l).sh
   obtain ⟨g4,c4,rfl,hD,B⟩:=zC5 (zA HR4) hp
   rw [yW,yV] at hl4
   have o:tsz T=vs.length:=by rw [u,ZO]
   have P:=zC w4 (.cells #[.slice (some ⟨g4,0,none⟩) vs.length c4] 125)
   have d:=zB B
   have HX:=zJM g4 c4 vs (hL T) _ (B.below P B.1).2.2 (by have:=P.size; have:=B.1; omega) (by omega) hp (by rw [zES,o]) (fun i hi=>by rw [u]; exact zOj T (zA l).sh 0 i (by omega)) (fun i hi=>by have:=zQF T (i:=i) (by omega); omega)
   have a:atI (hL T) (vs.length-1)=(hT T:Int):=by rw [<- o]; exact zGP (zA l).sh
   rw [a] at HX
   have h9:=zB u
   obtain ⟨hh,r⟩:∃ hh,hh=hT T:=⟨_,rfl⟩
   rw [<- r] at HX
   have ht:=zB r
   clear u M HO4 A G o B a r HR4 HG4 HA4 HG
   go_wp2_with fail
   refine HX.mono ?_
   clear HX
   rintro e w5 ⟨rfl,hb6⟩
   have W:=zB (((zA F).trans (P.mono (zA F).size)).trans (hb6.mono (by have:=(zA F).size; simp; omega)))
   have h2:=zB (((zA HF).below P).below hb6)
   have hr:=zB (((zA d).below P (zA d).1).below hb6 (by have:=P.size; have:=(zA d).1; omega))
   have tr5:w5.cell? ⟨w4.heap.size,0,none⟩=some (.slice (some ⟨g4,0,none⟩) vs.length c4):=(hb6.cell (p:=⟨w4.heap.size,0,none⟩) (by simp)).trans (by simp [go_sem])
   obtain ⟨s0,s1,s2⟩:=zA h2
   clear t0 t1 u1 P hb6 HF d
   by_cases O:1000<hh
   ·have h4:(1000:Int)<(hh:Int):=by omega
    have R:=zB (show 1000<hT T by rw [<- zA ht]; exact O)
    clear O
    go_wp2_with fail
    refine yK (v:=.tuple #[.agg #[.slice none 0 0],.int .i64 6,.int .i64 0]) ?_ rfl (zBx.empty (yR ⟨zA HC,yR ⟨U,ts,zA V,yR ⟨zA x,yR ⟨zA L,yR ⟨T,_,zA hn,yQ ⟨zA R,rfl,rfl,rfl⟩⟩⟩⟩⟩⟩) ((zA W).setCell (by simp only; omega) _))
    simp [results,Tryz.results78,go_sem,s1]
   ·have h4:¬ (1000:Int)<(hh:Int):=by omega
    have R:=zB (show hT T<=1000 by rw [<- zA ht]; omega)
    clear O
    go_wp2_with fail
    refine yK (v:=.tuple #[.agg #[.slice (some ⟨g4,0,none⟩) vs.length c4],.int .i64 0,.int .i64 0]) ?_ rfl ⟨⟨some ⟨g4,0,none⟩,c4,vs,0,0,rfl,zB (yR ⟨g4,rfl,by omega,?_⟩),zB (yR ⟨zA HC,yR ⟨U,ts,zA V,yR ⟨zA x,yR ⟨zA L,yR ⟨T,_,zA hn,yR ⟨zA R,zA h9,rfl,rfl⟩⟩⟩⟩⟩⟩)⟩,(zA W).setCell (by simp only; omega) _⟩
    ·simp [results,Tryz.results78,go_sem,s1]
    ·exact (zA hr).setCell _ _ _ (by omega)
theorem zBY.code {us:List zD} {c p:Int} (h:zBY ns s us c p):0<=c/\c<=6:=by
 rcases h with ⟨_,_,rfl,_⟩ | ⟨hv,⟨_,_,rfl,_⟩ | ⟨k,ts,hx,⟨i,_,_,_,_,rfl,_⟩ | ⟨H,⟨i,_,_,_,_,rfl,_⟩ | ⟨hf,⟨_,_,rfl,_⟩ | ⟨T,r,hr,⟨_,_,rfl,_⟩ | ⟨_,_,rfl,_⟩⟩⟩⟩⟩⟩ <;> decide
def zQP (w:JY) (ms:List zF) (e:Ending) (w':JY):Prop:=∃ (v:Value) (out:List (List zD)) (c h:Int),e = .returned (.tuple #[v,.int .i64 c,.int .i64 h])/\Hid (zBv ms out c h)/\Hid (zRM w' w.heap.size v out)/\Below w.heap.size w w'
theorem zHY (w':JY) (B b:Nat):zRM w' B (.slice (some ⟨b,0,none⟩) 0 0) []:=⟨⟨_,_,rfl⟩,yQ rfl⟩
theorem TrI.empty (w:JY) (B:Nat) (hB:B<=w.heap.size):TrI (w.alloc (.cells #[] 125)) B (.slice (some ⟨w.heap.size,0,none⟩) 0 0) [] [] []:=by
 refine ⟨?_,⟨rfl,rfl⟩,fun j hj=>yP hj (yt j),fun i j _ a a' h=>by simp at h⟩
 have:=yD (base:=B) (e:=125) (size:=1) w #[] 0 hB (yj _) rfl
 simpa [zIX] using this
theorem zHs (a:Option Addr) (c0:Nat) (ms:List zF) (w:JY) (hn:ms.length<=1048576) (hM:zEJ w a ms) (hz:zG2 ms) :
  Calls Tryz.prog 49 #[.slice a ms.length c0] w (zQP w ms):=by
 obtain ⟨W0,D⟩:∃ W0,W0=w.alloc (.cells #[] 125):=⟨_,rfl⟩
 have m:Below w.heap.size w W0:=by rw [D]; exact zC _ _
 have HE:=zB (show TrI W0 w.heap.size (.slice (some ⟨w.heap.size,0,none⟩) 0 0) [] [] [] by rw [D]; exact TrI.empty w _ (yh _))
 have I:=zB (zBw a c0 ms W0 hn (hM.below m) hz)
 have HM:=zB hM
 have h5:=zB hz
 have hs:=zB m
 have O:=zB D
 obtain ⟨i0,o,hd,ht,hy⟩:=zN zOP
 have HI:=zB o
 have HZ:=zB (yH hd (yH ht hy))
 clear hM hz m D o hd ht hy
 go_enter Tryz.func49,Tryz.ntmps49
 go_wp2_with fail
 rw [<- zA O]
 (with_reducible refine (zA I).mono ?_)
 rintro e w1 ⟨v1,tabs,cd0,wh0,rfl,HL,HT1,hm1,hb1⟩
 have V:=zB ((zA hs).trans (hb1.mono (zA hs).size))
 by_cases hc:cd0=0
 ·subst hc
  obtain ⟨hi,Z,B⟩:=(zA HL).good
  have hh:=zB (zFu a c0 ms w1 hi ((zA HM).below (zA V)) (zA h5) Z)
  have hC:=zB hm1
  have h1:=zB ((zA HE).keep hb1.size (fun q _ h=>hb1.block q h))
  have h6:=zB B
  have zw1:=(zA V).size
  have zw0:w.heap.size+1<=W0.heap.size:=by rw [zA O]; simp
  have zw01:=hb1.size
  obtain ⟨gS,cS,rfl,l⟩:=zA HT1
  rw [B]
  rw [B] at l
  have hE:=zB l
  clear hb1 hm1 I HE B Z l
  go_wp2_with fail
  (with_reducible refine (zA hh).mono ?_)
  rintro e w2 ⟨gU,cU,vs,U,rfl,hgU,hgUl,hvl,HOV,HUA,HUO,hb2⟩
  have h9:=zB ((zA V).trans (hb2.mono (zA V).size))
  have R:=zB (show Below w1.heap.size w1 w2 from hb2)
  have hm:=zB ((zA h1).keep hb2.size (fun q _ h=>hb2.block q h))
  have zw2:=hb2.size
  rw [hvl]
  have h4:=zB hvl
  clear hb2 hh h1 hvl
  go_wp2_with fail
  go_loopw [5,10] (fun vv i wr=>∃ (k:Nat) (tv:List Value) (ta:List (Option Addr)) (out:List (List zD)),k<=ms.length/\i = .int .i64 (k:Int)/\Hid (TrI wr w.heap.size vv tv ta out)/\Hid (zHH (zBQ tabs) (fun i=>(atU U i).b) k out)/\Hid (w2.grownBy wr (some w.heap.size))/\Hid (∀ q,vv.ownBlock=some q->q=w.heap.size\/w2.heap.size<=q)/\Below w.heap.size w wr) (fun _ i _=>ms.length-(intOf i).toNat)
  case atStart=>exact ⟨0,[],[],[],yj _,rfl,hm,zB (zHH.nil _ _),zB (zH (yG _ _) _),zB (fun q e=>yQ (by simpa [Value.ownBlock] using e.symm)),zA h9⟩
  case round=>
   clear hm
   obtain ⟨k,tv,ta,out,hk,rfl,y,d,HG,z,Y⟩:=hrel
   have zr2:=(zA HG).size
   obtain ⟨av,cv,rfl⟩:∃ a c,u5 = .slice a tv.length c:=zO (zA y).row
   have B:tv.length<=1048576:=by have:=(zA y).len.1; have:=(zA d).1; omega
   by_cases A:k<ms.length
   ·have hH:(k:Int)<(ms.length:Int):=by omega
    rcases zA hE with h | ⟨hI,hB,hw⟩
    ·omega
    obtain ⟨t,t0,L,hr⟩:=hw k A
    obtain ⟨gq,cq,rfl,hA,v⟩:=zCV.of ((L.at'.below (zA R)).grown (zA HG) (fun g e x=>by injection x with x; have:=hr g e; omega)) L.blk
    have t0':=(zE (zA HG) (b:=gS) (by omega) (fun x=>by injection x with x; omega) k).trans (((zA R).cell (p:=⟨gS,k,none⟩) hB).trans t0)
    have ha:k<vs.length:=by rw [zA h4]; exact A
    have v2:=(zE (zA HG) (b:=gU) hgUl (fun x=>by injection x with x; omega) (k*3+2)).trans ((zA HOV) k ha).2.2
    have q3:=((zA HUA).2 k ha).1.2.2
    have hf:(atV vs k).b.size<=1048576:=by rw [q3]; have:=zM2 ((zA HUO).2 k A); omega
    obtain ⟨bd,f⟩:∃ bd,bd=(atV vs k).b:=⟨_,rfl⟩
    rw [<- f] at v2 hf q3
    obtain ⟨he,hl⟩:=(zA hC) (zBQ tabs k) (by unfold zBQ; have:=zA h6; simp [show k<tabs.length by omega])
    obtain ⟨xs,N⟩:∃ xs,xs=zBQ tabs k:=⟨_,rfl⟩
    rw [<- N] at t0' v he hl
    have F:=zB (fun W (hb:Below wr.heap.size wr W)=>zHr gq 0 cq xs bd W he (v.below hb hA) hl (by have:=hb.size; omega) hf)
    have h0:=zB (fun us c (h:∃ p,zBY xs bd us c p)=>show PsI (zBQ tabs) (fun i=>(atU U i).b) k us c by
     obtain ⟨p,h⟩:=h
     refine ⟨p,?_⟩
     show zBY (zBQ tabs k) (atU U k).b us c p
     rw [<- N,<- q3]
     exact h)
    clear v t0 hw q3 f N L hr
    have hg:=zB ((zA F) (wr.alloc (.cells #[.slice none 0 0] 125)).drew (zC _ _).drew)
    have ho:=zB ((zA F) wr.drew (yG _ _).drew)
    have gl1:gS<wr.drew.heap.size:=by show gS<wr.heap.size; omega
    have gl2:gU<wr.drew.heap.size:=by show gU<wr.heap.size; omega
    obtain ⟨N0,h2⟩:∃ N0,N0=(wr.alloc (.cells #[.slice none 0 0] 125)).drew:=⟨_,rfl⟩
    have gl3:gS<(wr.alloc (.cells #[.slice none 0 0] 125)).drew.heap.size:=by simp; omega
    have gl4:gU<(wr.alloc (.cells #[.slice none 0 0] 125)).drew.heap.size:=by simp; omega
    have gl5:wr.heap.size<(wr.alloc (.cells #[.slice none 0 0] 125)).drew.heap.size:=by simp
    have t0n:(wr.alloc (.cells #[.slice none 0 0] 125)).drew.cell? ⟨gS,k,none⟩=_:=((zC wr _).cell (p:=⟨gS,k,none⟩) gl1).trans t0'
    have v2n:(wr.alloc (.cells #[.slice none 0 0] 125)).drew.cell? ⟨gU,k*3+2,none⟩=_:=((zC wr _).cell (p:=⟨gU,k*3+2,none⟩) gl2).trans v2
    have hx:=zB (show (wr.alloc (.cells #[.slice none 0 0] 125)).drew.cell? ⟨wr.heap.size,0,none⟩=some (.slice none 0 0) by simp [go_sem])
    have hp:=zB (show (wr.alloc (.cells #[.slice none 0 0] 125)).drew.frozen? ⟨wr.heap.size,0,none⟩=false by simp [go_sem])
    clear h2 N0
    have nn1:=World.new_ne wr _ t0'
    have nn2:=World.new_ne wr _ v2
    go_wp2_with fail
    go_region_held3 (fun W=>W.cell? ⟨gS,k,none⟩=some (.slice (some ⟨gq,0,none⟩) xs.length cq)/\W.cell? ⟨gU,k*3+2,none⟩=some (.string bd)) (go_keep) (first | (go_at_call 78; (first | ((with_reducible refine (zA ho).mono ?_); rintro e w3 ⟨⟨a3,c3,us,cd,pl,rfl,HON,HPI⟩,hb3⟩; have E:=zB hb3; have z3:=hb3.size; have j1:=(hb3.cell (p:=⟨gS,k,none⟩) gl1).trans t0'; have j2:=(hb3.cell (p:=⟨gU,k*3+2,none⟩) gl2).trans v2; clear hb3) | ((with_reducible refine (zA hg).mono ?_); rintro e w3 ⟨⟨a3,c3,us,cd,pl,rfl,HON,HPI⟩,hb3⟩; have E:=zB hb3; have z3:=hb3.size; have j1:=(hb3.cell (p:=⟨gS,k,none⟩) gl3).trans t0n; have j2:=(hb3.cell (p:=⟨gU,k*3+2,none⟩) gl4).trans v2n; have x0:w3.cell? ⟨wr.heap.size,0,none⟩=some (.slice none 0 0):=(hb3.cell (p:=⟨wr.heap.size,0,none⟩) gl5).trans (zA hx); have x1:w3.frozen? ⟨wr.heap.size,0,none⟩=false:=(hb3.frozen (p:=⟨wr.heap.size,0,none⟩) gl5).trans (zA hp); clear hb3))))
    all_goals
     first
     | (
      obtain ⟨W3,K⟩:∃ W3,W3=w3.alloc (.cells #[.slice a3 us.length c3] 125):=⟨_,rfl⟩
      rw [<- K]
      have C:Below wr.heap.size wr W3:=by rw [K]; exact ((yG _ _).drew.trans ((zA E).mono (yh _))).alloc (by simpa using z3) _
      have hv:=zB (show ZU W3 wr.heap.size a3 us by rw [K]; exact (zA HON).step (zC _ _))
      obtain ⟨X,hX⟩:∃ X,X=w3.heap.size:=⟨_,rfl⟩
      have y0:W3.cell? ⟨X,0,none⟩=some (.slice a3 us.length c3):=by rw [K,hX]; simp [go_sem]
      rw [<- hX]
      clear K hX)
     | (
      obtain ⟨W3,K⟩:∃ W3,W3=w3.setCell ⟨wr.heap.size,0,none⟩ (.slice a3 us.length c3):=⟨_,rfl⟩
      rw [<- K]
      have C:Below wr.heap.size wr W3:=by rw [K]; exact ((zC _ _).drew.trans ((zA E).mono (by simp))).setCell (p:=⟨wr.heap.size,0,none⟩) (yh _) _
      have hv:=zB (show ZU W3 wr.heap.size a3 us by rw [K]; exact ((zA HON).grown (zf w3 wr.heap.size 0 _) (fun q e=>by injection e with e; simp; omega)).base (by simp))
      have y0:W3.cell? ⟨wr.heap.size,0,none⟩=some (.slice a3 us.length c3):=by rw [K]; exact yo _ _ _ x0
      clear x0 x1 K)
     have G:=zB C
     have r:=zB (show zIX W3 w.heap.size (.slice av tv.length cv) tv from zFQ (zA y).row (fun g e=>C.block g (World.ownsRow.lt (zA y).row g e).2))
     have zW3:=C.size
     clear C hg ho F HON E z3 j1 j2 gl1 gl2 gl3 gl4 gl5 t0n v2n hx hp nn1 nn2
     by_cases hc:cd=0
     ·subst hc
      go_wp2_with (first | (at_builtin; refine yJ _ rfl (.tmp 54) (.tmp 56) 83 rfl w.heap.size 125 i0 _ 1 24 Tryz.underlying83 (zA HI) (zA HZ).1 (zA HZ).2.1 (zA HZ).2.2 rfl (by decide) _ tv.length tv rfl (zFQ (zA r) (fun g e=>(zC W3 _).block g (World.ownsRow.lt (zA r) g e).2)) ⟨W3.heap.size,0,none⟩ 1 1 [.slice a3 us.length c3] rfl rfl (fun j u hj=>(by cases j with | zero=>(simp at hj; subst hj; simp [go_sem]) | succ j=>simp at hj)) (fun u hu=>(by simp at hu; subst hu; rfl)) ?b1 ?b2 ?b3 ?next))
      case b1=>unfold maxLen; omega
      case b2=>omega
      case b3=>simp; omega
      case next=>
       intro v4 w4 P H M J
       have n:zIX w4 w.heap.size v4 (tv++[.slice a3 us.length c3]):=by
        unfold zIX
        rw [ym]
        exact P
       have T:∀ q,(Value.slice av tv.length cv).ownBlock=some q->w.heap.size<=q/\q<wr.heap.size:=fun q e=>World.ownsRow.lt (zA y).row q e
       have Q:Below wr.heap.size wr (W3.alloc (.cells #[.slice a3 us.length c3] 125)):=(zA G).alloc (zA G).size _
       have hK:=Q.size
       have hN:=H.size
       have HN:=zB ((zA y).step (by have:=Y.size; omega) Q.size (fun q _ h=>Q.block q h) ((zA hv).step (zC _ _)) H n (J.imp id (fun e=>⟨_,e,by simp⟩)))
       have hD:=zB ((zA d).step ((zA h0) _ _ ⟨_,zA HPI⟩))
       have h7:=zB (show w2.grownBy w4 (some w.heap.size) from ⟨H.os.trans (Q.os.trans (zA HG).os),H.tape.trans (Q.tape.trans (zA HG).tape),H.output.trans (Q.output.trans (zA HG).output),by omega,fun q hq S=>(H.block q (by omega) (fun e=>by rcases (zA z) q e.symm with x | x; exact S (by rw [x]); omega)).trans ((Q.block q (by omega)).trans ((zA HG).block q hq S))⟩)
       have h3:=zB (show ∀ q,v4.ownBlock=some q->q=w.heap.size\/w2.heap.size<=q from fun q e=>by
        rcases J with h | h
        ·exact (zA z) q (h.symm.trans e)
        ·rw [h] at e; injection e with e; exact yR (by omega))
       have hF:=zB (show Below w.heap.size w w4 from (Y.trans (Q.mono Y.size)).grown H (by have:=Y.size; omega) (fun q e=>(T q e).1))
       obtain ⟨a4,c4,rfl⟩:∃ a c,v4 = .slice a (tv++[Value.slice a3 us.length c3]).length c:=zO n
       clear P H M J n T Q
       go_wp2_with fail
       exact ⟨⟨k+1,_,_,_,by omega,by go_num,HN,hD,h7,h3,zA hF⟩,by simp [intOf]; omega⟩
     ·have h8:(cd != 0)=true:=by simpa using hc
      have hJ:=(zA HPI).code
      have HR:=zB (show zBv ms [] (10+cd) k from ⟨tabs,0,wh0,zA HL,yR ⟨rfl,U,zA HUO,yQ ⟨k,us,cd,out,A,zA d,(zA h0) _ _ ⟨_,zA HPI⟩,hc,rfl,rfl,rfl⟩⟩⟩)
      have s:=zB (Y.trans ((zA G).mono Y.size))
      clear hc
      go_wp2_with fail
      go_ret3
      exact ⟨_,[],_,_,rfl,HR,zB (zHY _ _ _),(zA s).alloc (zA s).size _⟩
   ·obtain rfl:k=ms.length:=by omega
    have HR:=zB (show zBv ms out 0 0 from ⟨tabs,0,wh0,zA HL,yR ⟨rfl,U,zA HUO,yR ⟨zA d,rfl,rfl⟩⟩⟩)
    have hG:=zB (zA y).res
    clear A
    go_wp2_with fail
    go_ret3
    exact ⟨_,out,0,0,rfl,HR,hG,Y⟩
 ·have h8:(cd0 != 0)=true:=by simpa using hc
  have HR:=zB (show zBv ms [] cd0 wh0 from ⟨tabs,cd0,wh0,zA HL,yQ ⟨hc,rfl,rfl,rfl⟩⟩)
  clear hm1 hc hb1 I HE
  go_wp2_with fail
  go_ret3
  exact ⟨_,[],_,_,rfl,HR,zB (zHY _ _ _),zA V⟩
end Go.Proofs.YtgbkgkdpdfdokaaGreatDoor
