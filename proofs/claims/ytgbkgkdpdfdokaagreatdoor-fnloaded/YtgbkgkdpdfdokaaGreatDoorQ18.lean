import Derived.Test.YtgbkgkdpdfdokaaGreatDoorQ17
namespace Go.Proofs.YtgbkgkdpdfdokaaGreatDoor
set_option linter.all false
set_option maxHeartbeats 16000000
set_option maxRecDepth 100000
open Go.RowKit
theorem zP7:(Tryz.prog.info? 33).map (fun i=>(i.zero,i.size,i.bytes))=some (some (.agg #[.slice none 0 0]),1,24):=by kernel_rfl
def zP8 (w:JY) (ms:List zF) (U:List UnR) (e:Ending) (w':JY):Prop:=∃ (g:Nat) (S:Nat->List OpR),e = .returned (.slice (some ⟨g,0,none⟩) ms.length ms.length)/\w.heap.size<=g/\g<w'.heap.size/\Hid (ScE ms U S)/\Hid (∀ i,i<ms.length->(∀ o∈S i,o∈ZS U)/\∃ v,w'.cell? ⟨g,i,none⟩=some v/\zCV w' v (S i)/\∀ q,v.ownBlock=some q->w.heap.size<=q)/\Below w.heap.size w w'
theorem zOY (w:JY) (n:Nat) (j:Nat) (hj:j<n):(w.alloc (.cells (madeCells #[.slice none 0 0] n) 33)).cell? ⟨w.heap.size,j,none⟩=some (.slice none 0 0):=by
 have h:=yz (w:=w.alloc (.cells (madeCells #[.slice none 0 0] n) 33)) (b:=w.heap.size) (heap_alloc_new w _) 0 n
 have h1:=h j (.slice none 0 0) (by
  simp only [madeCells]
  simp [hj,Nat.mod_one])
 simpa using h1
theorem zJC (a:Option Addr) (c0 gU cU:Nat) (ms:List zF) (vs:List UvR) (U:List UnR) (w:JY) (rk:Nat->Nat) (hn:ms.length<=100) (hM:zEJ w a ms) (Hg:zLN w gU vs) (H9:gU<w.heap.size) (Hp:zCB w w.heap.size vs U) (hp:Zd ms U) (Hh:vs.length=ms.length) (h4:∀ i,i<ms.length->¬ B4 ms U i)
  (hF:∀ i,i<ms.length->∀ u∈(atU U i).us,rk (nmF ms u)<rk i) (hB:∀ i,i<ms.length->rk i<ms.length) :
  Calls Tryz.prog 16 #[.slice a ms.length c0,.slice (some ⟨gU,0,none⟩) ms.length cU] w (zP8 w ms U):=by
 obtain ⟨n,Hd⟩:∃ n,n=ms.length:=⟨_,rfl⟩
 have hA:∀ W:JY,(Instr.makeSlice 25 (.int .i64 (n:Int)) (.int .i64 (n:Int))).run Tryz.prog W = .ok (.slice (some ⟨W.heap.size,0,none⟩) n n) (W.alloc (.cells (madeCells #[.slice none 0 0] n) 33)):=by
  obtain ⟨inf,hi,hz⟩:=Option.map_eq_some_iff.1 zP7
  simp only [Prod.mk.injEq] at hz
  obtain ⟨hz,hI,hN⟩:=hz
  intro W
  have:=run_make (P:=Tryz.prog) W 25 33 inf _ Tryz.underlying25 hi hz .i64 .i64 n n (by omega) (by omega) (by rw [hN]; omega) (by omega)
  simpa [hI,Value.cells] using this
 have hH:∀ W:JY,(Instr.makeSlice 50 (.int .i64 (n:Int)) (.int .i64 (n:Int))).run Tryz.prog W = .ok (.slice (some ⟨W.heap.size,0,none⟩) n n) (W.alloc (.cells (madeCells #[.bool false] n) 4)):=by
  obtain ⟨inf,hi,hz⟩:=Option.map_eq_some_iff.1 zIU
  simp only [Prod.mk.injEq] at hz
  obtain ⟨hz,hI,hN⟩:=hz
  intro W
  have:=run_make (P:=Tryz.prog) W 50 4 inf _ Tryz.underlying50 hi hz .i64 .i64 n n (by omega) (by omega) (by rw [hN]; omega) (by omega)
  simpa [hI,Value.cells] using this
 have hE:=zB (show (ZS U).length<=400000 from hp.all hn)
 have HM:=zB hM
 have HA:=zB Hg
 have HD:=zB Hp
 have Hq:=zB Hh
 have Hb:=zB (fun u=>zDa a c0 ms u)
 have Hl:=zB (show ∀ i,i<ms.length->∀ u∈(atU U i).us,nmF ms u<ms.length from fun i hi u hu=>by
  have kc:=zFO ms u
  by_cases e:nmF ms u<ms.length
  ·exact e
  ·refine yP ⟨u,hu,fun j hj=>?_⟩ (h4 i hi)
   exact (Z5 ms u).2 j (by omega))
 have hS:=zB (show ∀ i,i<ms.length->(atU U i).us.length<=20001/\(atU U i).os.length<=4000 from fun i hi=>⟨(zCc (hp.2 i hi)).1,(zEp (hp.2 i hi)).1⟩)
 have Hw:=zB hF
 have Hv:=zB hB
 have hl:=zB hp.1
 rw [<- Hd] at Hb Hl hS Hq Hw Hv hl hn ⊢
 have A:=zB Hd
 clear hM Hg Hp hp Hh h4 Hd hF hB
 have H1:=hA w
 have H7:=hH (w.alloc (.cells (madeCells #[.slice none 0 0] n) 33))
 clear hA hH
 go_enter Tryz.func16,Tryz.ntmps16
 go_wp2_with fail
 clear H1 H7
 obtain ⟨W0,hY⟩:∃ W0,W0=(w.alloc (.cells (madeCells #[.slice none 0 0] n) 33)).alloc (.cells (madeCells #[.bool false] n) 4):=⟨_,rfl⟩
 obtain ⟨O,hO⟩:∃ O,O=w.heap.size:=⟨_,rfl⟩
 obtain ⟨D,hD⟩:∃ D,D=w.heap.size+1:=⟨_,rfl⟩
 have Hu:=zB (show zJB w n O D (fun _=>false) (fun _=>[]) W0 by
  rw [hY,hO,hD]
  refine ⟨?_,fun i hi=>⟨.slice none 0 0,?_,?_,fun e=>by cases e⟩,(zC _ _).alloc (by simp) _,yh _,by omega,by simp; omega,by omega⟩
  ·have:=zIS (w.alloc (.cells (madeCells #[.slice none 0 0] n) 33)) n
   simpa using this
  ·exact ((zC (w.alloc (.cells (madeCells #[.slice none 0 0] n) 33)) _).cell (p:=⟨w.heap.size,i,none⟩) (by simp)).trans (zOY w n i hi)
  ·simp [go_sem])
 rw [<- hY,<- hD,<- hO]
 clear hY
 have HK:w.heap.size<=O:=by omega
 have HN:O≠D:=by omega
 clear hO hD
 go_loopw [8] (fun ir wr=>∃ (r:Nat) (d:Nat->Bool) (T:Nat->List OpR),r<=n/\ir = .int .i64 (r:Int)/\Hid (zJB w n O D d T wr)/\Hid (zHL ms U d T)/\Hid (zBO n rk d r 0)) (fun ir _=>n-(intOf ir).toNat)
 case atStart=>exact ⟨0,fun _=>false,fun _=>[],yj _,rfl,Hu,zB (fun i hi e=>by cases e),zB (fun j hj h=>by omega)⟩
 case round=>
  clear Hu
  obtain ⟨r,d0,T0,hr,rfl,HS,HE,V⟩:=hrel
  obtain ⟨wo,rfl⟩:∃ wo,wo=wr:=⟨_,rfl⟩
  by_cases HQ:r<n
  ·have HZ:(r:Int)<(n:Int):=by omega
   go_wp2_with fail
   go_loopw [9] (fun ii wr=>∃ (k:Nat) (d:Nat->Bool) (T:Nat->List OpR),k<=n/\ii = .int .i64 (k:Int)/\Hid (zJB w n O D d T wr)/\Hid (zHL ms U d T)/\Hid (zBO n rk d r k)) (fun ii _=>n-(intOf ii).toNat)
   case atStart=>exact ⟨0,d0,T0,yj _,rfl,HS,HE,V⟩
   case round=>
    clear HS HE V
    obtain ⟨k,d,T,hk,rfl,HS,HE,V⟩:=hrel
    obtain ⟨wi,rfl⟩:∃ wi,wi=wr:=⟨_,rfl⟩
    by_cases X:k<n
    ·have HU:(k:Int)<(n:Int):=by omega
     have Hk:=(zA HS).bel.size
     have Hc:=(zA HS).hOl
     have HV:=(zA HS).dn.1
     obtain ⟨us,hw⟩:∃ us,us=(atU U k).us:=⟨_,rfl⟩
     obtain ⟨os,hZ⟩:∃ os,os=(atU U k).os:=⟨_,rfl⟩
     have kb:us.length<=20001:=by rw [hw]; exact ((zA hS) k X).1
     have ka:os.length<=4000:=by rw [hZ]; exact ((zA hS) k X).2
     have f:=zB (show ∀ u∈us,nmF ms u<n by rw [hw]; exact (zA Hl) k X)
     have Ho:=zB (show ∀ u∈us,rk (nmF ms u)<rk k by rw [hw]; exact (zA Hw) k X)
     have h7:=zB hw
     have He:=zB hZ
     clear hw hZ
     have Hx:k<vs.length:=by rw [zA Hq]; exact X
     have hy:=zB (show ∀ W:JY,Below w.heap.size w W->W.cell? ⟨gU,k*3,none⟩=some (atV vs k).vu/\W.cell? ⟨gU,k*3+1,none⟩=some (atV vs k).vo/\zq W (atV vs k).vu us/\zt W (atV vs k).vo os/\(∀ g,(atV vs k).vu.ownBlock=some g->g<w.heap.size) from fun W hb=>by
      obtain ⟨v0,v1,_⟩:=((zA HA).below hb H9) k Hx
      have hx:=(zA HD).belowB hb (yh _)
      obtain ⟨⟨q1,q2,_⟩,q3,_⟩:=hx.2 k Hx
      rw [<- zA h7] at q1
      rw [<- zA He] at q2
      exact ⟨v0,v1,q1,q2,q3⟩)
     obtain ⟨b0,f0⟩:=(zA HS).dn.2 k X
     obtain ⟨R0,H5⟩:∃ R0:Bool,R0=!d k:=⟨_,rfl⟩
     have H3:=zB (show rdy ms d k us 0=!d k by simp [rdy])
     clear H5 R0
     go_wp2_with fail
     go_loopw [10,11] (fun rv ik wr=>∃ q:Nat,q<=us.length/\ik = .int .i64 (q:Int)/\rv = .bool (rdy ms d k us q)/\wr=wi) (fun _ ik _=>us.length-(intOf ik).toNat)
     case atStart=>exact ⟨0,yj _,rfl,by rw [zA H3],rfl⟩
     case round=>
      obtain ⟨q,hq,rfl,rfl,rfl⟩:=hrel
      obtain ⟨v0,v1,C,hX,E⟩:=(zA hy) wr (zA HS).bel
      by_cases ht:q<us.length
      ·have H0:(q:Int)<(us.length:Int):=by omega
       obtain ⟨gw,cw,hv,HB,hc⟩:=C.lt (by omega)
       rw [hv] at v0
       obtain ⟨u,hu⟩:∃ u,us[q]?=some u:=⟨_,yn ht⟩
       have k0:=hc q u hu
       have G:u∈us:=yy hu
       have J:=zB (zOX (ms:=ms) (d:=d) (i:=k) hu)
       obtain ⟨m,hm⟩:∃ m,m=nmF ms u:=⟨_,rfl⟩
       rw [<- hm] at J
       have ha:m<n:=by rw [hm]; exact (zA f) u G
       have HH:(m:Int)<(n:Int):=by omega
       obtain ⟨m0,_⟩:=(zA HS).dn.2 m ha
       cases hrd:rdy ms d k us q
       ·rw [hrd] at J
        have HX:=zB (show rdy ms d k us (q+1)=false by rw [zA J]; rfl)
        clear hc C hu G hm hv v1 hX E
        go_wp2_with fail
        exact ⟨⟨q+1,by omega,by go_num,by rw [zA HX],trivial⟩,by simp [intOf]; omega⟩
       ·rw [hrd] at J
        have HX:=zB (show rdy ms d k us (q+1)=d m by rw [zA J]; simp)
        have Y:=zB ((zA Hb) u wr (by omega) ((zA HM).below (zA HS).bel))
        have hh:nmI ms u=(m:Int):=by
         unfold nmI
         rw [<- hm,<- zA A,yO ha]
        rw [hh] at Y
        clear hc C hu G hm hv v1 hX E hh
        go_wp2_with (first | (go_at_call 13; (with_reducible refine (zA Y).mono ?_); rintro e w2 ⟨rfl,hx⟩; obtain rfl:=hx.symm; clear hx))
        exact ⟨⟨q+1,by omega,by go_num,by rw [zA HX],trivial⟩,by simp [intOf]; omega⟩
      ·obtain ⟨aw,cw,hv,_⟩:=C
       rw [hv] at v0
       have M:q=us.length:=by omega
       obtain ⟨ao,co,h8,_⟩:=hX
       rw [h8] at v1
       have hV:=zB (show zt wr (.slice ao os.length co) os from h8 ▸ ((zA hy) wr (zA HS).bel).2.2.2.1)
       cases hrd:rdy ms d k us q
       ·
        have Hj:=zB (show zBO n rk d r (k+1) from (zA V).next (fun HW=>by
         rw [M] at hrd
         unfold rdy at hrd
         rw [List.take_length] at hrd
         cases hd:d k
         ·rw [hd] at hrd
          have Hr:us.all (fun u=>d (nmF ms u))=true:=by
           rw [List.all_eq_true]
           intro u hu
           exact (zA V) _ ((zA f) u hu) (yQ (by have:=(zA Ho) u hu; omega))
          rw [Hr] at hrd
          cases hrd
         ·rfl))
        clear hv h8 M hV v1 E V
        go_wp2_with fail
        exact ⟨⟨k+1,d,T,by omega,by go_num,HS,HE,Hj⟩,by simp [intOf]; omega⟩
       ·have hd:d k=false:=by
         unfold rdy at hrd
         cases h:d k
         ·rfl
         ·rw [h] at hrd; cases hrd
        have R:=zB (show ∀ u∈us,d (nmF ms u)=true from fun u hu=>by
         rw [M] at hrd
         unfold rdy at hrd
         rw [List.take_length,hd] at hrd
         exact List.all_eq_true.1 (by simpa using hrd) u hu)
        have H8:=zB hd
        have z:=zB (zEx (.slice ao os.length co) (.slice none 0 0) os [] os (zB (by simp)) wr (by simp; omega) (zA hV) ⟨none,0,rfl,yQ ⟨rfl,rfl,rfl⟩⟩)
        have h9:zAR os os.length=zV [] os:=by rw [zI6 _ _ (yh _),List.take_length]
        rw [h9] at z
        obtain ⟨acc0,N⟩:∃ acc0,acc0=zV [] os:=⟨_,rfl⟩
        rw [<- N] at z
        have I:=zB N
        clear hv h8 M hV E h9 N hd hrd b0 f0
        go_wp2_with fail
        (with_reducible refine (zA z).mono ?_)
        rintro e w1 ⟨⟨h1,c1,rfl,hh1,hf1⟩,hb1⟩
        have z1:=hb1.size
        obtain ⟨B12,B⟩:∃ B12,B12=w1.heap.size:=⟨_,rfl⟩
        obtain ⟨W12,b⟩:∃ W12,W12=w1.alloc (.cells #[.slice (some ⟨h1,0,none⟩) acc0.length c1] 33):=⟨_,rfl⟩
        have t0:W12.cell? ⟨B12,0,none⟩=some (.slice (some ⟨h1,0,none⟩) acc0.length c1):=by rw [b,B]; simp [go_sem]
        have t1:W12.frozen? ⟨B12,0,none⟩=false:=by rw [b,B]; simp [go_sem]
        have hG:=zB (show zt W12 (.slice (some ⟨h1,0,none⟩) acc0.length c1) acc0 by rw [b]; exact ⟨_,_,rfl,yR ⟨h1,rfl,by have:=hf1.1; simp; omega,hf1.ops.below (zC _ _) hf1.1⟩⟩)
        have z12:B12+1<=W12.heap.size:=by rw [b,B]; simp
        have HI:wr.heap.size<=B12:=by omega
        have Hi:h1<B12:=by rw [B]; exact hf1.1
        have Hy:wr.heap.size<=h1:=hh1
        obtain ⟨wi',rfl⟩:∃ wi',wi'=wr:=⟨_,rfl⟩
        have Ht:=zB b
        have Hz:=zB (show Below wi'.heap.size wi' W12 by rw [b]; exact hb1.trans ((zC _ _).mono z1))
        clear hf1 hb1 hh1 z v0 v1
        go_wp2_with fail
        rw [<- zA Ht,<- B]
        clear Ht B z1
        go_loopw [13] (fun ik wr=>∃ (q h c:Nat) (y:List OpR),q<=us.length/\ik = .int .i64 (q:Int)/\Hid (y=Za (nmF ms) T acc0 (us.take q))/\wr.cell? ⟨B12,0,none⟩=some (.slice (some ⟨h,0,none⟩) y.length c)/\wr.frozen? ⟨B12,0,none⟩=false/\Hid (zt wr (.slice (some ⟨h,0,none⟩) y.length c) y)/\(h≠B12/\wi'.heap.size<=h)/\Below B12 W12 wr) (fun ik _=>us.length-(intOf ik).toNat)
        case atStart=>exact ⟨0,h1,c1,acc0,yj _,rfl,zB (by simp [Za]),t0,t1,hG,⟨by omega,by omega⟩,yG _ _⟩
        case round=>
         clear t0 t1 hG Hi Hy
         obtain ⟨q,h,c,y,hq,rfl,F,t0,t1,Ha,⟨HT,HY⟩,t⟩:=hrel
         have Z:=(zA Hz).trans (t.mono HI)
         have z12':B12+1<=wr.heap.size:=yr z12 t.size
         have h2:Below w.heap.size w wr:=(zA HS).bel.trans (Z.mono Hk)
         obtain ⟨v0,v1,C,_,E⟩:=(zA hy) wr h2
         have hJ:=zB (show y.Nodup/\y.length<=400000 by
          have h1:y.Nodup:=by rw [zA F,zA I]; exact zDU _ _ _ _ (zAK _ _ (by simp))
          refine ⟨h1,yr (zAv y (ZS U) h1 (fun o ho=>?_)) (zA hE)⟩
          rw [zA F,zA I,zDs,ZZ] at ho
          rcases ho with (ho | ho) | ⟨u,hu,ho⟩
          ·cases ho
          ·exact List.mem_flatMap.2 ⟨atU U k,zEq (by rw [zA hl]; exact X),by rw [<- zA He]; exact ho⟩
          ·have Hm:=List.mem_of_mem_take hu
           exact ((zA HE) _ (by rw [<- zA A]; exact (zA f) u Hm) ((zA R) u Hm)).2.2.2 o ho)
         by_cases ht:q<us.length
         ·have H0:(q:Int)<(us.length:Int):=by omega
          obtain ⟨gw,cw,hv,HB,hc⟩:=C.lt (by omega)
          have HR:gw<w.heap.size:=E gw (by rw [hv]; rfl)
          rw [hv] at v0
          obtain ⟨u,hu⟩:∃ u,us[q]?=some u:=⟨_,yn ht⟩
          have k0:=hc q u hu
          have G:u∈us:=yy hu
          obtain ⟨m,hm⟩:∃ m,m=nmF ms u:=⟨_,rfl⟩
          have ha:m<n:=by rw [hm]; exact (zA f) u G
          have HH:(m:Int)<(n:Int):=by omega
          have Hf:d m=true:=by rw [hm]; exact (zA R) u G
          obtain ⟨vT,o0,_,o1⟩:=(zA HS).cs m ha
          obtain ⟨hg,_⟩:=o1 Hf
          have hC:=hg.at'
          clear hg
          have l:=hC.below Z
          have hU:=(zA HE) m (by rw [<- zA A]; exact ha) Hf
          have kd:(T m).length<=400000:=yr (zAv (T m) (ZS U) hU.2.2.1 hU.2.2.2) (zA hE)
          obtain ⟨aT,cT,Hn,_⟩:=hC
          rw [Hn] at o0 l
          have o0':wr.cell? ⟨O,m,none⟩=some (.slice aT (T m).length cT):=(Z.cell (p:=⟨O,m,none⟩) Hc).trans o0
          have Y:=zB ((zA Hb) u wr.drew (by omega) ((zA HM).below h2.drew))
          have hh:nmI ms u=(m:Int):=by
           unfold nmI
           rw [<- hm,<- zA A,yO ha]
          rw [hh] at Y
          have s:=zB (zEx (.slice (some ⟨h,0,none⟩) y.length c) (.slice aT (T m).length cT) y (T m) (y++T m) (zB rfl) wr.drew (by have:=(zA hJ).2; omega) ((zA Ha).below (yG _ _).drew) (l.below (yG _ _).drew))
          rw [zPq (zA hJ).1] at s
          obtain ⟨H,L⟩:∃ H,H=zV y (T m):=⟨_,rfl⟩
          rw [<- L] at s
          have hs:=zB (show H=Za (nmF ms) T acc0 (us.take (q+1)) by rw [zLZ hu,<- zA F,L,hm])
          have Q:(fun W:World=>W.cell? ⟨gU,k*3,none⟩=some (.slice (some ⟨gw,0,none⟩) us.length cw)/\W.cell? ⟨gw,q,none⟩=some (.string u)/\W.cell? ⟨O,m,none⟩=some (.slice aT (T m).length cT)) wr.drew:=⟨v0,k0,o0'⟩
          have t0d:wr.drew.cell? ⟨B12,0,none⟩=some (.slice (some ⟨h,0,none⟩) y.length c):=t0
          have HP:w.heap.size<=wi'.heap.size:=Hk
          clear hc C hu G hm hv v1 E hh Hf o1 l hU Hn o0 L h2 Z F Ha hJ
          go_wp2_with fail
          refine wp_region_held_drew (S:=fun W:World=>W.cell? ⟨gU,k*3,none⟩=some (.slice (some ⟨gw,0,none⟩) us.length cw)/\W.cell? ⟨gw,q,none⟩=some (.string u)/\W.cell? ⟨O,m,none⟩=some (.slice aT (T m).length cT)) (by kernel_rfl) Q (fun _=>?_)
          refine yI (i:=1) (v:=?_) rfl (by kernel_rfl) (by kernel_rfl) (by kernel_rfl) (fun _ _ _ h=>h) (yQ ⟨by rfl,?_⟩) Q ?_
          rotate_left
          ·intro W hW; obtain ⟨s1,s2,s3⟩:=hW; simp only [yc,ya,yb]; go_simp; first | done | (with_reducible rfl)
          simp only [yc,ya,yb]
          simp only [Act.put,yd,ye,yf]
          refine yI (i:=2) (v:=?_) rfl (by kernel_rfl) (by kernel_rfl) (by kernel_rfl) (fun _ _ _ h=>h) (yQ ⟨by rfl,?_⟩) Q ?_
          rotate_left
          ·intro W hW; obtain ⟨s1,s2,s3⟩:=hW; simp only [yc,ya,yb]; go_simp; first | done | (with_reducible rfl)
          simp only [yc,ya,yb]
          simp only [Act.put,yd,ye,yf]
          refine yI (i:=3) (v:=?_) rfl (by kernel_rfl) (by kernel_rfl) (by kernel_rfl) (fun _ _ _ h=>h) (yQ ⟨by rfl,?_⟩) Q ?_
          rotate_left
          ·intro W hW; obtain ⟨s1,s2,s3⟩:=hW; simp only [yc,ya,yb]; go_simp; first | done | (with_reducible rfl)
          simp only [yc,ya,yb]
          simp only [Act.put,yd,ye,yf]
          refine yI (i:=4) (v:=?_) rfl (by kernel_rfl) (by kernel_rfl) (by kernel_rfl) (fun _ _ _ h=>h) (yQ ⟨by rfl,?_⟩) Q ?_
          rotate_left
          ·intro W hW; obtain ⟨s1,s2,s3⟩:=hW; simp only [yc,ya,yb]; go_simp; first | done | (with_reducible rfl)
          simp only [yc,ya,yb]
          simp only [Act.put,yd,ye,yf]
          refine yI (i:=5) (v:=?_) rfl (by kernel_rfl) (by kernel_rfl) (by kernel_rfl) (fun _ _ _ h=>h) (yQ ⟨by rfl,?_⟩) Q ?_
          rotate_left
          ·intro W hW; obtain ⟨s1,s2,s3⟩:=hW; simp only [yc,ya,yb]; go_simp; first | done | (with_reducible rfl)
          simp only [yc,ya,yb]
          simp only [Act.put,yd,ye,yf]
          refine yI (i:=6) (v:=?_) rfl (by kernel_rfl) (by kernel_rfl) (by kernel_rfl) (fun _ _ _ h=>h) (yQ ⟨by rfl,?_⟩) Q ?_
          rotate_left
          ·intro W hW; obtain ⟨s1,s2,s3⟩:=hW; simp only [yc,ya,yb]; go_simp; first | done | (with_reducible rfl)
          simp only [yc,ya,yb]
          simp only [Act.put,yd,ye,yf]
          refine yI (i:=7) (v:=?_) rfl (by kernel_rfl) (by kernel_rfl) (by kernel_rfl) (fun _ _ _ h=>h) (yQ ⟨by rfl,?_⟩) Q ?_
          rotate_left
          ·intro W hW; obtain ⟨s1,s2,s3⟩:=hW; simp only [yc,ya,yb]; go_simp; first | done | (with_reducible rfl)
          simp only [yc,ya,yb]
          simp only [Act.put,yd,ye,yf]
          refine yI (i:=8) (v:=?_) rfl (by kernel_rfl) (by kernel_rfl) (by kernel_rfl) (fun _ _ _ h=>h) (yQ ⟨by rfl,?_⟩) Q ?_
          rotate_left
          ·intro W hW; obtain ⟨s1,s2,s3⟩:=hW; simp only [yc,ya,yb]; go_simp; first | done | (with_reducible rfl)
          simp only [yc,ya,yb]
          simp only [Act.put,yd,ye,yf]
          refine yI (i:=9) (v:=?_) rfl (by kernel_rfl) (by kernel_rfl) (by kernel_rfl) (fun _ _ _ h=>h) (yQ ⟨by rfl,?_⟩) Q ?_
          rotate_left
          ·intro W hW; obtain ⟨s1,s2,s3⟩:=hW; simp only [yc,ya,yb]; go_simp; first | done | (with_reducible rfl)
          simp only [yc,ya,yb]
          simp only [Act.put,yd,ye,yf]
          refine yI (i:=10) (v:=?_) rfl (by kernel_rfl) (by kernel_rfl) (by kernel_rfl) (fun _ _ _ h=>h) (yQ ⟨by rfl,?_⟩) Q ?_
          rotate_left
          ·intro W hW; obtain ⟨s1,s2,s3⟩:=hW; simp only [yc,ya,yb]; go_simp; first | done | (with_reducible rfl)
          simp only [yc,ya,yb]
          simp only [Act.put,yd,ye,yf]
          refine yL (rs:=[0,11]) (by kernel_rfl) (by simp) ?_
          refine yE rfl (fun K hK=>?_) (yE rfl (fun K hK=>?_) yF)
          ·simp only [yc,ya,yb]
           go_simp
           refine hK.out _ _ Q (fun _=>?_)
           clear hK
           refine yL (rs:=[11]) (by kernel_rfl) (by simp) ?_
           refine yE rfl (fun K hK=>?_) yF
           simp only [yc,ya,yb]
           go_simp
           go_wp2_with ((go_at_call 13; (with_reducible refine (zA Y).mono ?_); rintro e w2 ⟨rfl,hx⟩; obtain rfl:=hx.symm; clear hx))
           refine hK.out _ _ Q (fun _=>?_)
           clear hK
           refine yI (i:=12) (v:=?_) rfl (by kernel_rfl) (by kernel_rfl) (by kernel_rfl) (fun _ _ _ h=>h) (yQ ⟨by rfl,?_⟩) Q ?_
           rotate_left
           ·intro W hW; obtain ⟨s1,s2,s3⟩:=hW; simp only [yc,ya,yb]; go_simp; first | done | (with_reducible rfl)
           simp only [yc,ya,yb]
           simp only [Act.put,yd,ye,yf]
           refine yI (i:=13) (v:=?_) rfl (by kernel_rfl) (by kernel_rfl) (by kernel_rfl) (fun _ _ _ h=>h) (yQ ⟨by rfl,?_⟩) Q ?_
           rotate_left
           ·intro W hW; obtain ⟨s1,s2,s3⟩:=hW; simp only [yc,ya,yb]; go_simp; first | done | (with_reducible rfl)
           simp only [yc,ya,yb]
           simp only [Act.put,yd,ye,yf]
           refine yL (rs:=[14]) (by kernel_rfl) (by simp) ?_
           refine yE rfl (fun K hK=>?_) yF
           simp only [yc,ya,yb]
           go_simp
           go_wp2_with ((go_at_call 29; (with_reducible refine (zA s).mono ?_); rintro e w3 ⟨⟨h3,c3,rfl,hh3,hf3⟩,hb3⟩; have z3:=hb3.size; have h0:=zB hf3; have hP:=zB hb3; have j1:=(hb3.cell (p:=⟨gU,k*3,none⟩) (by show gU<wr.heap.size; omega)).trans Q.1; have j2:=(hb3.cell (p:=⟨gw,q,none⟩) (by show gw<wr.heap.size; omega)).trans Q.2.1; have j3:=(hb3.cell (p:=⟨O,m,none⟩) (by show O<wr.heap.size; omega)).trans Q.2.2; have j4:=(hb3.cell (p:=⟨B12,0,none⟩) (by show B12<wr.heap.size; omega)).trans t0; have j5:=(hb3.frozen (p:=⟨B12,0,none⟩) (by show B12<wr.heap.size; omega)).trans t1; clear hf3 hb3))
           refine hK.out _ _ ⟨j1,j2,j3⟩ (fun hR=>?_)
           clear hK
           refine yL (rs:=[15]) (by kernel_rfl) (by simp) ?_
           refine yE rfl (fun K hK=>?_) yF
           simp only [yc,ya,yb]
           go_simp
           refine hK.out _ _ ⟨by rw [yg _ _ _ _ (fun x=>by injection x with x; omega)]; exact j1,by rw [yg _ _ _ _ (fun x=>by injection x with x; omega)]; exact j2,by rw [yg _ _ _ _ (fun x=>by injection x with x; omega)]; exact j3⟩ (fun _=>?_)
           clear hK
           refine wpAnyH_done (by kernel_rfl) ?_ _
           clear hR
           have hQ:=zB (show zt (w3.setCell ⟨B12,0,none⟩ (.slice (some ⟨h3,0,none⟩) H.length c3)) (.slice (some ⟨h3,0,none⟩) H.length c3) H from (show zt w3 (.slice (some ⟨h3,0,none⟩) H.length c3) H from ⟨_,_,rfl,yR ⟨h3,rfl,(zA h0).1,(zA h0).ops⟩⟩).set B12 0 _ (fun g e=>by have e':h3=g:=(by simpa [Value.ownBlock] using e); simp at hh3; omega))
           have n0:(w3.setCell ⟨B12,0,none⟩ (.slice (some ⟨h3,0,none⟩) H.length c3)).cell? ⟨B12,0,none⟩=some (.slice (some ⟨h3,0,none⟩) H.length c3):=yo _ _ _ j4
           have n1:(w3.setCell ⟨B12,0,none⟩ (.slice (some ⟨h3,0,none⟩) H.length c3)).frozen? ⟨B12,0,none⟩=false:=(yq _ _ _ _).trans j5
           have he:Below B12 W12 (w3.setCell ⟨B12,0,none⟩ (.slice (some ⟨h3,0,none⟩) H.length c3)):=(t.drew.trans ((zA hP).mono (by show B12<=wr.heap.size; omega))).setCell (p:=⟨B12,0,none⟩) (yh _) _
           have hf:h3≠B12/\wi'.heap.size<=h3:=by simp at hh3; omega
           clear j1 j2 j3 j4 j5 Q t0 t1 hh3
           go_wp2_with fail
           exact ⟨⟨q+1,h3,c3,H,by omega,by go_num,hs,n0,n1,hQ,hf,he⟩,by simp [intOf]; omega⟩
          ·simp only [yc,ya,yb]
           go_simp
           go_wp2_with ((go_at_call 13; (with_reducible refine (zA Y).mono ?_); rintro e w2 ⟨rfl,hx⟩; obtain rfl:=hx.symm; clear hx))
           refine hK.out _ _ Q (fun _=>?_)
           clear hK
           refine yI (i:=12) (v:=?_) rfl (by kernel_rfl) (by kernel_rfl) (by kernel_rfl) (fun _ _ _ h=>h) (yQ ⟨by rfl,?_⟩) Q ?_
           rotate_left
           ·intro W hW; obtain ⟨s1,s2,s3⟩:=hW; simp only [yc,ya,yb]; go_simp; first | done | (with_reducible rfl)
           simp only [yc,ya,yb]
           simp only [Act.put,yd,ye,yf]
           refine yI (i:=13) (v:=?_) rfl (by kernel_rfl) (by kernel_rfl) (by kernel_rfl) (fun _ _ _ h=>h) (yQ ⟨by rfl,?_⟩) Q ?_
           rotate_left
           ·intro W hW; obtain ⟨s1,s2,s3⟩:=hW; simp only [yc,ya,yb]; go_simp; first | done | (with_reducible rfl)
           simp only [yc,ya,yb]
           simp only [Act.put,yd,ye,yf]
           refine yL (rs:=[0]) (by kernel_rfl) (by simp) ?_
           refine yE rfl (fun K hK=>?_) yF
           simp only [yc,ya,yb]
           go_simp
           refine hK.out _ _ Q (fun _=>?_)
           clear hK
           refine yL (rs:=[14]) (by kernel_rfl) (by simp) ?_
           refine yE rfl (fun K hK=>?_) yF
           simp only [yc,ya,yb]
           go_simp
           go_wp2_with ((go_at_call 29; (with_reducible refine (zA s).mono ?_); rintro e w3 ⟨⟨h3,c3,rfl,hh3,hf3⟩,hb3⟩; have z3:=hb3.size; have h0:=zB hf3; have hP:=zB hb3; have j1:=(hb3.cell (p:=⟨gU,k*3,none⟩) (by show gU<wr.heap.size; omega)).trans Q.1; have j2:=(hb3.cell (p:=⟨gw,q,none⟩) (by show gw<wr.heap.size; omega)).trans Q.2.1; have j3:=(hb3.cell (p:=⟨O,m,none⟩) (by show O<wr.heap.size; omega)).trans Q.2.2; have j4:=(hb3.cell (p:=⟨B12,0,none⟩) (by show B12<wr.heap.size; omega)).trans t0; have j5:=(hb3.frozen (p:=⟨B12,0,none⟩) (by show B12<wr.heap.size; omega)).trans t1; clear hf3 hb3))
           refine hK.out _ _ ⟨j1,j2,j3⟩ (fun hR=>?_)
           clear hK
           refine yL (rs:=[15]) (by kernel_rfl) (by simp) ?_
           refine yE rfl (fun K hK=>?_) yF
           simp only [yc,ya,yb]
           go_simp
           refine hK.out _ _ ⟨by rw [yg _ _ _ _ (fun x=>by injection x with x; omega)]; exact j1,by rw [yg _ _ _ _ (fun x=>by injection x with x; omega)]; exact j2,by rw [yg _ _ _ _ (fun x=>by injection x with x; omega)]; exact j3⟩ (fun _=>?_)
           clear hK
           refine wpAnyH_done (by kernel_rfl) ?_ _
           clear hR
           have hQ:=zB (show zt (w3.setCell ⟨B12,0,none⟩ (.slice (some ⟨h3,0,none⟩) H.length c3)) (.slice (some ⟨h3,0,none⟩) H.length c3) H from (show zt w3 (.slice (some ⟨h3,0,none⟩) H.length c3) H from ⟨_,_,rfl,yR ⟨h3,rfl,(zA h0).1,(zA h0).ops⟩⟩).set B12 0 _ (fun g e=>by have e':h3=g:=(by simpa [Value.ownBlock] using e); simp at hh3; omega))
           have n0:(w3.setCell ⟨B12,0,none⟩ (.slice (some ⟨h3,0,none⟩) H.length c3)).cell? ⟨B12,0,none⟩=some (.slice (some ⟨h3,0,none⟩) H.length c3):=yo _ _ _ j4
           have n1:(w3.setCell ⟨B12,0,none⟩ (.slice (some ⟨h3,0,none⟩) H.length c3)).frozen? ⟨B12,0,none⟩=false:=(yq _ _ _ _).trans j5
           have he:Below B12 W12 (w3.setCell ⟨B12,0,none⟩ (.slice (some ⟨h3,0,none⟩) H.length c3)):=(t.drew.trans ((zA hP).mono (by show B12<=wr.heap.size; omega))).setCell (p:=⟨B12,0,none⟩) (yh _) _
           have hf:h3≠B12/\wi'.heap.size<=h3:=by simp at hh3; omega
           clear j1 j2 j3 j4 j5 Q t0 t1 hh3
           go_wp2_with fail
           exact ⟨⟨q+1,h3,c3,H,by omega,by go_num,hs,n0,n1,hQ,hf,he⟩,by simp [intOf]; omega⟩
         ·have M:q=us.length:=by omega
          obtain ⟨aw,cw,hv,_⟩:=C
          rw [hv] at v0
          have HX:=zB (show y=Za (nmF ms) T (zV [] (atU U k).os) (atU U k).us by
           rw [zA F,M,List.take_length,zA I,zA He,zA h7])
          have h5:=zB ((zA HS).below Z)
          obtain ⟨vO,o0,o1,_⟩:=(zA h5).cs k X
          obtain ⟨d0',d1'⟩:=(zA h5).dn.2 k X
          have HL:=zB ((zA h5).done X (zCV.of (zA Ha) ⟨h,rfl⟩) (fun g e=>by have e':h=g:=(by simpa [Value.ownBlock] using e); omega))
          have H4:=zB ((zA HE).step (by rw [zA hl,zA A]) (by rw [<- zA A]; exact X) (zA H8) (by rw [<- zA h7,<- zA A]; exact zA f) (by rw [<- zA h7]; exact zA R) (zA HX))
          have H2:=zB (show zBO n rk (upB d k) r (k+1) from (zA V).up.next (fun _=>by simp [upB]))
          have HO:D≠O:=fun e=>HN e.symm
          clear M hv v1 E h5 Z h2
          go_wp2_with fail
          exact ⟨⟨k+1,upB d k,upT T k y,by omega,by go_num,HL,H4,H2⟩,by simp [intOf]; omega⟩
    ·have Hs:k=n:=by omega
     have HG:=zB (show zBO n rk d (r+1) 0 from (by rw [Hs] at V; exact (zA V).round))
     clear Hs
     go_wp2_with fail
     exact ⟨⟨r+1,d,T,by omega,by go_num,HS,HE,HG⟩,by simp [intOf]; omega⟩
  ·have HJ:r=n:=by omega
   have h6:=zB (show ∀ i,i<n->d0 i=true from fun i hi=>(zA V) i hi (yQ (by have:=(zA Hv) i hi; omega)))
   have HF:=zB (show ScE ms U T0 from fun i hi=>((zA HE) i hi ((zA h6) i (by rw [zA A]; exact hi))).2.1)
   have HC:=zB (show ∀ i,i<n->(∀ o∈T0 i,o∈ZS U)/\∃ v,wo.cell? ⟨O,i,none⟩=some v/\zCV wo v (T0 i)/\∀ q,v.ownBlock=some q->w.heap.size<=q from fun i hi=>by
    obtain ⟨v,h1,_,h3⟩:=(zA HS).cs i hi
    exact ⟨((zA HE) i (by rw [<- zA A]; exact hi) ((zA h6) i hi)).2.2.2,v,h1,(h3 ((zA h6) i hi)).1,fun q e=>((h3 ((zA h6) i hi)).2 q e).2.2⟩)
   have H6:=(zA HS).bel
   have Hc:=(zA HS).hOl
   clear HJ
   go_wp2_with fail
   go_ret
   have e:=zA A
   subst e
   exact ⟨O,T0,rfl,HK,Hc,HF,HC,H6⟩
theorem zKR:zR [] 0:=yR ⟨by simp,yR ⟨fun j h=>by simp at h,yR ⟨fun ⟨i,j,_,h,_⟩=>by simp at h,yR ⟨rfl,fun ⟨i,j,_,h,_⟩=>by simp at h⟩⟩⟩⟩
theorem zF8 (a:Option Addr) (c:Nat) (w:JY) :
  Calls Tryz.prog 17 #[.agg #[.slice a 0 c]] w fun e w'=>e = .returned (.int .i64 0)/\Below w.heap.size w w':=by
 go_enter Tryz.func17,Tryz.ntmps17
 go_wp2
 refine wp_loop_rounds 1 ?_
 rw [rounds_succ]
 go_wp2
 refine wp_loop_rounds 3 ?_
 rw [rounds_succ]
 go_wp2
 refine wp_loop_rounds 1 ?_
 rw [rounds_succ]
 go_wp2
 rw [rounds_succ]
 go_wp2
 refine wp_loop_rounds 1 ?_
 rw [rounds_succ]
 go_wp2
 rw [rounds_succ]
 go_wp2
 go_ret
 exact ⟨rfl,zC _ _⟩
theorem zHM (v:Value) (xs:List OpR) (w:JY) (hm:xs.length<=1048576) (hw:zt w v xs) (hs:Zg xs) :
  Calls Tryz.prog 17 #[.agg #[v]] w fun e w'=>(∃ c,e = .returned (.int .i64 c)/\zR xs c)/\Below w.heap.size w w':=by
 obtain ⟨a,c,rfl,⟨h0,_⟩ | ⟨g,rfl,hg,h⟩⟩:=hw
 ·have e:xs=[]:=yY.1 h0
  subst e
  refine (zF8 a c w).mono ?_
  rintro e w' ⟨rfl,hb⟩
  exact ⟨⟨0,rfl,zKR⟩,hb⟩
 ·exact ZY g 0 c xs w hm h hs hg
end Go.Proofs.YtgbkgkdpdfdokaaGreatDoor
