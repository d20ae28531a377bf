import Derived.Test.YtgbkgkdpdfdokaaGreatDoorQ18
namespace Go.Proofs.YtgbkgkdpdfdokaaGreatDoor
set_option linter.all false
set_option maxHeartbeats 16000000
set_option maxRecDepth 100000
open Go.RowKit
variable {A M c ca cap g ga i n q rp:Nat} {a:Option Addr} {bs:List UInt8} {ms:List zF} {out:List (List OpR)} {t:ByteArray} {us ws:List ByteArray} {v:Value} {w wr wr':World} {xa xs:List OpR}
def zEy (w:JY) (B:Nat) (v:Value) (out:List (List OpR)):Prop:=∃ g c,v = .slice (some ⟨g,0,none⟩) out.length c/\(out.length=0\/B<=g/\g<w.heap.size/\∀ i,i<out.length->∃ t,w.cell? ⟨g,i,none⟩=some t/\zCV w t (zBQ out i)/\∀ q,t.ownBlock=some q->B<=q)
theorem zEy.tabs {B:Nat} (h:zEy w B v out):zHF w v out:=by
 obtain ⟨g,c,rfl,h⟩:=h
 refine ⟨_,c,rfl,h.imp id fun h=>⟨g,rfl,h.2.1,fun i hi=>?_⟩⟩
 obtain ⟨t,h1,h2,_⟩:=h.2.2 i hi
 exact ⟨t,h1,h2.at'⟩
def zOZ (w:JY) (ms:List zF) (e:Ending) (w':JY):Prop:=∃ (v:Value) (out:List (List OpR)) (c h:Int),e = .returned (.tuple #[v,.int .i64 c,.int .i64 h])/\Hid (zz ms out c h)/\Hid (zEy w' w.heap.size v out)/\(∀ o∈out,o.length<=1048576/\Zg o)/\Below w.heap.size w w'
theorem zBA (w':JY) (B b:Nat):zEy w' B (.slice (some ⟨b,0,none⟩) 0 0) []:=⟨_,0,rfl,yQ rfl⟩
theorem zOa {k:Nat} (hk:k<ms.length):nmI ms (atM ms k).n=(nmF ms (atM ms k).n:Int)/\(nmF ms (atM ms k).n<k↔B3 ms k):=by
 obtain ⟨h1,h2⟩:=Z5 ms (atM ms k).n
 have H:nmF ms (atM ms k).n<=k:=by
  by_cases e:nmF ms (atM ms k).n<=k
  ·exact e
  ·exact yP rfl (h2 k (by omega))
 constructor
 ·unfold nmI
  rw [yO (by omega)]
 ·constructor
  ·intro h
   exact ⟨_,h,h1 (by omega)⟩
  ·rintro ⟨j,hj,e⟩
   by_cases h:nmF ms (atM ms k).n<k
   ·exact h
   ·exact yP e (h2 j (by omega))
theorem zBw (a:Option Addr) (c0:Nat) (ms:List zF) (w:JY) (hn:ms.length<=1048576) (hM:zEJ w a ms) (hz:zG2 ms) :
  Calls Tryz.prog 5 #[.slice a ms.length c0] w (zOZ w ms):=by
 by_cases E:100<ms.length
 ·have hI:(100:Int)<(ms.length:Int):=by omega
  have HL:=zB (show zz ms [] 1 100 from yQ ⟨E,rfl,rfl,rfl⟩)
  clear E
  go_enter Tryz.func5,Tryz.ntmps5
  go_wp2
  go_ret3
  exact ⟨_,[],1,100,rfl,HL,zB (zBA _ _ _),(fun o ho=>by cases ho),zC _ _⟩
 have f:ms.length<=100:=by omega
 have hI:¬ (100:Int)<(ms.length:Int):=by omega
 obtain ⟨n,hH⟩:∃ n,n=ms.length:=⟨_,rfl⟩
 have HM:=zB hM
 have hS:=zB hz
 have X:=zB hH
 have Hj:=zB (fun u W h=>zDa a c0 ms u W hn h)
 have hZ:=zB (fun W h1 h2=>zFu a c0 ms W f h1 hz h2)
 have hV:=zB (fun gU cU vs U W h1 h2 h3 h4 h5 h6 h7=>zKK a c0 gU cU ms vs U W f h1 h2 h3 h4 h5 h6 h7)
 have Hh:=zB (fun gU cU vs U W rk h1 h2 h3 h4 h5 h6 h7 h8 h9=>zJC a c0 gU cU ms vs U W rk f h1 h2 h3 h4 h5 h6 h7 h8 h9)
 have B:=zB (show ∀ out c K,zAg ms.length (B2 ms) (fun i=>out=[]/\c=2/\K=(i:Int)) (zOA ms out c K)->zz ms out c K from fun out c K h=>yR ⟨f,h⟩)
 rw [<- hH] at f hI ⊢
 have H5:n<=ms.length:=by omega
 have H3:ms.length<=n:=by omega
 clear hM hz hn E hH
 obtain ⟨N0,H8⟩:∃ N0,N0=w.heap.size:=⟨_,rfl⟩
 go_enter Tryz.func5,Tryz.ntmps5
 go_wp2_with fail
 obtain ⟨W0,hF⟩:∃ W0,W0=w.alloc (.cells #[] 33):=⟨_,rfl⟩
 have ht:Below w.heap.size w W0:=by rw [hF]; exact zC _ _
 rw [<- hF]
 clear hF
 go_loopw [7] (fun iv wr=>∃ k:Nat,k<=n/\iv = .int .i64 (k:Int)/\Hid (∀ j,j<k->¬ B2 ms j)/\Below w.heap.size w wr) (fun iv _=>n-(intOf iv).toNat)
 case atStart=>exact ⟨0,yj _,rfl,zB (fun j h=>by omega),ht⟩
 case round=>
  clear ht W0
  obtain ⟨k,hk,rfl,HB,H⟩:=hrel
  by_cases A:k<n
  ·have D:(k:Int)<(n:Int):=by omega
   have Q:k<ms.length:=by omega
   rcases zA HM with h | ⟨b,hO,rfl,y,hl⟩
   ·omega
   obtain ⟨m0,m1⟩:=(y k Q).below H hl
   have Hc:=zB (zCf (atM ms k).t wr ((zA hS) k Q).2)
   have hY:=((zA hS) k Q).1
   have Hi:b<wr.heap.size:=yi hl H.size
   clear y
   go_wp2_with fail
   (with_reducible refine (zA Hc).mono ?_)
   rintro e w1 ⟨vu,vo,us,os,b',c',l',rfl,hi1,ru1,ro1,hne1,hlu,Hq,hb1⟩
   obtain ⟨a1,c1,rfl⟩:=zO ru1
   obtain ⟨a2,c2,rfl⟩:∃ a c,vo = .slice a os.length c:=zO ro1
   have m0':w1.cell? ⟨b,hO+k*2,none⟩=some (.string (atM ms k).n):=(hb1.cell (p:=⟨b,hO+k*2,none⟩) Hi).trans m0
   have z1:=hb1.size
   have H4:b<w1.heap.size:=by omega
   have P:=zB (H.trans (hb1.mono H.size))
   have hU:=zB hi1
   have C:=zB (show B2 ms k->zz ms [] 2 (k:Int) from fun h=>(zA B) [] 2 (k:Int) (yQ ⟨k,Q,h,zA HB,rfl,rfl,rfl⟩))
   have Hx:=zB (show ¬ B2 ms k->∀ j,j<k+1->¬ B2 ms j from fun h j hj=>by
    by_cases e:j=k
    ·subst e; exact h
    ·exact (zA HB) j (by omega))
   have d:=zB (fun W=>zCo (atM ms k).n W hY)
   have H6:(atM ms k).n.size<=9223372036854775807:=hY
   clear hi1 ru1 ro1 hne1 hb1 Hc m0 m1 HB
   by_cases hc:c'=0
   ·subst hc
    by_cases hN:zA2 (atM ms k).n
    ·have I:=zB hN
     by_cases hd:64<(atM ms k).n.size
     ·have Hg:(64:Int)<((atM ms k).n.size:Int):=by omega
      have HR:=zB ((zA C) (yR (yR hd)))
      clear hN hd
      go_wp2_with (first | (go_at_call 12; (with_reducible refine ((zA d) _).mono ?_); rintro e w2 ⟨⟨v,rfl,hv⟩,hx⟩; obtain rfl:=hx.symm; obtain rfl:v=true:=(by cases v; exact (hv.2 (zA I)); rfl); clear hv hx))
      go_ret3
      exact ⟨_,[],2,_,rfl,HR,zB (zBA _ _ _),(fun o ho=>by cases ho),(zA P).alloc (by have:=(zA P).size; omega) _⟩
     ·have Hg:¬ (64:Int)<((atM ms k).n.size:Int):=by omega
      have Y:=zB ((zA Hx) (fun hB=>by
       rcases hB with ⟨us',os',b2,c2,l2,hu,Hu⟩ | h | h
       ·exact Hu ((zA hU).one hu).2.2.2.1.symm
       ·exact h (zA I)
       ·exact hd h))
      clear hN hd
      go_wp2_with (first | (go_at_call 12; (with_reducible refine ((zA d) _).mono ?_); rintro e w2 ⟨⟨v,rfl,hv⟩,hx⟩; obtain rfl:=hx.symm; obtain rfl:v=true:=(by cases v; exact (hv.2 (zA I)); rfl); clear hv hx))
      exact ⟨⟨k+1,by omega,by go_num,Y,(zA P).alloc (by have:=(zA P).size; omega) _⟩,by simp [intOf]; omega⟩
    ·have I:=zB hN
     have HR:=zB ((zA C) (yR (yQ hN)))
     clear hN
     go_wp2_with (first | (go_at_call 12; (with_reducible refine ((zA d) _).mono ?_); rintro e w2 ⟨⟨v,rfl,hv⟩,hx⟩; obtain rfl:=hx.symm; obtain rfl:v=false:=(by cases v; rfl; exact yP (hv.1 rfl) (zA I)); clear hv hx))
     go_ret3
     exact ⟨_,[],2,_,rfl,HR,zB (zBA _ _ _),(fun o ho=>by cases ho),(zA P).alloc (by have:=(zA P).size; omega) _⟩
   ·have H1:(c' != 0)=true:=by simpa using hc
    have HR:=zB ((zA C) (yQ ⟨us,os,b',c',l',zA hU,hc⟩))
    clear hc
    go_wp2_with fail
    go_ret3
    exact ⟨_,[],2,_,rfl,HR,zB (zBA _ _ _),(fun o ho=>by cases ho),(zA P).alloc (by have:=(zA P).size; omega) _⟩
  ·have Hs:=zB (show ∀ i,i<ms.length->¬ B2 ms i from fun i hi=>(zA HB) i (by omega))
   have hC:=zB (show ∀ out c K,zOA ms out c K->zz ms out c K from fun out c K h=>(zA B) out c K (yR ⟨zA Hs,h⟩))
   clear HB B
   go_wp2_with fail
   go_loopw [11] (fun iv wr=>∃ k:Nat,k<=n/\iv = .int .i64 (k:Int)/\Hid (∀ j,j<k->¬ B3 ms j)/\Below w.heap.size w wr) (fun iv _=>n-(intOf iv).toNat)
   case atStart=>exact ⟨0,yj _,rfl,zB (fun j h=>by omega),H⟩
   case round=>
    clear H
    obtain ⟨k,hk,rfl,HB,H⟩:=hrel
    by_cases A:k<n
    ·have D:(k:Int)<(n:Int):=by omega
     have Q:k<ms.length:=by omega
     have Hv:=zB ((zA HM).below H)
     rcases zA HM with h | ⟨b,hO,rfl,y,hl⟩
     ·omega
     obtain ⟨m0,m1⟩:=(y k Q).below H hl
     have x:=zB ((zA Hj) (atM ms k).n wr (zA Hv))
     obtain ⟨q,hq⟩:∃ q,q=nmF ms (atM ms k).n:=⟨_,rfl⟩
     have hf:=zOa Q
     rw [hf.1,<- hq,<- zA X] at x
     have V:=hf.2
     rw [<- hq] at V
     by_cases ha:q<k
     ·have hX:(q:Int)<(k:Int):=by omega
      have HR:=zB ((zA hC) [] 3 (k:Int) (yQ ⟨k,Q,V.1 ha,zA HB,rfl,rfl,rfl⟩))
      clear hf V hq y ha HB
      go_wp2_with fail
      (with_reducible refine (zA x).mono ?_)
      rintro e w2 ⟨rfl,hx⟩
      obtain rfl:=hx.symm
      clear hx x
      go_wp2_with fail
      go_ret3
      exact ⟨_,[],3,_,rfl,HR,zB (zBA _ _ _),(fun o ho=>by cases ho),H⟩
     ·have hX:¬ (q:Int)<(k:Int):=by omega
      have Y:=zB (show ∀ j,j<k+1->¬ B3 ms j from fun j hj=>by
       by_cases e:j=k
       ·subst e; exact fun h=>ha (V.2 h)
       ·exact (zA HB) j (by omega))
      clear hf V hq y ha HB
      go_wp2_with fail
      (with_reducible refine (zA x).mono ?_)
      rintro e w2 ⟨rfl,hx⟩
      obtain rfl:=hx.symm
      clear hx x
      go_wp2_with fail
      exact ⟨⟨k+1,by omega,by go_num,Y,H⟩,by simp [intOf]; omega⟩
    ·have hK:=zB (show ∀ i,i<ms.length->¬ B3 ms i from fun i hi=>(zA HB) i (by omega))
     have Hr:=zB (show ∀ out c K,zQu ms out c K->zz ms out c K from fun out c K h=>(zA hC) out c K (yR ⟨zA hK,h⟩))
     have r:=zB ((zA hZ) wr ((zA HM).below H) (zA Hs))
     rw [<- zA X] at r
     clear HB hC hZ
     go_wp2_with fail
     (with_reducible refine (zA r).mono ?_)
     rintro e w3 ⟨gU,cU,vs,U,rfl,hgU1,hgU,hvl,HOV,HUA,HUO,hb3⟩
     have g:=zB (H.trans (hb3.mono H.size))
     have z3:=(zA g).size
     have he:=zB (show vs.length=n by rw [zA X]; exact hvl)
     have hG:=zB (show ∀ out c K,zAg ms.length (B4 ms U) (fun i=>out=[]/\c=4/\K=(i:Int)) (zN9 ms U out c K)->zz ms out c K from fun out c K h=>(zA Hr) out c K ⟨U,zA HUO,h⟩)
     have Hz:=zB (show ∀ i,i<ms.length->(atU U i).us.length<=20001 from fun i hi=>(zCc ((zA HUO).2 i hi)).1)
     rw [zA he]
     clear hb3 H r hvl Hr
     go_wp2_with fail
     go_loopw [13] (fun iv wr=>∃ k:Nat,k<=n/\iv = .int .i64 (k:Int)/\Hid (∀ j,j<k->¬ B4 ms U j)/\Below w3.heap.size w3 wr) (fun iv _=>n-(intOf iv).toNat)
     case atStart=>exact ⟨0,yj _,rfl,zB (fun j h=>by omega),yG _ _⟩
     case round=>
      obtain ⟨k,hk,rfl,HB,H⟩:=hrel
      obtain ⟨wo,rfl⟩:∃ wo,wo=wr:=⟨_,rfl⟩
      by_cases A:k<n
      ·have D:(k:Int)<(n:Int):=by omega
       have Q:k<ms.length:=by omega
       obtain ⟨us,hJ⟩:∃ us,us=(atU U k).us:=⟨_,rfl⟩
       have hR:=zB hJ
       have H9:us.length<=20001:=by rw [hJ]; exact (zA Hz) k Q
       have Hn:k<vs.length:=by rw [zA he]; exact A
       have Ho:=zB (show ∀ W:JY,Below w3.heap.size w3 W->W.cell? ⟨gU,k*3,none⟩=some (atV vs k).vu/\zq W (atV vs k).vu us from fun W hb=>by
        obtain ⟨v0,_,_⟩:=((zA HOV).below hb hgU) k Hn
        have hx:=((zA HUA).belowB hb (yh _)).uses Hn
        rw [<- zA hR] at hx
        exact ⟨v0,hx⟩)
       clear hJ
       go_wp2_with fail
       go_loopw [14] (fun iq wr=>∃ q:Nat,q<=us.length/\iq = .int .i64 (q:Int)/\Hid (∀ p,p<q->∀ u,us[p]?=some u->nmF ms u<n)/\wr=wo) (fun iq _=>us.length-(intOf iq).toNat)
       case atStart=>exact ⟨0,yj _,rfl,zB (fun p hp=>by omega),rfl⟩
       case round=>
        obtain ⟨q,hq,rfl,HQ,rfl⟩:=hrel
        obtain ⟨v0,Z⟩:=(zA Ho) wr H
        by_cases Hk:q<us.length
        ·have hX:(q:Int)<(us.length:Int):=by omega
         obtain ⟨gw,cw,hv,H7,hc⟩:=Z.lt (by omega)
         rw [hv] at v0
         obtain ⟨u,hu⟩:∃ u,us[q]?=some u:=⟨_,yn Hk⟩
         have k0:=hc q u hu
         have hA:u∈us:=yy hu
         have F:Below w.heap.size w wr:=(zA g).trans (H.mono z3)
         have x:=zB ((zA Hj) u wr ((zA HM).below F))
         rw [<- zA X] at x
         by_cases N:nmF ms u<n
         ·obtain ⟨m,hm⟩:∃ m,m=nmF ms u:=⟨_,rfl⟩
          have l:nmI ms u=(m:Int):=by
           unfold nmI
           rw [<- hm,<- zA X,yO (by rw [hm]; exact N)]
          rw [l] at x
          have HA:¬ (m:Int)<0:=by omega
          have H0:=zB (show ∀ p,p<q+1->∀ u,us[p]?=some u->nmF ms u<n from fun p hp u' G=>by
           by_cases e:p=q
           ·subst e
            rw [hu] at G
            injection G with G
            subst G
            exact N
           ·exact (zA HQ) p (by omega) u' G)
          clear hc Z hu hA hm l hv N HQ
          go_wp2_with fail
          (with_reducible refine (zA x).mono ?_)
          rintro e w2 ⟨rfl,hx⟩
          obtain rfl:=hx.symm
          clear hx x
          go_wp2_with fail
          exact ⟨⟨q+1,by omega,by go_num,H0,trivial⟩,by simp [intOf]; omega⟩
         ·have l:nmI ms u = -1:=by
           unfold nmI
           rw [yN (by rw [<- zA X]; exact N)]
          rw [l] at x
          have HR:=zB ((zA hG) [] 4 (k:Int) (yQ ⟨k,Q,⟨u,by rw [<- zA hR]; exact hA,fun j hj=>(Z5 ms u).2 j (by omega)⟩,zA HB,rfl,rfl,rfl⟩))
          have hh:=zB F
          clear hc Z hu hA l hv N HQ F
          go_wp2_with fail
          (with_reducible refine (zA x).mono ?_)
          rintro e w2 ⟨rfl,hx⟩
          obtain rfl:=hx.symm
          clear hx x
          go_wp2_with fail
          go_ret3
          exact ⟨_,[],4,_,rfl,HR,zB (zBA _ _ _),(fun o ho=>by cases ho),zA hh⟩
        ·obtain ⟨aw,cw,hv,_⟩:=Z
         rw [hv] at v0
         have Y:=zB (show ∀ j,j<k+1->¬ B4 ms U j from fun j hj=>by
          by_cases e:j=k
          ·subst e
           rintro ⟨u,hu,Hw⟩
           rw [<- zA hR] at hu
           obtain ⟨p,hp,e⟩:=List.getElem_of_mem hu
           have h1:=(zA HQ) p (by omega) u (by rw [yn hp,e])
           exact Hw _ (by omega) ((Z5 ms u).1 (by omega))
          ·exact (zA HB) j (by omega))
         clear hv HQ
         go_wp2_with fail
         exact ⟨⟨k+1,by omega,by go_num,Y,H⟩,by simp [intOf]; omega⟩
      ·have hr:=zB (show ∀ i,i<ms.length->¬ B4 ms U i from fun i hi=>(zA HB) i (by omega))
       have hQ:=zB (show ∀ out c K,zN9 ms U out c K->zz ms out c K from fun out c K h=>(zA hG) out c K (yR ⟨zA hr,h⟩))
       have M:Below w.heap.size w wo:=(zA g).trans (H.mono z3)
       have zo:=H.size
       have hw:zCB wo wo.heap.size vs U:=((zA HUA).belowB H (yh _)).mono zo
       have hD:=zB ((zA hV) gU cU vs U wo ((zA HM).below M) ((zA HOV).below H hgU) (by omega) hw (zA HUO) (by rw [zA he,zA X]) (zA hr))
       rw [<- zA X] at hD
       have R:=zB M
       clear HB hG hV M hw
       go_wp2_with fail
       (with_reducible refine (zA hD).mono ?_)
       rintro e w5 ⟨gR,cR,rs,rfl,hgR1,hgR,HCR,hh,hb5⟩
       have J:=zB ((zA R).trans (hb5.mono (zA R).size))
       have z5:=hb5.size
       have O:=zB (H.trans (hb5.mono zo))
       have Hp:=zB (show ∀ i,wrN (zDb ms U) n i i=true↔TC (Edg ms U) i i from fun i=>by rw [zA X]; exact zHE (zA hK) i i)
       clear hb5 hD R H
       go_wp2_with fail
       go_loopw [16] (fun iv wr=>∃ k:Nat,k<=n/\iv = .int .i64 (k:Int)/\Hid (∀ j,j<k->¬ TC (Edg ms U) j j)/\wr=w5) (fun iv _=>n-(intOf iv).toNat)
       case atStart=>exact ⟨0,yj _,rfl,zB (fun j h=>by omega),rfl⟩
       case round=>
        obtain ⟨k,hk,rfl,HB,rfl⟩:=hrel
        by_cases A:k<n
        ·have D:(k:Int)<(n:Int):=by omega
         have Q:k<ms.length:=by omega
         have c0':=(zA HCR) k A
         obtain ⟨b0',_⟩:=((zA hh) k A).2 k A
         cases hW:wrN (zDb ms U) n k k
         ·rw [hW] at b0'
          have Y:=zB (show ∀ j,j<k+1->¬ TC (Edg ms U) j j from fun j hj=>by
           by_cases e:j=k
           ·subst e
            intro h
            rw [((zA Hp) j).2 h] at hW
            cases hW
           ·exact (zA HB) j (by omega))
          clear hW HB
          go_wp2_with fail
          exact ⟨⟨k+1,by omega,by go_num,Y,trivial⟩,by simp [intOf]; omega⟩
         ·rw [hW] at b0'
          have HR:=zB ((zA hQ) [] 5 (k:Int) (yQ ⟨k,Q,((zA Hp) k).1 hW,zA HB,rfl,rfl,rfl⟩))
          clear hW HB
          go_wp2_with fail
          go_ret3
          exact ⟨_,[],5,_,rfl,HR,zB (zBA _ _ _),(fun o ho=>by cases ho),zA J⟩
        ·have Ha:=zB (show ∀ i,i<ms.length->¬ TC (Edg ms U) i i from fun i hi=>(zA HB) i (by omega))
         have Hd:=zB (show ∀ out c K,zRw ms U out c K->zz ms out c K from fun out c K h=>(zA hQ) out c K (yR ⟨zA Ha,h⟩))
         obtain ⟨rk,Hf,Hb⟩:=zOO (zA hK) (zA hr) (zA Ha)
         have z35:=(zA O).size
         have h0:zCB wr wr.heap.size vs U:=((zA HUA).belowB (zA O) (yh _)).mono z35
         have hE:=zB ((zA Hh) gU cU vs U wr rk ((zA HM).below (zA J)) ((zA HOV).below (zA O) hgU) (by omega) h0 (zA HUO) (by rw [zA he,zA X]) (zA hr) Hf Hb)
         rw [<- zA X] at hE
         clear HB hQ Hh h0 Hf Hb HCR hh
         go_wp2_with fail
         (with_reducible refine (zA hE).mono ?_)
         rintro e w6 ⟨gSS,S,rfl,hgS1,hgS,HSE,HST,hb6⟩
         rw [<- zA X]
         have zl5:=(zA J).size
         have hs:=zB ((zA J).trans (hb6.mono (zA J).size))
         have hP:=zB (show ∀ i,i<ms.length->Zg (S i)/\(S i).length<=400000 from fun i hi=>⟨zKL (fun o ho=>(zA HUO).small o (((zA HST) i hi).1 o ho)),yr (zAv _ _ ((zA HSE).nd hi) ((zA HST) i hi).1) ((zA HUO).all (by omega))⟩)
         clear hb6 hE
         go_wp2_with fail
         go_loopw [18] (fun iv wr=>∃ k:Nat,k<=n/\iv = .int .i64 (k:Int)/\Hid (∀ j,j<k->¬ B6 S j)/\Below w6.heap.size w6 wr) (fun iv _=>n-(intOf iv).toNat)
         case atStart=>exact ⟨0,yj _,rfl,zB (fun j h=>by omega),yG _ _⟩
         case round=>
          obtain ⟨k,hk,rfl,HB,H⟩:=hrel
          have s:Below w.heap.size w wr:=(zA hs).trans (H.mono (zA hs).size)
          by_cases A:k<n
          ·have D:(k:Int)<(n:Int):=by omega
           have Q:k<ms.length:=by omega
           obtain ⟨_,tv,t0,hy,_⟩:=(zA HST) k Q
           have z:=hy.at'
           clear hy
           have L:=z.below H
           obtain ⟨at1,ct1,hv,_⟩:=z
           rw [hv] at t0 L
           have t0':wr.cell? ⟨gSS,k,none⟩=some (.slice at1 (S k).length ct1):=(H.cell (p:=⟨gSS,k,none⟩) hgS).trans t0
           have Hm:=zB (zHM _ (S k) wr (by have:=((zA hP) k Q).2; omega) L ((zA hP) k Q).1)
           have hg:=zB s
           clear hv t0 L s
           go_wp2_with fail
           (with_reducible refine (zA Hm).mono ?_)
           rintro e w7 ⟨⟨cc,rfl,hcc⟩,hb7⟩
           have Hy:=zB (H.trans (hb7.mono H.size))
           have Hl:=zB ((zA hg).trans (hb7.mono (zA hg).size))
           clear hb7 Hm
           by_cases T:cc=0
           ·subst T
            have Y:=zB (show ∀ j,j<k+1->¬ B6 S j from fun j hj=>by
             by_cases e:j=k
             ·subst e
              rintro ⟨c',h1,h2⟩
              exact h2 (zAD h1 hcc)
             ·exact (zA HB) j (by omega))
            clear hcc HB
            go_wp2_with fail
            exact ⟨⟨k+1,by omega,by go_num,Y,zA Hy⟩,by simp [intOf]; omega⟩
           ·have H1:(cc != 0)=true:=by simpa using T
            have HR:=zB ((zA Hd) [] 6 (k:Int) ⟨S,zA HSE,yQ ⟨k,Q,⟨cc,hcc,T⟩,zA HB,rfl,rfl,rfl⟩⟩)
            clear hcc HB T
            go_wp2_with fail
            go_ret3
            exact ⟨_,[],6,_,rfl,HR,zB (zBA _ _ _),(fun o ho=>by cases ho),zA Hl⟩
          ·have HR:=zB ((zA Hd) ((List.range ms.length).map S) 0 0 ⟨S,zA HSE,yR ⟨fun i hi=>(zA HB) i (by omega),rfl,rfl,rfl⟩⟩)
           have H2:=zB (show zEy wr w.heap.size (.slice (some ⟨gSS,0,none⟩) n n) ((List.range ms.length).map S) by
            refine ⟨_,n,by rw [List.length_map,List.length_range,zA X],yR ⟨by omega,yi hgS H.size,fun i hi=>?_⟩⟩
            have He:i<ms.length:=by simpa using hi
            obtain ⟨_,tv,t0,z,Hq⟩:=(zA HST) i He
            rw [zHG He]
            exact ⟨tv,(H.cell (p:=⟨gSS,i,none⟩) hgS).trans t0,z.below H,fun q e=>by have:=Hq q e; omega⟩)
           have Ht:=zB (show ∀ o∈(List.range ms.length).map S,o.length<=1048576/\Zg o from fun o ho=>by
            obtain ⟨i,hi,rfl⟩:=List.mem_map.1 ho
            have:=(zA hP) i (List.mem_range.1 hi)
            exact ⟨by omega,this.1⟩)
           have hg:=zB s
           clear HB s
           go_wp2_with fail
           go_ret3
           exact ⟨_,_,0,0,rfl,HR,H2,zA Ht,zA hg⟩
def MsZ (n t:Nat) (ms:List zF):Prop:=∀ i,(atM ms i).n.size<=n/\(atM ms i).t.size<=t
theorem MsZ.nil (n t:Nat):MsZ n t []:=fun i=>⟨yj _,yj _⟩
theorem MsZ.snoc {t:Nat} {m:zF} (h:MsZ n t ms) (h1:m.n.size<=n) (h2:m.t.size<=t):MsZ n t (ms++[m]):=fun i=>by
 rw [zP3]
 split
 ·exact h i
 ·split
  ·exact ⟨h1,h2⟩
  ·exact ⟨yj _,yj _⟩
theorem MsZ.set {t:Nat} {m:zF} (h:MsZ n t ms) (hi:i<ms.length) (h1:m.n.size<=n) (h2:m.t.size<=t):MsZ n t (ms.set i m):=fun j=>by
 rw [zMS hi]
 split
 ·exact ⟨h1,h2⟩
 ·exact h j
theorem MsZ.mono {t n' t':Nat} (h:MsZ n t ms) (h1:n<=n') (h2:t<=t'):MsZ n' t' ms:=fun i=>⟨yr (h i).1 h1,yr (h i).2 h2⟩
theorem MsZ.sized {t:Nat} (h:MsZ n t ms) (h1:n<=1000000000000000000) (h2:t<=1000000000000000000):zG2 ms:=fun i _=>by
 have:=h i
 unfold maxLen
 omega
structure PrS (w wr:JY) (rp cap:Nat) (a:Option Addr) (bs:List UInt8) (A ga ca:Nat) (xa:List OpR) (g c:Nat) (ms:List zF) (q:Nat):Prop where
 row:ZH wr w.heap.size (.slice (some ⟨g,0,none⟩) ms.length c) ms
 rd:RdS wr rp a cap bs q
 kp:zG w wr rp
 al:wr.cell? ⟨A,0,none⟩=some (.slice (some ⟨ga,0,none⟩) xa.length ca)
 tb:zEQ wr ga xa
 gA:g≠A
 gg:g≠ga
 hA:w.heap.size<=A
 hg:w.heap.size<=ga
 rpl:rp<w.heap.size
theorem PrS.below {w wr wr':JY} {rp cap:Nat} {a:Option Addr} {bs:List UInt8} {A ga ca:Nat} {xa:List OpR} {g c:Nat} {ms:List zF} {q:Nat} (h:PrS w wr rp cap a bs A ga ca xa g c ms q) (hb:Below wr.heap.size wr wr'):PrS w wr' rp cap a bs A ga ca xa g c ms q:=
 ⟨h.row.below hb,h.rd.below hb,h.kp.trans (zG.of_below hb),(hb.cell (p:=⟨A,0,none⟩) (block_lt_of_cell h.al)).trans h.al,h.tb.below hb h.tb.1,h.gA,h.gg,h.hA,h.hg,h.rpl⟩
theorem PrS.read {q':Nat} (h:PrS w wr rp cap a bs A ga ca xa g c ms q) (hk:zG wr wr' rp) (hr:RdS wr' rp a cap bs q'):PrS w wr' rp cap a bs A ga ca xa g c ms q':=by
 have h1:=h.rpl
 have h2:=h.hA
 have h3:=h.hg
 have h4:=(h.row.lt g rfl).1
 exact ⟨h.row.grown (zr hk) (fun k hk e=>by simp [Value.ownBlock] at hk; injection e with e; omega),hr,h.kp.trans hk,(hk.cell (b:=A) (block_lt_of_cell h.al) (by omega) 0).trans h.al,hk.tabO h.tb (by omega),h.gA,h.gg,h.hA,h.hg,h.rpl⟩
theorem PrS.turn (h:PrS w wr rp cap a bs A ga ca xa g c ms q) {b:Nat} (hk:wr.grownBy wr' (some b)) (hb:w.heap.size<=b) (h1:b≠g) (h2:b≠A) (h3:b≠ga):PrS w wr' rp cap a bs A ga ca xa g c ms q:=by
 have H:=h.rpl
 have e:∀ {x:Nat},x<wr.heap.size->x≠b->wr'.heap[x]?=wr.heap[x]?:=fun hx hn=>hk.block _ hx (fun e=>hn (by injection e with e))
 have e2:∀ {x o:Nat},x<wr.heap.size->x≠b->wr'.cell? ⟨x,o,none⟩=wr.cell? ⟨x,o,none⟩:=fun hx hn=>yp (w:=wr) (e hx hn)
 refine ⟨h.row.grown hk (fun k hk e=>by simp [Value.ownBlock] at hk; injection e with e; omega),h.rd.kept (fun i hi=>e (by have:=h.rd.lt; omega) (by omega)),⟨hk.os.trans h.kp.os,hk.tape.trans h.kp.tape,hk.output.trans h.kp.output,yr h.kp.size hk.size,fun i hi a=>(e (yi hi h.kp.size) (by omega)).trans (h.kp.block i hi a)⟩,(e2 (block_lt_of_cell h.al) (Ne.symm h2)).trans h.al,⟨yi h.tb.1 hk.size,fun i hi=>?_⟩,h.gA,h.gg,h.hA,h.hg,h.rpl⟩
 obtain ⟨c0,c1,c2,c3⟩:=h.tb.2 i hi
 exact ⟨(e2 h.tb.1 (Ne.symm h3)).trans c0,(e2 h.tb.1 (Ne.symm h3)).trans c1,(e2 h.tb.1 (Ne.symm h3)).trans c2,(e2 h.tb.1 (Ne.symm h3)).trans c3⟩
theorem PrS.app {W w6:JY} {m:zF} {v6:Value} (h:PrS w W rp cap a bs A ga ca xa g c ms q)
  (Q:w6.ownsRow w.heap.size 29 2 v6 (ms.length+1) (zY ms++zY [m])) (H:W.grownBy w6 (some g)) (y:v6.ownBlock=some g\/∃ k,v6.ownBlock=some k/\W.heap.size<=k) :
  ∃ g6 c6 ms6,ms6=ms++[m]/\v6 = .slice (some ⟨g6,0,none⟩) ms6.length c6/\PrS w w6 rp cap a bs A ga ca xa g6 c6 ms6 q:=by
 have hr:ZH w6 w.heap.size v6 (ms++[m]):=by
  unfold ZH
  rw [zAr,ym]
  exact Q
 obtain ⟨g6,c6,rfl⟩:=hr.has (by simp)
 have j:=h.rpl
 have hA:=h.hA
 have hg:=h.hg
 have J:=(h.row.lt g rfl).1
 have e:∀ {x:Nat},x<W.heap.size->x≠g->w6.heap[x]?=W.heap[x]?:=fun hx hn=>H.block _ hx (fun e=>hn (by injection e with e))
 have e2:∀ {x o:Nat},x<W.heap.size->x≠g->w6.cell? ⟨x,o,none⟩=W.cell? ⟨x,o,none⟩:=fun hx hn=>yp (w:=W) (e hx hn)
 have Y:A<W.heap.size:=block_lt_of_cell h.al
 have K:ga<W.heap.size:=h.tb.1
 have X:g6≠A/\g6≠ga:=by
  rcases y with e | ⟨k,e,hk⟩
  ·have:g6=g:=by simpa [Value.ownBlock] using e
   rw [this]; exact ⟨h.gA,h.gg⟩
  ·have:g6=k:=by simpa [Value.ownBlock] using e
   omega
 refine ⟨g6,c6,ms++[m],rfl,rfl,hr,h.rd.kept (fun i hi=>e (by have:=h.rd.lt; omega) (by omega)),⟨H.os.trans h.kp.os,H.tape.trans h.kp.tape,H.output.trans h.kp.output,yr h.kp.size H.size,fun i hi a=>(e (yi hi h.kp.size) (by omega)).trans (h.kp.block i hi a)⟩,(e2 Y (Ne.symm h.gA)).trans h.al,⟨yi K H.size,fun i hi=>?_⟩,X.1,X.2,h.hA,h.hg,h.rpl⟩
 obtain ⟨c0,c1,c2,c3⟩:=h.tb.2 i hi
 exact ⟨(e2 K (Ne.symm h.gg)).trans c0,(e2 K (Ne.symm h.gg)).trans c1,(e2 K (Ne.symm h.gg)).trans c2,(e2 K (Ne.symm h.gg)).trans c3⟩
theorem zKS (h:zR xs 0):xs.length<=500/\zB1 xs xs.length:=by
 rcases h with ⟨h,_⟩ | ⟨h1,⟨h,_⟩ | ⟨h2,_⟩⟩
 ·cases h
 ·cases h
 ·exact ⟨h1,h2⟩
theorem zZ.atE {B:Nat} (h:zZ w B (.slice (some ⟨g,0,none⟩) n c) us) (i:Nat) (hi:i<us.length):w.cell? ⟨g,i,none⟩=some (.string (Go.Proofs.YtgbkgkdpdfdokaaGreatDoor.atB us i)):=by
 have:=h.cells i (Go.Proofs.YtgbkgkdpdfdokaaGreatDoor.atB us i) (by unfold Go.Proofs.YtgbkgkdpdfdokaaGreatDoor.atB; rw [yk,yn hi]; rfl)
 simpa using this
structure RnS (w wr:JY) (rp cap:Nat) (a:Option Addr) (bs:List UInt8) (A ga ca:Nat) (xa:List OpR) (g c:Nat) (ms:List zF) (q L Sb:Nat) (sv:Value):Prop where
 pr:PrS w wr rp cap a bs A ga ca xa g c ms q
 lg:g<L
 lA:A<L
 la:ga<L
 lw:w.heap.size<=L
 lS:L<=Sb
 sc:wr.cell? ⟨Sb,0,none⟩=some sv
 sf:wr.frozen? ⟨Sb,0,none⟩=false
theorem RnS.below {w wr wr':JY} {rp cap:Nat} {a:Option Addr} {bs:List UInt8} {A ga ca:Nat} {xa:List OpR} {g c:Nat} {ms:List zF} {q L Sb:Nat} {sv:Value} (h:RnS w wr rp cap a bs A ga ca xa g c ms q L Sb sv) (hb:Below wr.heap.size wr wr'):RnS w wr' rp cap a bs A ga ca xa g c ms q L Sb sv:=
 ⟨h.pr.below hb,h.lg,h.lA,h.la,h.lw,h.lS,(hb.cell (p:=⟨Sb,0,none⟩) (block_lt_of_cell h.sc)).trans h.sc,(hb.frozen (p:=⟨Sb,0,none⟩) (block_lt_of_cell h.sc)).trans h.sf⟩
theorem RnS.read {w wr wr':JY} {rp cap:Nat} {a:Option Addr} {bs:List UInt8} {A ga ca:Nat} {xa:List OpR} {g c:Nat} {ms:List zF} {q q' L Sb:Nat} {sv:Value} (h:RnS w wr rp cap a bs A ga ca xa g c ms q L Sb sv) (hk:zG wr wr' rp) (hr:RdS wr' rp a cap bs q'):RnS w wr' rp cap a bs A ga ca xa g c ms q' L Sb sv:=by
 have h1:=h.pr.rpl
 have h2:=h.lw
 have h3:=h.lS
 exact ⟨h.pr.read hk hr,h.lg,h.lA,h.la,h.lw,h.lS,(hk.cell (b:=Sb) (block_lt_of_cell h.sc) (by omega) 0).trans h.sc,(hk.frozen (b:=Sb) (block_lt_of_cell h.sc) (by omega) 0).trans h.sf⟩
theorem RnS.grow {L Sb:Nat} {sv:Value} (h:RnS w wr rp cap a bs A ga ca xa g c ms q L Sb sv) {b:Nat} (hk:wr.grownBy wr' (some b)) (hb:L<=b) (hn:b≠Sb):RnS w wr' rp cap a bs A ga ca xa g c ms q L Sb sv:=by
 have h1:=h.lg
 have h2:=h.lA
 have h3:=h.la
 have h4:=h.lw
 have e:=hk.block Sb (block_lt_of_cell h.sc) (fun x=>hn (by injection x with x; exact x.symm))
 exact ⟨h.pr.turn hk (by omega) (by omega) (by omega) (by omega),h.lg,h.lA,h.la,h.lw,h.lS,(yp (w:=wr) (a:=⟨Sb,0,none⟩) e).trans h.sc,(yA (w:=wr) (a:=⟨Sb,0,none⟩) e).trans h.sf⟩
theorem RnS.put {L Sb:Nat} {sv:Value} (h:RnS w wr rp cap a bs A ga ca xa g c ms q L Sb sv) (sv':Value):RnS w (wr.setCell ⟨Sb,0,none⟩ sv') rp cap a bs A ga ca xa g c ms q L Sb sv':=by
 have h1:=h.lg
 have h2:=h.lA
 have h3:=h.la
 have h4:=h.lw
 have h5:=h.lS
 exact ⟨h.pr.turn (zf wr Sb 0 sv') (by omega) (by omega) (by omega) (by omega),h.lg,h.lA,h.la,h.lw,h.lS,yo _ _ _ h.sc,(yq _ _ _ _).trans h.sf⟩
structure MdB (wr:JY) (M:Nat) (n t:JZ):Prop where
 c0:wr.cell? ⟨M,0,none⟩=some (.string n)
 c1:wr.cell? ⟨M,1,none⟩=some (.string t)
 f1:wr.frozen? ⟨M,1,none⟩=false
theorem MdB.lt {n:JZ} (h:MdB wr M n t):M<wr.heap.size:=block_lt_of_cell h.c0
theorem MdB.same {n:JZ} (h:MdB wr M n t) (e:wr'.heap[M]?=wr.heap[M]?):MdB wr' M n t:=
 ⟨(yp (w:=wr) (a:=⟨M,0,none⟩) e).trans h.c0,(yp (w:=wr) (a:=⟨M,1,none⟩) e).trans h.c1,(yA (w:=wr) (a:=⟨M,1,none⟩) e).trans h.f1⟩
theorem MdB.below {n:JZ} (h:MdB wr M n t) (hb:Below wr.heap.size wr wr'):MdB wr' M n t:=h.same (hb.block M h.lt)
theorem MdB.kept {n:JZ} (h:MdB wr M n t) (hk:zG wr wr' rp) (hn:M≠rp):MdB wr' M n t:=h.same (hk.block M h.lt hn)
theorem MdB.other {b o:Nat} {n:JZ} (h:MdB wr M n t) (hn:b≠M):MdB (wr.setCell ⟨b,o,none⟩ v) M n t:=h.same ((zf wr b o v).block M h.lt (fun e=>hn (by injection e with e; exact e.symm)))
theorem MdB.put {n:JZ} (h:MdB wr M n t) (t':JZ):MdB (wr.setCell ⟨M,1,none⟩ (.string t')) M n t':=
 ⟨(yg _ _ _ _ (by simp)).trans h.c0,yo _ _ _ h.c1,(yq _ _ _ _).trans h.f1⟩
theorem MdB.new (wr:JY) (n t:JZ):MdB (wr.alloc (.cells #[.string n,.string t] 29)) wr.heap.size n t:=⟨by simp [go_sem],by simp [go_sem],by simp [go_sem]⟩
theorem zEy.low {B B':Nat} (h:zEy w B v out) (hb:B'<=B):zEy w B' v out:=by
 obtain ⟨g,c,rfl,h⟩:=h
 refine ⟨g,c,rfl,h.imp id fun h=>⟨yr hb h.1,h.2.1,fun i hi=>?_⟩⟩
 obtain ⟨t,h1,h2,h3⟩:=h.2.2 i hi
 exact ⟨t,h1,h2,fun q e=>yr hb (h3 q e)⟩
theorem zP9 (k:Nat):Wrd (txN k):=by
 have h:k%12<12:=Nat.mod_lt _ (by decide)
 have h1:∀ j:Fin 12,(txL.getD j.val ⟨#[]⟩).data.toList≠[]/\∀ c∈(txL.getD j.val ⟨#[]⟩).data.toList,33<=c.toNat:=by decide
 obtain ⟨a,b⟩:=h1 ⟨k%12,h⟩
 have:=zPT a b
 have e:bB (txL.getD (k%12) ⟨#[]⟩).data.toList=txL.getD (k%12) ⟨#[]⟩:=by simp [bB]
 simp only [e] at this
 exact this
theorem zLa (k v:Nat) (tidy:Bool):0<=Zz k v tidy/\Zz k v tidy<1000000:=by
 have hs:0<=srt (ZK k) (ZC k)/\srt (ZK k) (ZC k)<=10:=by
  unfold srt ZK ZC
  repeat' split
  all_goals omega
 unfold Zz
 repeat' split
 all_goals omega
theorem zLb (k v:Nat) (tidy:Bool):OpT (zBD k v tidy):=by
 obtain ⟨h1,h2⟩:=zLa k v tidy
 refine ⟨zP9 v,⟨(Zz k v tidy).toNat,by show Zz k v tidy=_; omega,by omega⟩,?_⟩
 show (ZK k=1/\ZC k=0)\/(ZK k=3/\ZC k=0)\/(ZK k=2/\(ZC k=1\/ZC k=2\/ZC k=3))
 unfold ZK ZC
 by_cases a:k%8<2
 ·rw [yO a,yO a]; exact yQ ⟨rfl,rfl⟩
 ·by_cases b:k%8=2
  ·rw [yN a,yO b,yN a,yO b]; exact yR (yQ ⟨rfl,rfl⟩)
  ·rw [yN a,yN b,yN a,yN b]
   refine yR (yR ⟨rfl,?_⟩)
   omega
theorem zLc (k v:Nat) (tidy:Bool):(zBD k v tidy).s.size<=16:=by
 have:=zGf v
 show (txN v).size<=16
 omega
theorem zCa.opT {bs:List UInt8} {p0:Nat}:∀ {k:Nat} {xs:List OpR} {p:Nat},zCa bs p0 k xs p->∀ o∈xs,OpT o/\o.s.size<=16
 | 0,xs,p,h=>by
  obtain ⟨rfl,_⟩:=h
  exact fun o ho=>by cases ho
 | k+1,xs,p,h=>by
  obtain ⟨ys,q,ht,_,hc⟩:=h
  have h2:=ht.opT
  rcases hc with ⟨_,rfl⟩ | ⟨_,rfl⟩
  ·intro o ho
   rcases List.mem_append.1 ho with ho | ho
   ·exact h2 o ho
   ·rw [List.mem_singleton.1 ho]; exact ⟨zLb _ _ _,zLc _ _ _⟩
  ·exact h2
theorem zHN {k n i:Nat} {xa:List OpR}:∀ {j:Nat},j<=xa.length->∀ o∈zEN k n i xa j,o∈xa
 | 0,_,o,h=>by cases h
 | j+1,hj,o,h=>by
  simp only [zEN] at h
  split at h
  ·rcases List.mem_append.1 h with h | h
   ·exact zHN (by omega) o h
   ·rw [List.mem_singleton.1 h]
    unfold atO
    rw [yk,yn (by omega)]
    exact List.getElem_mem _
  ·exact zHN (by omega) o h
theorem zKT {k n i:Nat} {xa:List OpR}:∀ j,(zEN k n i xa j).length<=j
 | 0=>yh _
 | j+1=>by
  have:=zKT (k:=k) (n:=n) (i:=i) (xa:=xa) j
  simp only [zEN]
  split
  ·simp; omega
  ·omega
theorem zQA {p:Nat} (h:∀ o∈xa,OpT o/\o.s.size<=16) (hl:xa.length<=10):(zF6 bs n i xa p).1.length<=11/\∀ o∈(zF6 bs n i xa p).1,OpT o/\o.s.size<=16:=by
 have h1:=zKT (k:=nxt bs p) (n:=n) (i:=i) (xa:=xa) xa.length
 have h2:∀ o∈zEN (nxt bs p) n i xa xa.length,OpT o/\o.s.size<=16:=fun o ho=>h o (zHN (yh _) o ho)
 unfold zF6
 split
 ·refine ⟨by simp; omega,fun o ho=>?_⟩
  rcases List.mem_append.1 ho with ho | ho
  ·exact h2 o ho
  ·rw [List.mem_singleton.1 ho]; exact ⟨zLb _ _ _,zLc _ _ _⟩
 ·exact ⟨by show (zEN _ _ _ _ _).length<=11; omega,h2⟩
theorem zKU {k z:Nat} {ms:List zF} (h:∀ i,(atM ms i).n.size<=z):∀ j,(zDc k ms j).length<=j/\∀ x∈zDc k ms j,x.size<=z
 | 0=>⟨yh _,fun x hx=>by cases hx⟩
 | j+1=>by
  obtain ⟨h1,h2⟩:=zKU (k:=k) h j
  simp only [zDc]
  split
  ·refine ⟨by simp; omega,fun x hx=>?_⟩
   rcases List.mem_append.1 hx with hx | hx
   ·exact h2 x hx
   ·rw [List.mem_singleton.1 hx]; exact h j
  ·exact ⟨by omega,h2⟩
theorem zLd {z:Nat} (h:∀ x∈us,x.size<=z) (j:Nat):(atB us j).size<=z:=by
 unfold atB
 rw [yk]
 by_cases hj:j<us.length
 ·rw [yn hj]; exact h _ (List.getElem_mem hj)
 ·rw [List.getElem?_eq_none (by omega)]; exact yj _
theorem zRS {z:Nat} (h:∀ o∈xs,o.s.size<=z) (j:Nat):(atO xs j).s.size<=z:=by
 unfold atO
 rw [yk]
 by_cases hj:j<xs.length
 ·rw [yn hj]; exact h _ (List.getElem_mem hj)
 ·rw [List.getElem?_eq_none (by omega)]; exact yj _
theorem zOb (xs:List OpR):∃ c,zR xs c:=by
 by_cases h1:500<xs.length
 ·exact ⟨1,yQ ⟨rfl,h1⟩⟩
 have h:xs.length<=500:=by omega
 by_cases h2:zB1 xs xs.length
 ·by_cases h3:Pr 3 xs
  ·exact ⟨3,yR ⟨h,yR ⟨h2,yQ ⟨rfl,h3⟩⟩⟩⟩
  ·by_cases h4:Pr 4 xs
   ·exact ⟨4,yR ⟨h,yR ⟨h2,yR ⟨h3,yQ ⟨rfl,h4⟩⟩⟩⟩⟩
   ·exact ⟨0,yR ⟨h,yR ⟨h2,yR ⟨h3,yR ⟨rfl,h4⟩⟩⟩⟩⟩
 ·exact ⟨2,yR ⟨h,yQ ⟨rfl,h2⟩⟩⟩
theorem zRT {S:Nat->List OpR} (h:¬ B6 S i):zR (S i) 0:=by
 obtain ⟨c,hc⟩:=zOb (S i)
 by_cases e:c=0
 ·rw [<- e]; exact hc
 ·exact yP ⟨c,hc,e⟩ h
theorem zz.valid {H:Int} (h:zz ms out 0 H):∀ i,i<ms.length->zR (zBQ out i) 0:=by
 rcases h with ⟨_,_,h,_⟩ | ⟨hn,⟨_,_,_,_,_,h,_⟩ | ⟨h2,h⟩⟩
 ·cases h
 ·cases h
 rcases h with ⟨_,_,_,_,_,h,_⟩ | ⟨_,h⟩
 ·cases h
 obtain ⟨U,_,h⟩:=h
 rcases h with ⟨_,_,_,_,_,h,_⟩ | ⟨_,h⟩
 ·cases h
 rcases h with ⟨_,_,_,_,_,h,_⟩ | ⟨_,h⟩
 ·cases h
 obtain ⟨S,_,h⟩:=h
 rcases h with ⟨_,_,_,_,_,h,_⟩ | ⟨hs,h⟩
 ·cases h
 obtain ⟨rfl,_⟩:=h
 intro i hi
 rw [zHG hi]
 exact zRT (hs i hi)
theorem zKV (h:zB1 xs xs.length):(∀ i,(atO xs i).s.size<=16)/\∀ j,j<xs.length->0<=(atO xs j).k/\(atO xs j).k<=9:=by
 have hk:∀ o:OpR,o.ok=true->o.s.size<=16/\0<=o.k/\o.k<=9:=fun o ho=>by
  unfold OpR.ok okB zD8 zEV at ho
  simp only [Bool.and_eq_true,Bool.or_eq_true,decide_eq_true_eq,beq_iff_eq] at ho
  obtain ⟨⟨⟨⟨⟨_,_⟩,h1⟩,_⟩,_⟩,h2⟩:=ho
  refine ⟨h1,?_⟩
  rcases h2 with ⟨h2,_⟩ | ⟨h2 | h2,_⟩ <;> omega
 refine ⟨fun i=>?_,fun j hj=>(hk _ (h j hj)).2⟩
 by_cases hi:i<xs.length
 ·exact (hk _ (h i hi)).1
 ·have:atO xs i=OpR.zero:=by unfold atO; simp [List.getD,List.getElem?_eq_none (Nat.le_of_not_lt hi)]
  rw [this]; show 0<=16; omega
theorem zOc:¬ OpW ws OpR.zero:=by
 rintro ⟨k,t,l,_,⟨_,⟨_,h⟩ | ⟨_,h⟩⟩ | ⟨sd,_,_,_,h⟩⟩
 ·have:(0:Int)=1:=yS OpR.k h; exact yP this (by decide)
 ·have:(0:Int)=3:=yS OpR.k h; exact yP this (by decide)
 ·have:(0:Int)=2:=yS OpR.k h; exact yP this (by decide)
theorem zIa (hw:∀ s∈ws,s.size<=16) (hl:ws.length<=4000):(zKN bs ws q).size<=72010:=by
 have h:=zLd hw
 have:∀ i,(zAS bs ws q i).1.size<=2+18*i:=by
  intro i
  induction i with
  | zero=>have:=zBy (nxt bs q); simp only [zAS]; omega
  | succ i ih=>
   have h2:=zIH ws i (nxt bs (zAS bs ws q i).2)
   have h3:=h i
   show ((zAS bs ws q i).1++zDT ws i (nxt bs (zAS bs ws q i).2)++atB ws i).size<=_
   rw [za,za]
   omega
 have h1:=this ws.length
 have h2:=zBy (nxt bs (zAS bs ws q ws.length).2)
 unfold zKN
 rw [za]
 omega
theorem zMU (bs:List UInt8) (ws:List JZ) (q:Nat) (h:q<=bs.length):∀ i,(zAS bs ws q i).2<=bs.length
 | 0=>zE8 h
 | i+1=>zE8 (zMU bs ws q h i)
theorem zR1 (W:JY) (c:Int):(convert 22 9 (.slice (some ⟨W.heap.size,0,none⟩) 1 1)).run Tryz.prog (W.alloc (.cells #[.int .u8 c] 5)) = .ok (.string ⟨#[UInt8.ofNat c.toNat]⟩) (W.alloc (.cells #[.int .u8 c] 5)):=by
 rw [run_convert_bytes_string _ 22 9 5 _ _ _ Tryz.underlying22 Tryz.underlying5 Tryz.underlying9]
 have hl:(loadCells ⟨W.heap.size,0,none⟩ 1).run Tryz.prog (W.alloc (.cells #[.int .u8 c] 5)) = .ok ([c].map (Value.int .u8)).toArray (W.alloc (.cells #[.int .u8 c] 5)):=
  run_loadCells_list (P:=Tryz.prog) _ ⟨W.heap.size,0,none⟩ [.int .u8 c] (fun j v hv=>by
   match j,hv with
   | 0,hv=>simp at hv; subst hv; simp [Addr.add,go_sem])
 rw [run_bytesToString _ ⟨W.heap.size,0,none⟩ 1 1 [c] hl]
 rfl
theorem zGM:∀ (f n:Nat),(zBr f n).size<=f
 | 0,n=>by simp [zBr]
 | f+1,n=>by
  simp only [zBr]
  split
  ·rw [zB3]; omega
  ·rw [za,zB3]; have:=zGM f (n/10); omega
theorem zIb (n:Nat) (w:JY) (h:n<10) :
  Calls Tryz.prog 53 #[.int .i64 (n:Int)] w fun e w'=>e = .returned (.string (one (UInt8.ofNat (48+n))))/\Below w.heap.size w w':=by
 have hI:(n:Int)<10:=by omega
 have H:=fun W c=>zR1 W c
 go_enter Tryz.func53,Tryz.ntmps53
 go_wp2
 go_ret
 exact ⟨rfl,zC _ _⟩
theorem zFX:∀ (f n:Nat) (w:JY),n<10 ^ f->1<=f->f<=20->n<100000000 ->
  Calls Tryz.prog 53 #[.int .i64 (n:Int)] w fun e w'=>e = .returned (.string (zBr f n))/\Below w.heap.size w w'
 | 0,n,w,_,h,_,_=>by omega
 | f+1,n,w,hf,_,h20,h8=>by
  by_cases h:n<10
  ·have e:zBr (f+1) n=one (UInt8.ofNat (48+n)):=by simp only [zBr,yO h]
   rw [e]
   exact zIb n w h
  ·have hI:¬ (n:Int)<10:=by omega
   have hp:(10:Nat) ^ (f+1)=10 ^ f*10:=Nat.pow_succ ..
   have k:1<=f:=by
    rcases Nat.eq_zero_or_pos f with rfl | x
    ·simp at hf; omega
    ·exact x
   have e:zBr (f+1) n=zBr f (n/10)++one (UInt8.ofNat (48+n%10)):=by simp only [zBr,yN h]
   rw [e]
   have HA:=zB (fun W=>zFX f (n/10) W (by omega) k (by omega) (by omega))
   have HB:=zB (fun W=>zIb (n%10) W (Nat.mod_lt _ (by decide)))
   have K:=zGM f (n/10)
   have Q:=zB3 (UInt8.ofNat (48+n%10))
   obtain ⟨D,hD⟩:∃ D,D=zBr f (n/10):=⟨_,rfl⟩
   obtain ⟨O,hO⟩:∃ O,O=one (UInt8.ofNat (48+n%10)):=⟨_,rfl⟩
   rw [<- hD] at HA K ⊢
   rw [<- hO] at HB Q ⊢
   have e10:((n/10:Nat):Int)=(n:Int)/10:=by omega
   have e11:((n%10:Nat):Int)=(n:Int)%10:=by omega
   rw [e10] at HA
   rw [e11] at HB
   clear hf hp e hD hO e10 e11
   go_enter Tryz.func53,Tryz.ntmps53
   go_wp2_with fail
   (with_reducible refine ((zA HA) w).mono ?_)
   rintro e w1 ⟨rfl,hb1⟩
   have H:=zB hb1
   clear hb1 HA
   go_wp2_with fail
   (with_reducible refine ((zA HB) w1).mono ?_)
   rintro e w2 ⟨rfl,hb2⟩
   have q:=zB ((zA H).trans (hb2.mono (zA H).size))
   clear hb2 HB
   go_wp2_with fail
   go_ret
   exact ⟨rfl,zA q⟩
def zR2:ByteArray:=⟨#[112,114,101,102,105,120,32]⟩
def zQv:ByteArray:=⟨#[112,111,115,116,102,105,120,32]⟩
def zR3:ByteArray:=⟨#[105,110,102,105,120,32]⟩
theorem zRU {o:OpR} (h:o.k=1):zBG (dW o)=zR2++(o.s++one 32++zBr 7 o.l.toNat):=by
 unfold dW
 rw [yO h]
 simp only [zBG]
 have e:zR2=zAB++one 32:=by apply ByteArray.ext; rfl
 rw [e,zDD,zDD]
theorem zQB {o:OpR} (h:o.k=3):zBG (dW o)=zQv++(o.s++one 32++zBr 7 o.l.toNat):=by
 unfold dW
 rw [yN (by omega),yO h]
 simp only [zBG]
 have e:zQv=Zk++one 32:=by apply ByteArray.ext; rfl
 rw [e,zDD,zDD]
theorem zRV {o:OpR} (h:o.k=2):zBG (dW o)=zR3++(o.s++one 32++zBr 7 o.l.toNat)++(one 32++sdW o.sd):=by
 unfold dW
 rw [yN (by omega),yN (by omega)]
 simp only [zBG]
 have e:zR3=zAx++one 32:=by apply ByteArray.ext; rfl
 rw [e]
 simp only [zDD]
theorem zER (o:OpR) (w:JY) (h:OpT o) (hs:o.s.size<=1048576) :
  Calls Tryz.prog 51 #[.agg #[.string o.s,.int .i64 o.k,.int .i64 o.l,.int .i64 o.sd]] w fun e w'=>e = .returned (.string (zBG (dW o)))/\Below w.heap.size w w':=by
 obtain ⟨h1,⟨n,hn,x⟩,h3⟩:=h
 have hd:=zRU (o:=o)
 have H:=zQB (o:=o)
 have K:=zRV (o:=o)
 obtain ⟨J,hJ⟩:∃ J,J=zBG (dW o):=⟨_,rfl⟩
 rw [<- hJ] at hd H K ⊢
 obtain ⟨s,k,l,sd⟩:=o
 simp only at hn h3 hs hd H K ⊢
 subst hn
 have e:((n:Nat):Int).toNat=n:=rfl
 rw [e] at hd H K
 have HA:=zB (fun W=>zFX 7 n W (by omega) (by decide) (by decide) (by omega))
 have Q:=zGM 7 n
 obtain ⟨D,hD⟩:∃ D,D=zBr 7 n:=⟨_,rfl⟩
 rw [<- hD] at HA Q hd H K
 clear hJ hD e h1
 have HX:=zB ((zA HA) (w.alloc (.cells #[.string s,.int .i64 k,.int .i64 (n:Int),.int .i64 sd] 57)).drew)
 have q1:s.size+(⟨#[32]⟩:JZ).size<=9223372036854775807:=by show s.size+1<=_; omega
 have q2:(s++⟨#[32]⟩:JZ).size+D.size<=9223372036854775807:=by rw [za]; show s.size+1+D.size<=_; omega
 have r1:=fun W:World=>run_string_add_sum (P:=Tryz.prog) (w:=W) s ⟨#[32]⟩ q1
 have r2:=fun W:World=>run_string_add_sum (P:=Tryz.prog) (w:=W) (s++⟨#[32]⟩) D q2
 have l0:w.heap.size<(w.alloc (.cells #[.string s,.int .i64 k,.int .i64 (n:Int),.int .i64 sd] 57)).drew.heap.size:=by simp
 have HC:=zB (show (w.alloc (.cells #[.string s,.int .i64 k,.int .i64 (n:Int),.int .i64 sd] 57)).drew.cell? ⟨w.heap.size,0,none⟩=some (.string s)/\(w.alloc (.cells #[.string s,.int .i64 k,.int .i64 (n:Int),.int .i64 sd] 57)).drew.cell? ⟨w.heap.size,1,none⟩=some (.int .i64 k)/\(w.alloc (.cells #[.string s,.int .i64 k,.int .i64 (n:Int),.int .i64 sd] 57)).drew.cell? ⟨w.heap.size,2,none⟩=some (.int .i64 (n:Int))/\(w.alloc (.cells #[.string s,.int .i64 k,.int .i64 (n:Int),.int .i64 sd] 57)).drew.cell? ⟨w.heap.size,3,none⟩=some (.int .i64 sd) from ⟨by simp [go_sem],by simp [go_sem],by simp [go_sem],by simp [go_sem]⟩)
 clear HA
 go_enter Tryz.func51,Tryz.ntmps51
 go_wp2_with fail
 go_region_held3 (fun W=>W.cell? ⟨w.heap.size,0,none⟩=some (.string s)/\W.cell? ⟨w.heap.size,2,none⟩=some (.int .i64 (n:Int))) (go_keep) (first | (go_at_call 53; (with_reducible refine (zA HX).mono ?_); rintro e w1 ⟨rfl,hb1⟩; have j0:=(hb1.cell (p:=⟨w.heap.size,0,none⟩) l0).trans (zA HC).1; have j1:=(hb1.cell (p:=⟨w.heap.size,1,none⟩) l0).trans (zA HC).2.1; have j2:=(hb1.cell (p:=⟨w.heap.size,2,none⟩) l0).trans (zA HC).2.2.1; have j3:=(hb1.cell (p:=⟨w.heap.size,3,none⟩) l0).trans (zA HC).2.2.2; have q:=zB (show Below w.heap.size w w1 from (zC _ _).drew.trans (hb1.mono (by simp))); clear hb1))
 all_goals
  rcases h3 with ⟨rfl,rfl⟩ | ⟨rfl,rfl⟩ | ⟨rfl,h3⟩
  ·have e:=hd rfl
   clear hd K H
   go_wp2_with fail
   go_ret
   exact ⟨by rw [e]; rfl,zA q⟩
  ·have e:=H rfl
   clear hd K H
   go_wp2_with fail
   go_ret
   exact ⟨by rw [e]; rfl,zA q⟩
  ·have e:=K rfl
   clear hd K H
   rcases h3 with rfl | rfl | rfl
   all_goals
    go_wp2_with fail
    go_ret
    exact ⟨by rw [e]; first | rfl | (apply yS; apply yS; apply ByteArray.ext; simp [ByteArray.data_append,sdW,one,zDB,zB2,zDC]; done),zA q⟩
theorem zRW (W:JY) (c:Int):(convert 22 9 (.slice (some ⟨W.heap.size,0,none⟩) 1 1)).run Tryz.prog (W.alloc (.cells #[.int .u8 c] 5)).drew = .ok (.string ⟨#[UInt8.ofNat c.toNat]⟩) (W.alloc (.cells #[.int .u8 c] 5)).drew:=by
 rw [run_convert_bytes_string _ 22 9 5 _ _ _ Tryz.underlying22 Tryz.underlying5 Tryz.underlying9]
 have hl:(loadCells ⟨W.heap.size,0,none⟩ 1).run Tryz.prog (W.alloc (.cells #[.int .u8 c] 5)).drew = .ok ([c].map (Value.int .u8)).toArray (W.alloc (.cells #[.int .u8 c] 5)).drew:=
  run_loadCells_list (P:=Tryz.prog) _ ⟨W.heap.size,0,none⟩ [.int .u8 c] (fun j v hv=>by
   match j,hv with
   | 0,hv=>simp at hv; subst hv; simp [Addr.add,go_sem])
 rw [run_bytesToString _ ⟨W.heap.size,0,none⟩ 1 1 [c] hl]
 rfl
theorem zHO (i:Nat) (w:JY) (hi:i<1000000) :
  Calls Tryz.prog 45 #[.int .i64 (i:Int)] w fun e w'=>e = .returned (.string (zDE i))/\Below w.heap.size w w':=by
 obtain ⟨r,hr,H⟩:∃ r:Nat,r=i%8/\r<8:=⟨_,rfl,Nat.mod_lt _ (by decide)⟩
 obtain ⟨c,hc,K⟩:∃ c:Nat,c=109+r/\c<256:=⟨_,rfl,by omega⟩
 obtain ⟨d,hd,q⟩:∃ d:Nat,d=i/8/\d<1000000:=⟨_,rfl,by omega⟩
 obtain ⟨m,hm,k⟩:∃ m:Nat,m=d%3/\m<=2:=⟨_,rfl,by omega⟩
 have t1:(i:Int).tmod 8=(r:Int):=by rw [yu (by omega),hr]; omega
 have t2:IntKind.i64.wrap (109+(r:Int))=(c:Int):=by rw [Go.IntWalk.i64_in _ (by omega),hc]; omega
 have t3:IntKind.u8.wrap (c:Int)=(c:Int):=Go.IntWalk.u8_in _ (by omega)
 have t4:IntKind.i64.wrap ((i:Int)/8)=(d:Int):=by rw [Go.IntWalk.i64_in _ (by omega),hd]; omega
 have t5:(d:Int).tmod 3=(m:Int):=by rw [yu (by omega),hm]; omega
 have i1:(0:Int)<=(m:Int):=by omega
 have i2:(m:Int)<=2:=by omega
 have i3:(m:Int)<=((⟨#[95,49]⟩:JZ).size:Int):=i2
 have HN:=zB (show zDE i=one (UInt8.ofNat c)++(⟨#[95,49]⟩:JZ).extract 0 m by rw [hc,hr,hm,hd]; rfl)
 have h:=zRW w c
 clear hc hm hr hd
 go_enter Tryz.func45,Tryz.ntmps45
 go_wp2_with fail
 go_region
 go_wp2_with fail
 go_ret
 refine ⟨?_,(zC _ _).drew⟩
 rw [zA HN]
 rfl
theorem zRX (h:i<xs.length):atO xs i∈xs:=by
 unfold atO
 rw [yk,yn h]
 exact List.getElem_mem h
end Go.Proofs.YtgbkgkdpdfdokaaGreatDoor
