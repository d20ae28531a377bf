import Derived.Test.YtgbkgkdpdfdokaaGreatDoorQ10
namespace Go.Proofs.YtgbkgkdpdfdokaaGreatDoor
set_option linter.all false
set_option maxHeartbeats 16000000
set_option maxRecDepth 100000
open Go.RowKit
variable {us:List ByteArray}
theorem zEM (v:Value) (ws:List JZ) (w:JY) (hs:zq w v ws) (hz:∀ x∈ws,x.size<=maxLen) :
  Calls Tryz.prog 26 #[v] w (zLL w ws):=
 zMR 26 v ws w hs hz (fun a c n w h=>zLQ a c n w h) (fun g c n k t l sd w h1 h2 h3 h4 h5 h6=>zKJ g c n k t l sd w h1 h2 h3 h4 h5 h6)
theorem zOI {s:JZ} (h:20000<s.size):zy s [] [] ByteArray.empty 1 0:=yQ ⟨h,rfl,rfl,rfl,rfl,rfl⟩
theorem zOJ (c:UInt8) (s:JZ):∀ (n a:Nat),s.size-a<n->a<=s.size->∀ p∈pcs c s a,p.1<=p.2/\p.2<=s.size
 | 0,a,hn,ha=>by omega
 | n+1,a,hn,ha=>by
  obtain ⟨g1,g2,g3,g4⟩:=zAP c s a ha
  rw [zBa c s a ha]
  intro p hp
  rcases List.mem_cons.1 hp with rfl | hp
  ·exact ⟨g1,g2⟩
  ·by_cases h:nx c s a<s.size
   ·rw [yO h] at hp
    exact zOJ c s n _ (by omega) (by omega) p hp
   ·rw [yN h] at hp; cases hp
theorem zOK {ls:List LnR} {k:Nat} (h:k<ls.length):(plc ls).drop k=((atL ls k).f,(atL ls k).t)::(plc ls).drop (k+1):=by
 have hl:k<(plc ls).length:=by simpa [plc] using h
 rw [List.drop_eq_getElem_cons hl]
 congr 1
 simp [plc,atL,yk,yn h]
theorem zFt {s:JZ} {ls:List LnR} {k:Nat} (h:k<ls.length) {os:List OpR} (ht:zC3 s ((plc ls).drop k) (k+1) us os) (hn:wsL s ls k≠[Zp]):(∀ us' os',zAL (wsL s ls k) us os us' os'->zC3 s ((plc ls).drop (k+1)) (k+1+1) us' os')/\((∀ us' os',¬ zAL (wsL s ls k) us os us' os')->zy s [] [] ByteArray.empty 2 ((k+1:Nat):Int)):=by
 rw [zOK h] at ht
 exact ⟨fun us' os' hl=>ht.next hn hl,fun hl=>ht.bad hn hl⟩
theorem zEv {B U:Nat} {vu vo:Value} {os:List OpR} {b x:JZ} {w w1 w4:JY} {g4 c4:Nat} (h:UnM w B U vu vo us os b) (hb:Below w.heap.size w w1)
  (H:w4.ownsRow B 9 1 (.slice (some ⟨g4,0,none⟩) (us.length+1) c4) (us.length+1) (zI us++zI [x])) (hg:w1.grownBy w4 vu.ownBlock) (k:vu.ownBlock=some g4\/g4=w1.heap.size) :
  UnM (w4.setCell ⟨U,0,none⟩ (.slice (some ⟨g4,0,none⟩) (us.length+1) c4)) B U (.slice (some ⟨g4,0,none⟩) (us.length+1) c4) vo (us++[x]) os b/\Below B w (w4.setCell ⟨U,0,none⟩ (.slice (some ⟨g4,0,none⟩) (us.length+1) c4)):=by
 have hr:zZ w4 B (.slice (some ⟨g4,0,none⟩) (us.length+1) c4) (us++[x]):=by
  unfold zZ
  rw [Zx,ym]
  exact H
 exact h.putU hb hg hr (k.imp (fun e=>e.symm) (fun e=>⟨g4,rfl,by omega⟩))
theorem zCf (s:JZ) (w:JY) (hs:s.size<=maxLen) :
  Calls Tryz.prog 11 #[.string s] w (zEs w s):=by
 by_cases hu:20000<s.size
 ·have Hq:(20000:Int)<(s.size:Int):=by omega
  have HP:=zB (fun w'=>zAE (w:=w) (w':=w') (zOI hu))
  unfold maxLen at hs
  clear hu
  go_enter Tryz.func11,Tryz.ntmps11
  go_wp2
  refine yK (v:=.tuple #[.agg #[.slice none 0 0,.slice none 0 0,.string ⟨#[]⟩],.int .i64 1,.int .i64 0]) ?res rfl ((zA HP) _ ?_)
  case res=>simp [results,Tryz.results11,go_sem]
  first
   | exact zC _ _
   | exact zK (yh _) [.slice none 0 0,.slice none 0 0,.string ⟨#[]⟩] 0 _ (zC _ _)
 have Hy:s.size<=20000:=by omega
 have Hq:¬ (20000:Int)<(s.size:Int):=by omega
 clear hu hs
 obtain ⟨iS,Hh,hM,hO,hN⟩:=zN zCL
 have HI:=zB Hh
 have HZ:=zB (yH hM (yH hO hN))
 obtain ⟨iO,Hk,hR,hP,hQ⟩:=zN zCr
 have Hg:=zB Hk
 have hz:=zB (yH hR (yH hP hQ))
 clear Hh hM hO hN Hk hR hP hQ
 have HL:=zB (zFr s (w.alloc (.cells #[.slice none 0 0,.slice none 0 0,.string ⟨#[]⟩] 41)) (by omega))
 have Hd:=zB (show zDZ (w.alloc (.cells #[.slice none 0 0,.slice none 0 0,.string ⟨#[]⟩] 41)) w.heap.size from ⟨by simp [go_sem],by simp [go_sem],by simp [go_sem],fun o=>by simp [go_sem]⟩)
 go_enter Tryz.func11,Tryz.ntmps11
 go_wp2_with fail
 (with_reducible refine (zA HL).mono ?_)
 rintro e w1 ⟨g,c,ls,rfl,hg,hgl,HOP,HST,HPL,hll,hb1⟩
 have hS:=zB (show Below w.heap.size w w1 from (zC _ _).trans (hb1.mono (by simp)))
 have hJ:=zB ((zA Hd).below hb1 (by simp))
 have z1:w.heap.size+1<=w1.heap.size:=by have:=hb1.size; simp at this; omega
 have H2:w.heap.size+1<=g:=by simpa using hg
 have Hn:=zB (zFs s g c ls w1 (by omega) (zA HOP) (zA HST))
 clear hb1 HL Hd hg
 go_wp2_with fail
 (with_reducible refine (zA Hn).mono ?_)
 rintro e w1' ⟨rb,rfl,hbeg,hx⟩
 obtain rfl:=hx.symm
 clear hx Hn
 have hF:=zB (show zC3 s ((plc ls).drop 0) (0+1) [] [] by rw [List.drop_zero,zA HPL]; exact zC3.start Hy)
 have Hu:=zB (show ∀ i,i<ls.length->(atL ls i).t<=s.size from fun i hi=>by
  have:=zOJ 10 s (s.size+1) 0 (by omega) (yj _) ((atL ls i).f,(atL ls i).t) (by rw [<- zA HPL]; exact List.mem_map.2 ⟨atL ls i,zCM hi,rfl⟩)
  exact this.2)
 have Hc:∃ E:Nat,E<=ls.length/\(∀ j,j<E->wsL s ls j≠[Zp])/\((rb = -1/\E=ls.length)\/(rb=(E:Int)/\E<ls.length/\wsL s ls E=[Zp])):=by
  rcases hbeg with ⟨h1,h2⟩ | ⟨i,h1,h2,h3,h4⟩
  ·exact ⟨ls.length,yh _,h2,yQ ⟨h1,rfl⟩⟩
  ·exact ⟨i,by omega,h4,yR ⟨h2,h1,h3⟩⟩
 obtain ⟨E,hE,Hf,Hs⟩:=Hc
 have Hi:=zB Hf
 have hG:=zB (show Below w1.heap.size w1 (((w1.alloc (.cells #[] 9)).alloc (.cells #[] 57)).alloc (.cells #[.slice (some ⟨w1.heap.size,0,none⟩) 0 0,.slice (some ⟨w1.heap.size+1,0,none⟩) 0 0,.string ⟨#[]⟩] 41)) from ((zC _ _).alloc (by simp) _).alloc (by simp; omega) _)
 have hH:=zB (show UnM (((w1.alloc (.cells #[] 9)).alloc (.cells #[] 57)).alloc (.cells #[.slice (some ⟨w1.heap.size,0,none⟩) 0 0,.slice (some ⟨w1.heap.size+1,0,none⟩) 0 0,.string ⟨#[]⟩] 41)) w1.heap.size (w1.heap.size+1+1) (.slice (some ⟨w1.heap.size,0,none⟩) 0 0) (.slice (some ⟨w1.heap.size+1,0,none⟩) 0 0) [] [] ⟨#[]⟩ from
  ⟨by simp [go_sem],by simp [go_sem],by simp [go_sem],fun o=>by simp [go_sem],by omega,by
   have:=((yD (base:=w1.heap.size) (e:=9) (size:=1) w1 #[] 0 (yh _) (yj _) rfl).alloc (.cells #[] 57)).alloc (.cells #[.slice (some ⟨w1.heap.size,0,none⟩) 0 0,.slice (some ⟨w1.heap.size+1,0,none⟩) 0 0,.string ⟨#[]⟩] 41)
   simpa [zZ,zI] using this,by
   have:=(yD (base:=w1.heap.size) (e:=57) (size:=4) (w1.alloc (.cells #[] 9)) #[] 0 (by simp) (yj _) rfl).alloc (.cells #[.slice (some ⟨w1.heap.size,0,none⟩) 0 0,.slice (some ⟨w1.heap.size+1,0,none⟩) 0 0,.string ⟨#[]⟩] 41)
   simpa [Zw,zU] using this,(by simp [Value.ownBlock]; omega),(by simp [Value.ownBlock]),fun q e e2=>by simp [Value.ownBlock] at e e2; omega⟩)
 clear hbeg Hf
 rcases Hs with ⟨hY,h8⟩ | ⟨hY,h8,Hj⟩
 ·subst hY
  subst h8
  go_wp2_with fail
  go_loopw [9] (fun i wr=>∃ (k:Nat) (us:List JZ) (os:List OpR) (vu vo:Value),k<=ls.length/\i = .int .i64 (k:Int)/\us.length<=k/\os.length<=k/\Hid (zC3 s ((plc ls).drop k) (k+1) us os)/\Hid (UnM wr w1.heap.size (w1.heap.size+1+1) vu vo us os ⟨#[]⟩)/\Below w1.heap.size w1 wr) (fun i _=>ls.length-(intOf i).toNat)
  case atStart=>exact ⟨0,[],[],_,_,yj _,rfl,yh _,yh _,hF,hH,zA hG⟩
  case round=>
   clear hH hG hF
   obtain ⟨k,us,os,vu,vo,hk,rfl,Hz,Hx,HT,HU,J⟩:=hrel
   have Ht:=J.size
   have he:=zB (show Below w.heap.size w wr from (zA hS).trans (J.mono (by omega)))
   have hU:=(zA HU).lt
   by_cases Ha:k<ls.length
   ·have He:(k:Int)<(ls.length:Int):=by omega
    have ha:k<ls.length:=by omega
    have Hl:(k:Int)<(ls.length:Int):=by omega
    obtain ⟨o0,_,_⟩:=((zA HOP).below J hgl) k ha
    obtain ⟨ws,G⟩:∃ ws,ws=wsL s ls k:=⟨_,rfl⟩
    have hp:zq wr (atL ls k).wv ws:=by rw [G]; exact ((zA HST) _ (zCM ha)).below J
    have h6:∀ x∈ws,x.size<=maxLen:=fun x hx=>by
     rw [G] at hx
     have h1:=zEu hx
     rw [Zs] at h1
     unfold maxLen
     omega
    obtain ⟨ht,r⟩:=zFt ha (zA HT) ((zA Hi) k Ha)
    rw [<- G] at ht r
    have D:=zB ht
    have U:=zB r
    have hh:=zB (zEM _ ws wr hp h6)
    have hf:∀ q n c,(atL ls k).wv = .slice (some ⟨q,0,none⟩) n c->n≠0->q<w1.heap.size:=fun q n c e hn=>by
     obtain ⟨a',c',hm,h'⟩:=(zA HST) _ (zCM ha)
     rw [e] at hm
     simp only [Value.slice.injEq] at hm
     obtain ⟨h1,h2,_⟩:=hm
     rcases h' with h' | ⟨q',h3,h4,_⟩
     ·omega
     ·rw [h3] at h1
      simp only [Option.some.injEq,Addr.mk.injEq] at h1
      omega
    have F:=zB hf
    have R:=zB hp
    obtain ⟨aw,cw,hv,_⟩:=hp
    rw [hv] at o0 hh R F
    have Hr:=zB G
    clear G h6 ht r hv HT hf
    go_wp2_with fail
    (with_reducible refine (zA hh).mono ?_)
    rintro e w2 ⟨o,ok,rfl,hcase,hb2⟩
    have X:=zB ((zA HU).below hb2)
    have z2:=hb2.size
    have L:=zB (show Below w1.heap.size w1 w2 from J.trans (hb2.mono (by omega)))
    have hd:=zB (show Below w.heap.size w w2 from (zA he).trans (hb2.mono (by omega)))
    have P:=zB ((zA R).below hb2)
    have hD:=(zA X).lt
    clear hb2 hh HU R he J o0 hU
    rcases hcase with ⟨rfl,ho⟩ | ⟨rfl,ho⟩
    ·have HO:=zB ho
     obtain ⟨ao,co,rfl⟩:∃ a c,vo = .slice a os.length c:=zO (zA X).ro
     have u1:=(zA X).c1
     clear ho U
     go_wp2_with (at_builtin; refine yJ _ rfl (.tmp 46) (.tmp 48) 31 rfl w1.heap.size 57 iO _ 4 40 Tryz.underlying31 (zA Hg) (zA hz).1 (zA hz).2.1 (zA hz).2.2 rfl (by decide) _ os.length (zU os) rfl ((zA X).ro.below ((zC _ _).alloc (by simp) _)) ⟨w2.heap.size+1,0,none⟩ 1 1 (zU [o]) rfl rfl (fun j u hj=>(by simpa using zAH (w2.alloc (.cells #[.string o.s,.int .i64 o.k,.int .i64 o.l,.int .i64 o.sd] 57)) o j u hj)) (ZA _) ?b1 ?b2 ?b3 ?next)
     case b1=>unfold maxLen; omega
     case b2=>omega
     case b3=>simp; omega
     case next=>
      intro v4 w4 Q H M Y
      have y:Below w2.heap.size w2 ((w2.alloc (.cells #[.string o.s,.int .i64 o.k,.int .i64 o.l,.int .i64 o.sd] 57)).alloc (.cells #[.string o.s,.int .i64 o.k,.int .i64 o.l,.int .i64 o.sd] 57)):=(zC _ _).alloc (by simp) _
      obtain ⟨kc,kf⟩:=(zA X).keep y (yR rfl) H
      have m0:=(kc 1).trans u1
      have g1:=kf 1
      have hA:Zw w4 w1.heap.size v4 (os++[o]):=by
       unfold Zw
       rw [ZT,ym]
       exact Q
      obtain ⟨b,B⟩:=(zA X).putO y H hA (Y.imp id (fun e=>⟨_,e,by simp⟩))
      obtain ⟨g4,c4,rfl⟩:=zBS Q (by simp [M])
      have m:=zB b
      have Z:=zB (show Below w1.heap.size w1 _ from (zA L).trans B)
      clear Q H Y M kc kf y b B hA u1
      go_wp2_with fail
      refine ⟨⟨k+1,us,os++[o],_,_,by omega,by go_num,by omega,by simp; omega,zB ((zA D) _ _ (yR (yR ⟨o,zA HO,rfl,rfl⟩))),m,zA Z⟩,by simp [intOf]; omega⟩
    ·have C:=zB ho
     clear ho
     by_cases V:∃ x,ws=[zHk,x]
     ·obtain ⟨x,rfl⟩:=V
      obtain ⟨gw,cw',I,A,hc⟩:=(zA P).lt (by simp)
      simp only [Value.slice.injEq] at I
      obtain ⟨rfl,_,rfl⟩:=I
      have k0:w2.cell? ⟨gw,0,none⟩=some (.string ⟨#[117,115,101]⟩):=hc 0 _ rfl
      have k1:w2.cell? ⟨gw,1,none⟩=some (.string x):=hc 1 _ rfl
      have Ho:gw<w1.heap.size:=(zA F) gw _ _ rfl (by simp)
      have h9:gw≠w1.heap.size+1+1:=by omega
      have hC:=zB (show vu.ownBlock≠some gw from fun e=>by have:=((zA X).ru.lt gw e).1; omega)
      obtain ⟨au,cu,rfl⟩:=zO (zA X).ru
      have u0:=(zA X).c0
      have hV:[zHk,x].length=2:=rfl
      rw [hV]
      have hX:(w2.alloc (.cells #[.string o.s,.int .i64 o.k,.int .i64 o.l,.int .i64 o.sd] 57)).cell? ⟨w1.heap.size+1+1,0,none⟩=some (.slice au us.length cu):=((zC w2 _).cell (p:=⟨w1.heap.size+1+1,0,none⟩) hD).trans u0
      have k6:∀ o',((w2.alloc (.cells #[.string o.s,.int .i64 o.k,.int .i64 o.l,.int .i64 o.sd] 57)).alloc o').drew.cell? ⟨w1.heap.size+1+1,0,none⟩=some (.slice au us.length cu):=fun o'=>((zC (w2.alloc (.cells #[.string o.s,.int .i64 o.k,.int .i64 o.l,.int .i64 o.sd] 57)) o').cell (p:=⟨w1.heap.size+1+1,0,none⟩) (by simp; omega)).trans hX
      have d:(fun W:World=>W.cell? ⟨gw,1,none⟩=some (.string x)/\True) (w2.alloc (.cells #[.string o.s,.int .i64 o.k,.int .i64 o.l,.int .i64 o.sd] 57)).drew:=⟨((zC w2 _).cell (p:=⟨gw,1,none⟩) A).trans k1,trivial⟩
      have hy:=zB (show (fun W:World=>W.cell? ⟨gw,1,none⟩=some (.string x)/\True) ((w2.alloc (.cells #[.string o.s,.int .i64 o.k,.int .i64 o.l,.int .i64 o.sd] 57)).alloc (.cells #[.string x] 9)).drew from ⟨((zC (w2.alloc (.cells #[.string o.s,.int .i64 o.k,.int .i64 o.l,.int .i64 o.sd] 57)) _).cell (p:=⟨gw,1,none⟩) (by simp; omega)).trans (((zC w2 _).cell (p:=⟨gw,1,none⟩) A).trans k1),trivial⟩)
      clear hc C U P F
      go_wp2_with fail
      refine wp_region_held_drew (S:=fun W:World=>W.cell? ⟨gw,1,none⟩=some (.string x)/\True) (by kernel_rfl) d (fun _=>?_)
      refine yI (i:=0) (v:=?_) rfl (by kernel_rfl) (by kernel_rfl) (by kernel_rfl) (fun _ _ _ h=>h) (yQ ⟨by rfl,?_⟩) d ?_
      rotate_left
      ·intro W hW; obtain ⟨s1,_⟩:=hW; simp only [yc,ya,yb]; go_simp; first | done | (with_reducible rfl)
      simp only [yc,ya,yb]
      simp only [Act.put,yd,ye,yf]
      refine yI (i:=2) (v:=?_) rfl (by kernel_rfl) (by kernel_rfl) (by kernel_rfl) (fun _ _ _ h=>h) (yQ ⟨by rfl,?_⟩) d ?_
      rotate_left
      ·intro W hW; obtain ⟨s1,_⟩:=hW; simp only [yc,ya,yb]; go_simp; first | done | (with_reducible rfl)
      simp only [yc,ya,yb]
      simp only [Act.put,yd,ye,yf]
      refine yI (i:=3) (v:=?_) rfl (by kernel_rfl) (by kernel_rfl) (by kernel_rfl) (fun _ _ _ h=>h) (yQ ⟨by rfl,?_⟩) d ?_
      rotate_left
      ·intro W hW; obtain ⟨s1,_⟩:=hW; simp only [yc,ya,yb]; go_simp; first | done | (with_reducible rfl)
      simp only [yc,ya,yb]
      simp only [Act.put,yd,ye,yf]
      refine yI (i:=4) (v:=?_) rfl (by kernel_rfl) (by kernel_rfl) (by kernel_rfl) (fun _ _ _ h=>h) (yQ ⟨by rfl,?_⟩) d ?_
      rotate_left
      ·intro W hW; obtain ⟨s1,_⟩:=hW; simp only [yc,ya,yb]; go_simp; first | done | (with_reducible rfl)
      simp only [yc,ya,yb]
      simp only [Act.put,yd,ye,yf]
      refine yL (rs:=[1,5]) (by kernel_rfl) (by simp) ?_
      refine yE rfl (fun K hK=>?_) (yE rfl (fun K hK=>?_) yF)
      ·simp only [yc,ya,yb]
       go_simp
       refine hK.out _ _ d (fun _=>?_)
       clear hK
       refine yL (rs:=[5]) (by kernel_rfl) (by simp) ?_
       refine yE rfl (fun K hK=>?_) yF
       simp only [yc,ya,yb]
       go_simp
       refine hK.out _ _ (zA hy) (fun _=>?_)
       clear hK
       refine yL (rs:=[6]) (by kernel_rfl) (by simp) ?_
       refine yE rfl (fun K hK=>?_) yF
       refine step_append_lies _ (by rfl) (.tmp 61) (.tmp 65) 39 (by rfl) w1.heap.size 9 iS _ 1 16 Tryz.underlying39 (zA HI) (zA HZ).1 (zA HZ).2.1 (zA HZ).2.2 rfl (by decide) _ us.length (zI us) (by rfl) ((zA X).ru.below (((zC _ _).alloc (by simp) _).drew)) ⟨w2.heap.size+1,0,none⟩ 1 1 (zI [x]) (by rfl) rfl (fun j u hj=>(by simpa using ZG (w2.alloc (.cells #[.string o.s,.int .i64 o.k,.int .i64 o.l,.int .i64 o.sd] 57)) x j u hj)) (zT _) (by decide) (by unfold maxLen; omega) (by omega) (by simp; omega) _ rfl ?_
       intro g4 c4 w4 Q H Y z
       have y:Below w2.heap.size w2 ((w2.alloc (.cells #[.string o.s,.int .i64 o.k,.int .i64 o.l,.int .i64 o.sd] 57)).alloc (.cells #[.string x] 9)).drew:=((zC _ _).alloc (by simp) _).drew
       obtain ⟨kc,kf⟩:=(zA X).keep y (yQ rfl) H
       have m0:=(kc 0).trans u0
       have g0:=kf 0
       have m1:w4.cell? ⟨gw,1,none⟩=some (.string x):=(zE H (by simp; omega) (zA hC) 1).trans ((y.cell (p:=⟨gw,1,none⟩) A).trans k1)
       obtain ⟨b,B⟩:=zEv (zA X) y Q H Y
       have m:=zB b
       have Z:=zB (show Below w1.heap.size w1 _ from (zA L).trans B)
       clear Q H Y z kc kf y b B
       refine hK.out _ _ ⟨m1,trivial⟩ (fun N=>?_)
       clear hK
       simp only [yc,ya,yb]
       simp only [Act.put,yd,ye,yf]
       refine yI (i:=7) (v:=?_) rfl (by kernel_rfl) (by kernel_rfl) (by kernel_rfl) (fun _ _ _ h=>h) (yQ ⟨by rfl,?_⟩) N ?_
       rotate_left
       ·intro W hW; obtain ⟨s1,_⟩:=hW; simp only [yc,ya,yb]; go_simp; first | done | (with_reducible rfl)
       simp only [yc,ya,yb]
       simp only [Act.put,yd,ye,yf]
       refine yL (rs:=[8]) (by kernel_rfl) (by simp) ?_
       refine yE rfl (fun K hK=>?_) yF
       simp only [yc,ya,yb]
       go_simp
       refine hK.out _ _ ⟨by rw [yg _ _ _ _ (by simp [h9])]; exact m1,trivial⟩ (fun hw=>?_)
       clear hK
       refine wpAnyH_done (by kernel_rfl) ?_ _
       clear N hw
       go_wp2_with fail
       refine ⟨⟨k+1,us++[x],os,_,_,by omega,by go_num,by simp; omega,by omega,zB ((zA D) _ _ (yR (yQ ⟨x,rfl,rfl,rfl⟩))),m,zA Z⟩,by simp [intOf]; omega⟩
      ·simp only [yc,ya,yb]
       go_simp
       refine hK.out _ _ (zA hy) (fun _=>?_)
       clear hK
       refine yL (rs:=[1]) (by kernel_rfl) (by simp) ?_
       refine yE rfl (fun K hK=>?_) yF
       simp only [yc,ya,yb]
       go_simp
       refine hK.out _ _ (zA hy) (fun _=>?_)
       clear hK
       refine yL (rs:=[6]) (by kernel_rfl) (by simp) ?_
       refine yE rfl (fun K hK=>?_) yF
       refine step_append_lies _ (by rfl) (.tmp 61) (.tmp 65) 39 (by rfl) w1.heap.size 9 iS _ 1 16 Tryz.underlying39 (zA HI) (zA HZ).1 (zA HZ).2.1 (zA HZ).2.2 rfl (by decide) _ us.length (zI us) (by rfl) ((zA X).ru.below (((zC _ _).alloc (by simp) _).drew)) ⟨w2.heap.size+1,0,none⟩ 1 1 (zI [x]) (by rfl) rfl (fun j u hj=>(by simpa using ZG (w2.alloc (.cells #[.string o.s,.int .i64 o.k,.int .i64 o.l,.int .i64 o.sd] 57)) x j u hj)) (zT _) (by decide) (by unfold maxLen; omega) (by omega) (by simp; omega) _ rfl ?_
       intro g4 c4 w4 Q H Y z
       have y:Below w2.heap.size w2 ((w2.alloc (.cells #[.string o.s,.int .i64 o.k,.int .i64 o.l,.int .i64 o.sd] 57)).alloc (.cells #[.string x] 9)).drew:=((zC _ _).alloc (by simp) _).drew
       obtain ⟨kc,kf⟩:=(zA X).keep y (yQ rfl) H
       have m0:=(kc 0).trans u0
       have g0:=kf 0
       have m1:w4.cell? ⟨gw,1,none⟩=some (.string x):=(zE H (by simp; omega) (zA hC) 1).trans ((y.cell (p:=⟨gw,1,none⟩) A).trans k1)
       obtain ⟨b,B⟩:=zEv (zA X) y Q H Y
       have m:=zB b
       have Z:=zB (show Below w1.heap.size w1 _ from (zA L).trans B)
       clear Q H Y z kc kf y b B
       refine hK.out _ _ ⟨m1,trivial⟩ (fun N=>?_)
       clear hK
       simp only [yc,ya,yb]
       simp only [Act.put,yd,ye,yf]
       refine yI (i:=7) (v:=?_) rfl (by kernel_rfl) (by kernel_rfl) (by kernel_rfl) (fun _ _ _ h=>h) (yQ ⟨by rfl,?_⟩) N ?_
       rotate_left
       ·intro W hW; obtain ⟨s1,_⟩:=hW; simp only [yc,ya,yb]; go_simp; first | done | (with_reducible rfl)
       simp only [yc,ya,yb]
       simp only [Act.put,yd,ye,yf]
       refine yL (rs:=[8]) (by kernel_rfl) (by simp) ?_
       refine yE rfl (fun K hK=>?_) yF
       simp only [yc,ya,yb]
       go_simp
       refine hK.out _ _ ⟨by rw [yg _ _ _ _ (by simp [h9])]; exact m1,trivial⟩ (fun hw=>?_)
       clear hK
       refine wpAnyH_done (by kernel_rfl) ?_ _
       clear N hw
       go_wp2_with fail
       refine ⟨⟨k+1,us++[x],os,_,_,by omega,by go_num,by simp; omega,by omega,zB ((zA D) _ _ (yR (yQ ⟨x,rfl,rfl,rfl⟩))),m,zA Z⟩,by simp [intOf]; omega⟩
     ·have O:ws.length≠0->∀ us' os',¬ zAL ws us os us' os':=fun h0 us' os' hl=>by
       rcases hl with ⟨e,_⟩ | ⟨x,e,_⟩ | ⟨o',e,_⟩
       ·exact h0 (by rw [e]; rfl)
       ·exact V ⟨x,e⟩
       ·exact (zA C) o' e
      by_cases h0:ws.length=0
      ·have e0:ws=[]:=yY.1 h0
       have Hb:=zB ((zA D) us os (yQ ⟨e0,rfl,rfl⟩))
       rw [h0]
       clear O e0 h0 V D U C P F
       go_wp2_with fail
       exact ⟨⟨k+1,us,os,vu,vo,by omega,by go_num,by omega,by omega,Hb,zB ((zA X).below (zC _ _)),(zA L).alloc (by omega) _⟩,by simp [intOf]; omega⟩
      ·have hb:=zB ((zA U) (O h0))
       obtain ⟨gw,cw',I,A,hc⟩:=(zA P).lt (by omega)
       simp only [Value.slice.injEq] at I
       obtain ⟨rfl,_,rfl⟩:=I
       obtain ⟨q,hq⟩:∃ q,ws[0]?=some q:=⟨_,yn (by omega)⟩
       have k0:=hc 0 q hq
       have hr:((ws.length:Int)==2)=false\/(((ws.length:Int)==2)=true/\(q.toList==[117,115,101])=false):=by
        by_cases e:ws.length=2
        ·right
         refine ⟨by simp; omega,zDW (fun ek=>?_)⟩
         match ws,e,hq with
         | [p1,p2],_,hq=>
          simp at hq
          exact V ⟨p2,by rw [hq,ek]; rfl⟩
        ·left; simp; omega
       have Hm:(0:Int)<(ws.length:Int):=by omega
       have HP:=zB (fun w'=>zAE (w:=w) (w':=w') (zA hb))
       obtain ⟨x0,x1,x2,x3⟩:zDZ (w2.alloc (.cells #[.string o.s,.int .i64 o.k,.int .i64 o.l,.int .i64 o.sd] 57)) w.heap.size:=((zA hJ).below (zA L) (by omega)).below (zC w2 _) (by omega)
       have x30:=x3 0
       have x31:=x3 1
       have x32:=x3 2
       clear O h0 V D U C P F hc hq x3
       rcases hr with hZ | ⟨hZ,Hp⟩
       all_goals
        go_wp2_with fail
        refine yK (v:=.tuple #[.agg #[.slice none 0 0,.slice none 0 0,.string ⟨#[]⟩],.int .i64 2,.int .i64 ((k+1:Nat):Int)]) ?res rfl ((zA HP) _ ?_)
        case res=>simp [results,Tryz.results11,go_sem,x0,x1,x2]
        first
         | exact (zA hd).alloc (by omega) _
         | exact zK (yh _) [.slice none 0 0,.slice none 0 0,.string ⟨#[]⟩] 0 _ ((zA hd).alloc (by omega) _)
   ·have h5:k=ls.length:=by omega
    obtain ⟨x0,x1,x2,x3⟩:zDZ wr w.heap.size:=(zA hJ).below J (by omega)
    have x30:=x3 0
    have x31:=x3 1
    have x32:=x3 2
    have hb:=zB (show zy s [] [] ByteArray.empty 3 0 by
     have h:=zA HT
     rw [h5,List.drop_eq_nil_of_le (by simp [plc])] at h
     exact h.fin)
    have HP:=zB (fun w'=>zAE (w:=w) (w':=w') (zA hb))
    clear x3 h5
    go_wp2_with fail
    refine yK (v:=.tuple #[.agg #[.slice none 0 0,.slice none 0 0,.string ⟨#[]⟩],.int .i64 3,.int .i64 0]) ?res rfl ((zA HP) _ ?_)
    case res=>simp [results,Tryz.results11,go_sem,x0,x1,x2]
    first
     | exact zA he
     | exact zK (yh _) [.slice none 0 0,.slice none 0 0,.string ⟨#[]⟩] 0 _ (zA he)
 ·subst hY
  have H1:¬ (E:Int)<0:=by omega
  have H3:(E:Int)<(ls.length:Int):=by omega
  have Hv:=zB Hj
  clear Hj
  go_wp2_with fail
  go_loopw [9] (fun i wr=>∃ (k:Nat) (us:List JZ) (os:List OpR) (vu vo:Value),k<=E/\i = .int .i64 (k:Int)/\us.length<=k/\os.length<=k/\Hid (zC3 s ((plc ls).drop k) (k+1) us os)/\Hid (UnM wr w1.heap.size (w1.heap.size+1+1) vu vo us os ⟨#[]⟩)/\Below w1.heap.size w1 wr) (fun i _=>E-(intOf i).toNat)
  case atStart=>exact ⟨0,[],[],_,_,yj _,rfl,yh _,yh _,hF,hH,zA hG⟩
  case round=>
   clear hH hG hF
   obtain ⟨k,us,os,vu,vo,hk,rfl,Hz,Hx,HT,HU,J⟩:=hrel
   have Ht:=J.size
   have he:=zB (show Below w.heap.size w wr from (zA hS).trans (J.mono (by omega)))
   have hU:=(zA HU).lt
   by_cases Ha:k<E
   ·have He:(k:Int)<(E:Int):=by omega
    have ha:k<ls.length:=by omega
    have Hl:(k:Int)<(ls.length:Int):=by omega
    obtain ⟨o0,_,_⟩:=((zA HOP).below J hgl) k ha
    obtain ⟨ws,G⟩:∃ ws,ws=wsL s ls k:=⟨_,rfl⟩
    have hp:zq wr (atL ls k).wv ws:=by rw [G]; exact ((zA HST) _ (zCM ha)).below J
    have h6:∀ x∈ws,x.size<=maxLen:=fun x hx=>by
     rw [G] at hx
     have h1:=zEu hx
     rw [Zs] at h1
     unfold maxLen
     omega
    obtain ⟨ht,r⟩:=zFt ha (zA HT) ((zA Hi) k Ha)
    rw [<- G] at ht r
    have D:=zB ht
    have U:=zB r
    have hh:=zB (zEM _ ws wr hp h6)
    have hf:∀ q n c,(atL ls k).wv = .slice (some ⟨q,0,none⟩) n c->n≠0->q<w1.heap.size:=fun q n c e hn=>by
     obtain ⟨a',c',hm,h'⟩:=(zA HST) _ (zCM ha)
     rw [e] at hm
     simp only [Value.slice.injEq] at hm
     obtain ⟨h1,h2,_⟩:=hm
     rcases h' with h' | ⟨q',h3,h4,_⟩
     ·omega
     ·rw [h3] at h1
      simp only [Option.some.injEq,Addr.mk.injEq] at h1
      omega
    have F:=zB hf
    have R:=zB hp
    obtain ⟨aw,cw,hv,_⟩:=hp
    rw [hv] at o0 hh R F
    have Hr:=zB G
    clear G h6 ht r hv HT hf
    go_wp2_with fail
    (with_reducible refine (zA hh).mono ?_)
    rintro e w2 ⟨o,ok,rfl,hcase,hb2⟩
    have X:=zB ((zA HU).below hb2)
    have z2:=hb2.size
    have L:=zB (show Below w1.heap.size w1 w2 from J.trans (hb2.mono (by omega)))
    have hd:=zB (show Below w.heap.size w w2 from (zA he).trans (hb2.mono (by omega)))
    have P:=zB ((zA R).below hb2)
    have hD:=(zA X).lt
    clear hb2 hh HU R he J o0 hU
    rcases hcase with ⟨rfl,ho⟩ | ⟨rfl,ho⟩
    ·have HO:=zB ho
     obtain ⟨ao,co,rfl⟩:∃ a c,vo = .slice a os.length c:=zO (zA X).ro
     have u1:=(zA X).c1
     clear ho U
     go_wp2_with (at_builtin; refine yJ _ rfl (.tmp 46) (.tmp 48) 31 rfl w1.heap.size 57 iO _ 4 40 Tryz.underlying31 (zA Hg) (zA hz).1 (zA hz).2.1 (zA hz).2.2 rfl (by decide) _ os.length (zU os) rfl ((zA X).ro.below ((zC _ _).alloc (by simp) _)) ⟨w2.heap.size+1,0,none⟩ 1 1 (zU [o]) rfl rfl (fun j u hj=>(by simpa using zAH (w2.alloc (.cells #[.string o.s,.int .i64 o.k,.int .i64 o.l,.int .i64 o.sd] 57)) o j u hj)) (ZA _) ?b1 ?b2 ?b3 ?next)
     case b1=>unfold maxLen; omega
     case b2=>omega
     case b3=>simp; omega
     case next=>
      intro v4 w4 Q H M Y
      have y:Below w2.heap.size w2 ((w2.alloc (.cells #[.string o.s,.int .i64 o.k,.int .i64 o.l,.int .i64 o.sd] 57)).alloc (.cells #[.string o.s,.int .i64 o.k,.int .i64 o.l,.int .i64 o.sd] 57)):=(zC _ _).alloc (by simp) _
      obtain ⟨kc,kf⟩:=(zA X).keep y (yR rfl) H
      have m0:=(kc 1).trans u1
      have g1:=kf 1
      have hA:Zw w4 w1.heap.size v4 (os++[o]):=by
       unfold Zw
       rw [ZT,ym]
       exact Q
      obtain ⟨b,B⟩:=(zA X).putO y H hA (Y.imp id (fun e=>⟨_,e,by simp⟩))
      obtain ⟨g4,c4,rfl⟩:=zBS Q (by simp [M])
      have m:=zB b
      have Z:=zB (show Below w1.heap.size w1 _ from (zA L).trans B)
      clear Q H Y M kc kf y b B hA u1
      go_wp2_with fail
      refine ⟨⟨k+1,us,os++[o],_,_,by omega,by go_num,by omega,by simp; omega,zB ((zA D) _ _ (yR (yR ⟨o,zA HO,rfl,rfl⟩))),m,zA Z⟩,by simp [intOf]; omega⟩
    ·have C:=zB ho
     clear ho
     by_cases V:∃ x,ws=[zHk,x]
     ·obtain ⟨x,rfl⟩:=V
      obtain ⟨gw,cw',I,A,hc⟩:=(zA P).lt (by simp)
      simp only [Value.slice.injEq] at I
      obtain ⟨rfl,_,rfl⟩:=I
      have k0:w2.cell? ⟨gw,0,none⟩=some (.string ⟨#[117,115,101]⟩):=hc 0 _ rfl
      have k1:w2.cell? ⟨gw,1,none⟩=some (.string x):=hc 1 _ rfl
      have Ho:gw<w1.heap.size:=(zA F) gw _ _ rfl (by simp)
      have h9:gw≠w1.heap.size+1+1:=by omega
      have hC:=zB (show vu.ownBlock≠some gw from fun e=>by have:=((zA X).ru.lt gw e).1; omega)
      obtain ⟨au,cu,rfl⟩:=zO (zA X).ru
      have u0:=(zA X).c0
      have hV:[zHk,x].length=2:=rfl
      rw [hV]
      have hX:(w2.alloc (.cells #[.string o.s,.int .i64 o.k,.int .i64 o.l,.int .i64 o.sd] 57)).cell? ⟨w1.heap.size+1+1,0,none⟩=some (.slice au us.length cu):=((zC w2 _).cell (p:=⟨w1.heap.size+1+1,0,none⟩) hD).trans u0
      have k6:∀ o',((w2.alloc (.cells #[.string o.s,.int .i64 o.k,.int .i64 o.l,.int .i64 o.sd] 57)).alloc o').drew.cell? ⟨w1.heap.size+1+1,0,none⟩=some (.slice au us.length cu):=fun o'=>((zC (w2.alloc (.cells #[.string o.s,.int .i64 o.k,.int .i64 o.l,.int .i64 o.sd] 57)) o').cell (p:=⟨w1.heap.size+1+1,0,none⟩) (by simp; omega)).trans hX
      have d:(fun W:World=>W.cell? ⟨gw,1,none⟩=some (.string x)/\True) (w2.alloc (.cells #[.string o.s,.int .i64 o.k,.int .i64 o.l,.int .i64 o.sd] 57)).drew:=⟨((zC w2 _).cell (p:=⟨gw,1,none⟩) A).trans k1,trivial⟩
      have hy:=zB (show (fun W:World=>W.cell? ⟨gw,1,none⟩=some (.string x)/\True) ((w2.alloc (.cells #[.string o.s,.int .i64 o.k,.int .i64 o.l,.int .i64 o.sd] 57)).alloc (.cells #[.string x] 9)).drew from ⟨((zC (w2.alloc (.cells #[.string o.s,.int .i64 o.k,.int .i64 o.l,.int .i64 o.sd] 57)) _).cell (p:=⟨gw,1,none⟩) (by simp; omega)).trans (((zC w2 _).cell (p:=⟨gw,1,none⟩) A).trans k1),trivial⟩)
      clear hc C U P F
      go_wp2_with fail
      refine wp_region_held_drew (S:=fun W:World=>W.cell? ⟨gw,1,none⟩=some (.string x)/\True) (by kernel_rfl) d (fun _=>?_)
      refine yI (i:=0) (v:=?_) rfl (by kernel_rfl) (by kernel_rfl) (by kernel_rfl) (fun _ _ _ h=>h) (yQ ⟨by rfl,?_⟩) d ?_
      rotate_left
      ·intro W hW; obtain ⟨s1,_⟩:=hW; simp only [yc,ya,yb]; go_simp; first | done | (with_reducible rfl)
      simp only [yc,ya,yb]
      simp only [Act.put,yd,ye,yf]
      refine yI (i:=2) (v:=?_) rfl (by kernel_rfl) (by kernel_rfl) (by kernel_rfl) (fun _ _ _ h=>h) (yQ ⟨by rfl,?_⟩) d ?_
      rotate_left
      ·intro W hW; obtain ⟨s1,_⟩:=hW; simp only [yc,ya,yb]; go_simp; first | done | (with_reducible rfl)
      simp only [yc,ya,yb]
      simp only [Act.put,yd,ye,yf]
      refine yI (i:=3) (v:=?_) rfl (by kernel_rfl) (by kernel_rfl) (by kernel_rfl) (fun _ _ _ h=>h) (yQ ⟨by rfl,?_⟩) d ?_
      rotate_left
      ·intro W hW; obtain ⟨s1,_⟩:=hW; simp only [yc,ya,yb]; go_simp; first | done | (with_reducible rfl)
      simp only [yc,ya,yb]
      simp only [Act.put,yd,ye,yf]
      refine yI (i:=4) (v:=?_) rfl (by kernel_rfl) (by kernel_rfl) (by kernel_rfl) (fun _ _ _ h=>h) (yQ ⟨by rfl,?_⟩) d ?_
      rotate_left
      ·intro W hW; obtain ⟨s1,_⟩:=hW; simp only [yc,ya,yb]; go_simp; first | done | (with_reducible rfl)
      simp only [yc,ya,yb]
      simp only [Act.put,yd,ye,yf]
      refine yL (rs:=[1,5]) (by kernel_rfl) (by simp) ?_
      refine yE rfl (fun K hK=>?_) (yE rfl (fun K hK=>?_) yF)
      ·simp only [yc,ya,yb]
       go_simp
       refine hK.out _ _ d (fun _=>?_)
       clear hK
       refine yL (rs:=[5]) (by kernel_rfl) (by simp) ?_
       refine yE rfl (fun K hK=>?_) yF
       simp only [yc,ya,yb]
       go_simp
       refine hK.out _ _ (zA hy) (fun _=>?_)
       clear hK
       refine yL (rs:=[6]) (by kernel_rfl) (by simp) ?_
       refine yE rfl (fun K hK=>?_) yF
       refine step_append_lies _ (by rfl) (.tmp 61) (.tmp 65) 39 (by rfl) w1.heap.size 9 iS _ 1 16 Tryz.underlying39 (zA HI) (zA HZ).1 (zA HZ).2.1 (zA HZ).2.2 rfl (by decide) _ us.length (zI us) (by rfl) ((zA X).ru.below (((zC _ _).alloc (by simp) _).drew)) ⟨w2.heap.size+1,0,none⟩ 1 1 (zI [x]) (by rfl) rfl (fun j u hj=>(by simpa using ZG (w2.alloc (.cells #[.string o.s,.int .i64 o.k,.int .i64 o.l,.int .i64 o.sd] 57)) x j u hj)) (zT _) (by decide) (by unfold maxLen; omega) (by omega) (by simp; omega) _ rfl ?_
       intro g4 c4 w4 Q H Y z
       have y:Below w2.heap.size w2 ((w2.alloc (.cells #[.string o.s,.int .i64 o.k,.int .i64 o.l,.int .i64 o.sd] 57)).alloc (.cells #[.string x] 9)).drew:=((zC _ _).alloc (by simp) _).drew
       obtain ⟨kc,kf⟩:=(zA X).keep y (yQ rfl) H
       have m0:=(kc 0).trans u0
       have g0:=kf 0
       have m1:w4.cell? ⟨gw,1,none⟩=some (.string x):=(zE H (by simp; omega) (zA hC) 1).trans ((y.cell (p:=⟨gw,1,none⟩) A).trans k1)
       obtain ⟨b,B⟩:=zEv (zA X) y Q H Y
       have m:=zB b
       have Z:=zB (show Below w1.heap.size w1 _ from (zA L).trans B)
       clear Q H Y z kc kf y b B
       refine hK.out _ _ ⟨m1,trivial⟩ (fun N=>?_)
       clear hK
       simp only [yc,ya,yb]
       simp only [Act.put,yd,ye,yf]
       refine yI (i:=7) (v:=?_) rfl (by kernel_rfl) (by kernel_rfl) (by kernel_rfl) (fun _ _ _ h=>h) (yQ ⟨by rfl,?_⟩) N ?_
       rotate_left
       ·intro W hW; obtain ⟨s1,_⟩:=hW; simp only [yc,ya,yb]; go_simp; first | done | (with_reducible rfl)
       simp only [yc,ya,yb]
       simp only [Act.put,yd,ye,yf]
       refine yL (rs:=[8]) (by kernel_rfl) (by simp) ?_
       refine yE rfl (fun K hK=>?_) yF
       simp only [yc,ya,yb]
       go_simp
       refine hK.out _ _ ⟨by rw [yg _ _ _ _ (by simp [h9])]; exact m1,trivial⟩ (fun hw=>?_)
       clear hK
       refine wpAnyH_done (by kernel_rfl) ?_ _
       clear N hw
       go_wp2_with fail
       refine ⟨⟨k+1,us++[x],os,_,_,by omega,by go_num,by simp; omega,by omega,zB ((zA D) _ _ (yR (yQ ⟨x,rfl,rfl,rfl⟩))),m,zA Z⟩,by simp [intOf]; omega⟩
      ·simp only [yc,ya,yb]
       go_simp
       refine hK.out _ _ (zA hy) (fun _=>?_)
       clear hK
       refine yL (rs:=[1]) (by kernel_rfl) (by simp) ?_
       refine yE rfl (fun K hK=>?_) yF
       simp only [yc,ya,yb]
       go_simp
       refine hK.out _ _ (zA hy) (fun _=>?_)
       clear hK
       refine yL (rs:=[6]) (by kernel_rfl) (by simp) ?_
       refine yE rfl (fun K hK=>?_) yF
       refine step_append_lies _ (by rfl) (.tmp 61) (.tmp 65) 39 (by rfl) w1.heap.size 9 iS _ 1 16 Tryz.underlying39 (zA HI) (zA HZ).1 (zA HZ).2.1 (zA HZ).2.2 rfl (by decide) _ us.length (zI us) (by rfl) ((zA X).ru.below (((zC _ _).alloc (by simp) _).drew)) ⟨w2.heap.size+1,0,none⟩ 1 1 (zI [x]) (by rfl) rfl (fun j u hj=>(by simpa using ZG (w2.alloc (.cells #[.string o.s,.int .i64 o.k,.int .i64 o.l,.int .i64 o.sd] 57)) x j u hj)) (zT _) (by decide) (by unfold maxLen; omega) (by omega) (by simp; omega) _ rfl ?_
       intro g4 c4 w4 Q H Y z
       have y:Below w2.heap.size w2 ((w2.alloc (.cells #[.string o.s,.int .i64 o.k,.int .i64 o.l,.int .i64 o.sd] 57)).alloc (.cells #[.string x] 9)).drew:=((zC _ _).alloc (by simp) _).drew
       obtain ⟨kc,kf⟩:=(zA X).keep y (yQ rfl) H
       have m0:=(kc 0).trans u0
       have g0:=kf 0
       have m1:w4.cell? ⟨gw,1,none⟩=some (.string x):=(zE H (by simp; omega) (zA hC) 1).trans ((y.cell (p:=⟨gw,1,none⟩) A).trans k1)
       obtain ⟨b,B⟩:=zEv (zA X) y Q H Y
       have m:=zB b
       have Z:=zB (show Below w1.heap.size w1 _ from (zA L).trans B)
       clear Q H Y z kc kf y b B
       refine hK.out _ _ ⟨m1,trivial⟩ (fun N=>?_)
       clear hK
       simp only [yc,ya,yb]
       simp only [Act.put,yd,ye,yf]
       refine yI (i:=7) (v:=?_) rfl (by kernel_rfl) (by kernel_rfl) (by kernel_rfl) (fun _ _ _ h=>h) (yQ ⟨by rfl,?_⟩) N ?_
       rotate_left
       ·intro W hW; obtain ⟨s1,_⟩:=hW; simp only [yc,ya,yb]; go_simp; first | done | (with_reducible rfl)
       simp only [yc,ya,yb]
       simp only [Act.put,yd,ye,yf]
       refine yL (rs:=[8]) (by kernel_rfl) (by simp) ?_
       refine yE rfl (fun K hK=>?_) yF
       simp only [yc,ya,yb]
       go_simp
       refine hK.out _ _ ⟨by rw [yg _ _ _ _ (by simp [h9])]; exact m1,trivial⟩ (fun hw=>?_)
       clear hK
       refine wpAnyH_done (by kernel_rfl) ?_ _
       clear N hw
       go_wp2_with fail
       refine ⟨⟨k+1,us++[x],os,_,_,by omega,by go_num,by simp; omega,by omega,zB ((zA D) _ _ (yR (yQ ⟨x,rfl,rfl,rfl⟩))),m,zA Z⟩,by simp [intOf]; omega⟩
     ·have O:ws.length≠0->∀ us' os',¬ zAL ws us os us' os':=fun h0 us' os' hl=>by
       rcases hl with ⟨e,_⟩ | ⟨x,e,_⟩ | ⟨o',e,_⟩
       ·exact h0 (by rw [e]; rfl)
       ·exact V ⟨x,e⟩
       ·exact (zA C) o' e
      by_cases h0:ws.length=0
      ·have e0:ws=[]:=yY.1 h0
       have Hb:=zB ((zA D) us os (yQ ⟨e0,rfl,rfl⟩))
       rw [h0]
       clear O e0 h0 V D U C P F
       go_wp2_with fail
       exact ⟨⟨k+1,us,os,vu,vo,by omega,by go_num,by omega,by omega,Hb,zB ((zA X).below (zC _ _)),(zA L).alloc (by omega) _⟩,by simp [intOf]; omega⟩
      ·have hb:=zB ((zA U) (O h0))
       obtain ⟨gw,cw',I,A,hc⟩:=(zA P).lt (by omega)
       simp only [Value.slice.injEq] at I
       obtain ⟨rfl,_,rfl⟩:=I
       obtain ⟨q,hq⟩:∃ q,ws[0]?=some q:=⟨_,yn (by omega)⟩
       have k0:=hc 0 q hq
       have hr:((ws.length:Int)==2)=false\/(((ws.length:Int)==2)=true/\(q.toList==[117,115,101])=false):=by
        by_cases e:ws.length=2
        ·right
         refine ⟨by simp; omega,zDW (fun ek=>?_)⟩
         match ws,e,hq with
         | [p1,p2],_,hq=>
          simp at hq
          exact V ⟨p2,by rw [hq,ek]; rfl⟩
        ·left; simp; omega
       have Hm:(0:Int)<(ws.length:Int):=by omega
       have HP:=zB (fun w'=>zAE (w:=w) (w':=w') (zA hb))
       obtain ⟨x0,x1,x2,x3⟩:zDZ (w2.alloc (.cells #[.string o.s,.int .i64 o.k,.int .i64 o.l,.int .i64 o.sd] 57)) w.heap.size:=((zA hJ).below (zA L) (by omega)).below (zC w2 _) (by omega)
       have x30:=x3 0
       have x31:=x3 1
       have x32:=x3 2
       clear O h0 V D U C P F hc hq x3
       rcases hr with hZ | ⟨hZ,Hp⟩
       all_goals
        go_wp2_with fail
        refine yK (v:=.tuple #[.agg #[.slice none 0 0,.slice none 0 0,.string ⟨#[]⟩],.int .i64 2,.int .i64 ((k+1:Nat):Int)]) ?res rfl ((zA HP) _ ?_)
        case res=>simp [results,Tryz.results11,go_sem,x0,x1,x2]
        first
         | exact (zA hd).alloc (by omega) _
         | exact zK (yh _) [.slice none 0 0,.slice none 0 0,.string ⟨#[]⟩] 0 _ ((zA hd).alloc (by omega) _)
   ·have h5:k=E:=by omega
    obtain ⟨x0,x1,x2,x3⟩:zDZ wr w.heap.size:=(zA hJ).below J (by omega)
    have x30:=x3 0
    have x31:=x3 1
    have x32:=x3 2
    obtain ⟨T,hT⟩:∃ T,T=(atL ls E).t:=⟨_,rfl⟩
    have H4:T<=s.size:=by rw [hT]; exact (zA Hu) E h8
    have hb:=zB (show zy s us os (zA3 s T) 0 0 by
     have h:=zA HT
     rw [h5,zOK h8] at h
     have h2:=h.begin (zA Hv)
     rw [hT]
     exact h2)
    obtain ⟨_,_,o2⟩:=((zA HOP).below J hgl) E h8
    rw [<- hT] at o2
    obtain ⟨au,cu,rfl⟩:=zO (zA HU).ru
    obtain ⟨ao,co,rfl⟩:∃ a c,vo = .slice a os.length c:=zO (zA HU).ro
    have u0:=(zA HU).c0
    have u1:=(zA HU).c1
    have u2:=(zA HU).c2
    have f2:=(zA HU).fz 2
    obtain ⟨ans1,ans2⟩:=zEt (b':=zA3 s T) (by omega) (zA HU) (zA he) (zA hb) (by omega) (by omega)
    have e1:w1.heap.size+1+1≠w.heap.size:=by omega
    have e2:w.heap.size≠w1.heap.size+1+1:=by omega
    by_cases hI:T<s.size
    ·have Hw:(T:Int)<(s.size:Int):=by omega
     have H0:(T:Int)+1<=(s.size:Int):=by omega
     have hB:zA3 s T=s.extract (T+1) s.size:=by unfold zA3; rw [yO hI]
     rw [hB] at ans1
     have h7:=zB ans1
     clear ans1 ans2 hB x3 h5 hb hT hI
     go_wp2_with fail
     refine yK (v:=.tuple #[.agg #[.slice au us.length cu,.slice ao os.length co,.string (s.extract (T+1) s.size)],.int .i64 0,.int .i64 0]) ?res rfl (zA h7)
     case res=>simp [results,Tryz.results11,go_sem,x0,x1,x2,e1,e2,u0,u1,u2]
    ·have Hw:¬ (T:Int)<(s.size:Int):=by omega
     have hB:zA3 s T=⟨#[]⟩:=by unfold zA3; rw [yN hI]; rfl
     rw [hB] at ans2
     have h7:=zB ans2
     clear ans1 ans2 hB x3 h5 hb hT hI
     go_wp2_with fail
     refine yK (v:=.tuple #[.agg #[.slice au us.length cu,.slice ao os.length co,.string ⟨#[]⟩],.int .i64 0,.int .i64 0]) ?res rfl (zA h7)
     case res=>simp [results,Tryz.results11,go_sem,x0,x1,x2,e1,e2,u0,u1,u2]
end Go.Proofs.YtgbkgkdpdfdokaaGreatDoor
