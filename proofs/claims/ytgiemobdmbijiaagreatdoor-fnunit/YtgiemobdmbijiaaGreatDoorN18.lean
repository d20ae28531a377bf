import Derived.Deep.AppendLies
import Derived.Test.YtgiemobdmbijiaaGreatDoorN16
import Derived.Test.YtgiemobdmbijiaaGreatDoorN17
namespace Go.Proofs.YtgiemobdmbijiaaGreatDoor
set_option linter.unusedSimpArgs false
set_option linter.unusedVariables false
set_option maxHeartbeats 16000000
set_option maxRecDepth 100000
open Go.RowKit
theorem zDc (v:Value) (ws:List ByteArray) (w:World) (hs:zz w v ws) (hz:∀ x ∈ ws,x.size <= maxLen) :
  Calls Tryz.prog 14 #[v] w (zJv w ws):=
 zKt 14 v ws w hs hz (fun a c n w h=>zJ0 a c n w h) (fun g c n k t l sd w h1 h2 h3 h4 h5 h6=>zI3 g c n k t l sd w h1 h2 h3 h4 h5 h6)
theorem zMT {s:ByteArray} (h:20000 < s.size):zn s [] [] ByteArray.empty 1 0:=Or.inl ⟨h,rfl,rfl,rfl,rfl,rfl⟩
theorem zMU (c:UInt8) (s:ByteArray):∀ (n a:Nat),s.size - a < n -> a <= s.size -> ∀ p ∈ pcs c s a,p.1 <= p.2 /\ p.2 <= s.size
 | 0,a,hn,ha=>by omega
 | n + 1,a,hn,ha=>by
  obtain ⟨g1,g2,g3,g4⟩:=Z3 c s a ha
  rw [zAY c s a ha]
  intro p hp
  rcases List.mem_cons.1 hp with rfl | hp
  ·exact ⟨g1,g2⟩
  ·by_cases h:nx c s a < s.size
   ·rw [if_pos h] at hp
    exact zMU c s n _ (by omega) (by omega) p hp
   ·rw [if_neg h] at hp; cases hp
theorem zMV {ls:List LnR} {k:Nat} (h:k < ls.length):(plc ls).drop k = ((atL ls k).f,(atL ls k).t) :: (plc ls).drop (k + 1):=by
 have hl:k < (plc ls).length:=by simpa [plc] using h
 rw [List.drop_eq_getElem_cons hl]
 congr 1
 simp [plc,atL,List.getD_eq_getElem?_getD,List.getElem?_eq_getElem h]
theorem zE4 {s:ByteArray} {ls:List LnR} {k:Nat} (h:k < ls.length) {us:List ByteArray} {os:List OpR} (ht:zCS s ((plc ls).drop k) (k + 1) us os) (hn:wsL s ls k ≠ [zh]):(∀ us' os',Zv (wsL s ls k) us os us' os' -> zCS s ((plc ls).drop (k + 1)) (k + 1 + 1) us' os') /\ ((∀ us' os',¬ Zv (wsL s ls k) us os us' os') -> zn s [] [] ByteArray.empty 2 ((k + 1:Nat):Int)):=by
 rw [zMV h] at ht
 exact ⟨fun us' os' hl=>ht.next hn hl,fun hl=>ht.bad hn hl⟩
theorem zEC {B U:Nat} {vu vo:Value} {us:List ByteArray} {os:List OpR} {b x:ByteArray} {w w1 w4:World} {g4 c4:Nat} (h:UnM w B U vu vo us os b) (hb:Below w.heap.size w w1)
  (hown:w4.ownsRow B 9 1 (.slice (some ⟨g4,0,none⟩) (us.length + 1) c4) (us.length + 1) (zH us ++ zH [x])) (hg:w1.grownBy w4 vu.ownBlock) (hat:vu.ownBlock = some g4 \/ g4 = w1.heap.size) :
  UnM (w4.setCell ⟨U,0,none⟩ (.slice (some ⟨g4,0,none⟩) (us.length + 1) c4)) B U (.slice (some ⟨g4,0,none⟩) (us.length + 1) c4) vo (us ++ [x]) os b /\ Below B w (w4.setCell ⟨U,0,none⟩ (.slice (some ⟨g4,0,none⟩) (us.length + 1) c4)):=by
 have hr:za w4 B (.slice (some ⟨g4,0,none⟩) (us.length + 1) c4) (us ++ [x]):=by
  unfold za
  rw [zAc,List.length_append]
  exact hown
 exact h.putU hb hg hr (hat.imp (fun e=>e.symm) (fun e=>⟨g4,rfl,by omega⟩))
theorem zA9 (s:ByteArray) (w:World) (hs:s.size <= maxLen) :
  Calls Tryz.prog 5 #[.string s] w (zEA w s):=by
 by_cases hlong:20000 < s.size
 ·have hlI:(20000:Int) < (s.size:Int):=by omega
  have HP:=zB (fun w'=>Zx (w:=w) (w':=w') (zMT hlong))
  unfold maxLen at hs
  clear hlong
  go_enter Tryz.func5,Tryz.ntmps5
  go_wp2
  refine bodyPost_ret (v:=.tuple #[.agg #[.slice none 0 0,.slice none 0 0,.string ⟨#[]⟩],.int .i64 1,.int .i64 0]) ?res rfl ((zA HP) _ ?_)
  case res=>simp [results,Tryz.results5,go_sem]
  first
   | exact zC _ _
   | exact zJ (Nat.le_refl _) [.slice none 0 0,.slice none 0 0,.string ⟨#[]⟩] 0 _ (zC _ _)
 have hs2:s.size <= 20000:=by omega
 have hlI:¬ (20000:Int) < (s.size:Int):=by omega
 clear hlong hs
 obtain ⟨iS,hiS,hzS0,hzS1,hzS2⟩:=zQ zCQ
 have HI:=zB hiS
 have HZ:=zB (And.intro hzS0 (And.intro hzS1 hzS2))
 obtain ⟨iO,hiO,hzO0,hzO1,hzO2⟩:=zQ zC5
 have HIO:=zB hiO
 have HZO:=zB (And.intro hzO0 (And.intro hzO1 hzO2))
 clear hiS hzS0 hzS1 hzS2 hiO hzO0 hzO1 hzO2
 have HL:=zB (zE2 s (w.alloc (.cells #[.slice none 0 0,.slice none 0 0,.string ⟨#[]⟩] 27)) (by omega))
 have HZ0:=zB (show zCw (w.alloc (.cells #[.slice none 0 0,.slice none 0 0,.string ⟨#[]⟩] 27)) w.heap.size from ⟨by simp [go_sem],by simp [go_sem],by simp [go_sem],fun o=>by simp [go_sem]⟩)
 go_enter Tryz.func5,Tryz.ntmps5
 go_wp2_with fail
 (with_reducible refine (zA HL).mono ?_)
 rintro e w1 ⟨g,c,ls,rfl,hg,hgl,HOP,HST,HPL,hll,hb1⟩
 have HBW1:=zB (show Below w.heap.size w w1 from (zC _ _).trans (hb1.mono (by simp)))
 have HZ1:=zB ((zA HZ0).below hb1 (by simp))
 have z1:w.heap.size + 1 <= w1.heap.size:=by have:=hb1.size; simp at this; omega
 have hg1:w.heap.size + 1 <= g:=by simpa using hg
 have HBG:=zB (zE3 s g c ls w1 (by omega) (zA HOP) (zA HST))
 clear hb1 HL HZ0 hg
 go_wp2_with fail
 (with_reducible refine (zA HBG).mono ?_)
 rintro e w1' ⟨rb,rfl,hbeg,hx⟩
 obtain rfl:=hx.symm
 clear hx HBG
 have HT0:=zB (show zCS s ((plc ls).drop 0) (0 + 1) [] [] by rw [List.drop_zero,zA HPL]; exact zCS.start hs2)
 have HTL:=zB (show ∀ i,i < ls.length -> (atL ls i).t <= s.size from fun i hi=>by
  have:=zMU 10 s (s.size + 1) 0 (by omega) (Nat.zero_le _) ((atL ls i).f,(atL ls i).t) (by rw [<- zA HPL]; exact List.mem_map.2 ⟨atL ls i,zBs hi,rfl⟩)
  exact this.2)
 have hend:∃ E:Nat,E <= ls.length /\ (∀ j,j < E -> wsL s ls j ≠ [zh]) /\ ((rb = -1 /\ E = ls.length) \/ (rb = (E:Int) /\ E < ls.length /\ wsL s ls E = [zh])):=by
  rcases hbeg with ⟨h1,h2⟩ | ⟨i,h1,h2,h3,h4⟩
  ·exact ⟨ls.length,Nat.le_refl _,h2,Or.inl ⟨h1,rfl⟩⟩
  ·exact ⟨i,by omega,h4,Or.inr ⟨h2,h1,h3⟩⟩
 obtain ⟨E,hE,hno,hrb⟩:=hend
 have HNO:=zB hno
 have HW8:=zB (show Below w1.heap.size w1 (((w1.alloc (.cells #[] 9)).alloc (.cells #[] 46)).alloc (.cells #[.slice (some ⟨w1.heap.size,0,none⟩) 0 0,.slice (some ⟨w1.heap.size + 1,0,none⟩) 0 0,.string ⟨#[]⟩] 27)) from ((zC _ _).alloc (by simp) _).alloc (by simp; omega) _)
 have HU8:=zB (show UnM (((w1.alloc (.cells #[] 9)).alloc (.cells #[] 46)).alloc (.cells #[.slice (some ⟨w1.heap.size,0,none⟩) 0 0,.slice (some ⟨w1.heap.size + 1,0,none⟩) 0 0,.string ⟨#[]⟩] 27)) w1.heap.size (w1.heap.size + 1 + 1) (.slice (some ⟨w1.heap.size,0,none⟩) 0 0) (.slice (some ⟨w1.heap.size + 1,0,none⟩) 0 0) [] [] ⟨#[]⟩ from
  ⟨by simp [go_sem],by simp [go_sem],by simp [go_sem],fun o=>by simp [go_sem],by omega,by
   have:=((World.ownsRow_lit (base:=w1.heap.size) (e:=9) (size:=1) w1 #[] 0 (Nat.le_refl _) (Nat.zero_le _) rfl).alloc (.cells #[] 46)).alloc (.cells #[.slice (some ⟨w1.heap.size,0,none⟩) 0 0,.slice (some ⟨w1.heap.size + 1,0,none⟩) 0 0,.string ⟨#[]⟩] 27)
   simpa [za,zH] using this,by
   have:=(World.ownsRow_lit (base:=w1.heap.size) (e:=46) (size:=4) (w1.alloc (.cells #[] 9)) #[] 0 (by simp) (Nat.zero_le _) rfl).alloc (.cells #[.slice (some ⟨w1.heap.size,0,none⟩) 0 0,.slice (some ⟨w1.heap.size + 1,0,none⟩) 0 0,.string ⟨#[]⟩] 27)
   simpa [zAd,zX] using this,(by simp [Value.ownBlock]; omega),(by simp [Value.ownBlock]),fun q e e2=>by simp [Value.ownBlock] at e e2; omega⟩)
 clear hbeg hno
 rcases hrb with ⟨hr1,hE2⟩ | ⟨hr1,hE2,hE3⟩
 ·subst hr1
  subst hE2
  go_wp2_with fail
  go_loopw [9] (fun i wr=>∃ (k:Nat) (us:List ByteArray) (os:List OpR) (vu vo:Value),k <= ls.length /\ i = .int .i64 (k:Int) /\ us.length <= k /\ os.length <= k /\ Hid (zCS s ((plc ls).drop k) (k + 1) us os) /\ Hid (UnM wr w1.heap.size (w1.heap.size + 1 + 1) vu vo us os ⟨#[]⟩) /\ Below w1.heap.size w1 wr) (fun i _=>ls.length - (intOf i).toNat)
  case atStart=>exact ⟨0,[],[],_,_,Nat.zero_le _,rfl,Nat.le_refl _,Nat.le_refl _,HT0,HU8,zA HW8⟩
  case round=>
   clear HU8 HW8 HT0
   obtain ⟨k,us,os,vu,vo,hk,rfl,hus,hos,HT,HU,hbel⟩:=hrel
   have hzr:=hbel.size
   have HBW:=zB (show Below w.heap.size w wr from (zA HBW1).trans (hbel.mono (by omega)))
   have hUl:=(zA HU).lt
   by_cases hlt:k < ls.length
   ·have hltI:(k:Int) < (ls.length:Int):=by omega
    have hkl:k < ls.length:=by omega
    have hklI:(k:Int) < (ls.length:Int):=by omega
    obtain ⟨o0,_,_⟩:=((zA HOP).below hbel hgl) k hkl
    obtain ⟨ws,hws⟩:∃ ws,ws = wsL s ls k:=⟨_,rfl⟩
    have hst:zz wr (atL ls k).wv ws:=by rw [hws]; exact ((zA HST) _ (zBs hkl)).below hbel
    have hsz:∀ x ∈ ws,x.size <= maxLen:=fun x hx=>by
     rw [hws] at hx
     have h1:=zCx hx
     rw [ZO] at h1
     unfold maxLen
     omega
    obtain ⟨hnx,hbad⟩:=zE4 hkl (zA HT) ((zA HNO) k hlt)
    rw [<- hws] at hnx hbad
    have HNX:=zB hnx
    have HBAD:=zB hbad
    have HOW:=zB (zDc _ ws wr hst hsz)
    have hgw0:∀ q n c,(atL ls k).wv = .slice (some ⟨q,0,none⟩) n c -> n ≠ 0 -> q < w1.heap.size:=fun q n c e hn=>by
     obtain ⟨a',c',hv',h'⟩:=(zA HST) _ (zBs hkl)
     rw [e] at hv'
     simp only [Value.slice.injEq] at hv'
     obtain ⟨h1,h2,_⟩:=hv'
     rcases h' with h' | ⟨q',h3,h4,_⟩
     ·omega
     ·rw [h3] at h1
      simp only [Option.some.injEq,Addr.mk.injEq] at h1
      omega
    have HGW:=zB hgw0
    have HSTR:=zB hst
    obtain ⟨aw,cw,hv,_⟩:=hst
    rw [hv] at o0 HOW HSTR HGW
    have HWS:=zB hws
    clear hws hsz hnx hbad hv HT hgw0
    go_wp2_with fail
    (with_reducible refine (zA HOW).mono ?_)
    rintro e w2 ⟨o,ok,rfl,hcase,hb2⟩
    have HU2:=zB ((zA HU).below hb2)
    have z2:=hb2.size
    have HB2:=zB (show Below w1.heap.size w1 w2 from hbel.trans (hb2.mono (by omega)))
    have HBW2:=zB (show Below w.heap.size w w2 from (zA HBW).trans (hb2.mono (by omega)))
    have HSTR2:=zB ((zA HSTR).below hb2)
    have hU2l:=(zA HU2).lt
    clear hb2 HOW HU HSTR HBW hbel o0 hUl
    rcases hcase with ⟨rfl,ho⟩ | ⟨rfl,ho⟩
    ·have HO:=zB ho
     obtain ⟨ao,co,rfl⟩:∃ a c,vo = .slice a os.length c:=zV (zA HU2).ro
     have u1:=(zA HU2).c1
     clear ho HBAD
     go_wp2_with (at_builtin; refine wpList_append_own_at _ rfl (.tmp 46) (.tmp 48) 25 rfl w1.heap.size 46 iO _ 4 40 Tryz.underlying25 (zA HIO) (zA HZO).1 (zA HZO).2.1 (zA HZO).2.2 rfl (by decide) _ os.length (zX os) rfl ((zA HU2).ro.below ((zC _ _).alloc (by simp) _)) ⟨w2.heap.size + 1,0,none⟩ 1 1 (zX [o]) rfl rfl (fun j u hj=>(by simpa using zBK (w2.alloc (.cells #[.string o.s,.int .i64 o.k,.int .i64 o.l,.int .i64 o.sd] 46)) o j u hj)) (ZZ _) ?b1 ?b2 ?b3 ?next)
     case b1=>unfold maxLen; omega
     case b2=>omega
     case b3=>simp; omega
     case next=>
      intro v4 w4 hown4 hgrow4 hnil4 hat4
      have hbd:Below w2.heap.size w2 ((w2.alloc (.cells #[.string o.s,.int .i64 o.k,.int .i64 o.l,.int .i64 o.sd] 46)).alloc (.cells #[.string o.s,.int .i64 o.k,.int .i64 o.l,.int .i64 o.sd] 46)):=(zC _ _).alloc (by simp) _
      obtain ⟨kc,kf⟩:=(zA HU2).keep hbd (Or.inr rfl) hgrow4
      have m0:=(kc 1).trans u1
      have g1:=kf 1
      have hr4:zAd w4 w1.heap.size v4 (os ++ [o]):=by
       unfold zAd
       rw [ZY,List.length_append]
       exact hown4
      obtain ⟨hun,hb4⟩:=(zA HU2).putO hbd hgrow4 hr4 (hat4.imp id (fun e=>⟨_,e,by simp⟩))
      obtain ⟨g4,c4,rfl⟩:=zA7 hown4 (by simp [hnil4])
      have HUN:=zB hun
      have HB4:=zB (show Below w1.heap.size w1 _ from (zA HB2).trans hb4)
      clear hown4 hgrow4 hat4 hnil4 kc kf hbd hun hb4 hr4 u1
      go_wp2_with fail
      refine ⟨⟨k + 1,us,os ++ [o],_,_,by omega,by go_num,by omega,by simp; omega,zB ((zA HNX) _ _ (Or.inr (Or.inr ⟨o,zA HO,rfl,rfl⟩))),HUN,zA HB4⟩,by simp [intOf]; omega⟩
    ·have HNOO:=zB ho
     clear ho
     by_cases huse:∃ x,ws = [zEM,x]
     ·obtain ⟨x,rfl⟩:=huse
      obtain ⟨gw,cw',hve,hgw2,hc⟩:=(zA HSTR2).lt (by simp)
      simp only [Value.slice.injEq] at hve
      obtain ⟨rfl,_,rfl⟩:=hve
      have k0:w2.cell? ⟨gw,0,none⟩ = some (.string ⟨#[117,115,101]⟩):=hc 0 _ rfl
      have k1:w2.cell? ⟨gw,1,none⟩ = some (.string x):=hc 1 _ rfl
      have hgw1:gw < w1.heap.size:=(zA HGW) gw _ _ rfl (by simp)
      have hgU:gw ≠ w1.heap.size + 1 + 1:=by omega
      have HNW:=zB (show vu.ownBlock ≠ some gw from fun e=>by have:=((zA HU2).ru.lt gw e).1; omega)
      obtain ⟨au,cu,rfl⟩:=zV (zA HU2).ru
      have u0:=(zA HU2).c0
      have hl2:[zEM,x].length = 2:=rfl
      rw [hl2]
      have hw0:(w2.alloc (.cells #[.string o.s,.int .i64 o.k,.int .i64 o.l,.int .i64 o.sd] 46)).cell? ⟨w1.heap.size + 1 + 1,0,none⟩ = some (.slice au us.length cu):=((zC w2 _).cell (p:=⟨w1.heap.size + 1 + 1,0,none⟩) hU2l).trans u0
      have k6:∀ o',((w2.alloc (.cells #[.string o.s,.int .i64 o.k,.int .i64 o.l,.int .i64 o.sd] 46)).alloc o').drew.cell? ⟨w1.heap.size + 1 + 1,0,none⟩ = some (.slice au us.length cu):=fun o'=>((zC (w2.alloc (.cells #[.string o.s,.int .i64 o.k,.int .i64 o.l,.int .i64 o.sd] 46)) o').cell (p:=⟨w1.heap.size + 1 + 1,0,none⟩) (by simp; omega)).trans hw0
      have hS0:(fun W:World=>W.cell? ⟨gw,1,none⟩ = some (.string x) /\ True) (w2.alloc (.cells #[.string o.s,.int .i64 o.k,.int .i64 o.l,.int .i64 o.sd] 46)).drew:=⟨((zC w2 _).cell (p:=⟨gw,1,none⟩) hgw2).trans k1,trivial⟩
      have HS1:=zB (show (fun W:World=>W.cell? ⟨gw,1,none⟩ = some (.string x) /\ True) ((w2.alloc (.cells #[.string o.s,.int .i64 o.k,.int .i64 o.l,.int .i64 o.sd] 46)).alloc (.cells #[.string x] 9)).drew from ⟨((zC (w2.alloc (.cells #[.string o.s,.int .i64 o.k,.int .i64 o.l,.int .i64 o.sd] 46)) _).cell (p:=⟨gw,1,none⟩) (by simp; omega)).trans (((zC w2 _).cell (p:=⟨gw,1,none⟩) hgw2).trans k1),trivial⟩)
      clear hc HNOO HBAD HSTR2 HGW
      go_wp2_with fail
      refine wp_region_held_drew (S:=fun W:World=>W.cell? ⟨gw,1,none⟩ = some (.string x) /\ True) (by kernel_rfl) hS0 (fun _=>?_)
      refine wpAnyH_take (i:=0) (v:=?_) rfl (by kernel_rfl) (by kernel_rfl) (by kernel_rfl) (fun _ _ _ h=>h) (Or.inl ⟨by rfl,?_⟩) hS0 ?_
      rotate_left
      ·intro W hW; obtain ⟨s1,_⟩:=hW; simp only [List.getElem_toArray,List.getElem_cons_succ,List.getElem_cons_zero]; go_simp; first | done | (with_reducible rfl)
      simp only [List.getElem_toArray,List.getElem_cons_succ,List.getElem_cons_zero]
      simp only [Act.put,List.setIfInBounds_toArray,List.set_cons_zero,List.set_cons_succ]
      refine wpAnyH_take (i:=2) (v:=?_) rfl (by kernel_rfl) (by kernel_rfl) (by kernel_rfl) (fun _ _ _ h=>h) (Or.inl ⟨by rfl,?_⟩) hS0 ?_
      rotate_left
      ·intro W hW; obtain ⟨s1,_⟩:=hW; simp only [List.getElem_toArray,List.getElem_cons_succ,List.getElem_cons_zero]; go_simp; first | done | (with_reducible rfl)
      simp only [List.getElem_toArray,List.getElem_cons_succ,List.getElem_cons_zero]
      simp only [Act.put,List.setIfInBounds_toArray,List.set_cons_zero,List.set_cons_succ]
      refine wpAnyH_take (i:=3) (v:=?_) rfl (by kernel_rfl) (by kernel_rfl) (by kernel_rfl) (fun _ _ _ h=>h) (Or.inl ⟨by rfl,?_⟩) hS0 ?_
      rotate_left
      ·intro W hW; obtain ⟨s1,_⟩:=hW; simp only [List.getElem_toArray,List.getElem_cons_succ,List.getElem_cons_zero]; go_simp; first | done | (with_reducible rfl)
      simp only [List.getElem_toArray,List.getElem_cons_succ,List.getElem_cons_zero]
      simp only [Act.put,List.setIfInBounds_toArray,List.set_cons_zero,List.set_cons_succ]
      refine wpAnyH_take (i:=4) (v:=?_) rfl (by kernel_rfl) (by kernel_rfl) (by kernel_rfl) (fun _ _ _ h=>h) (Or.inl ⟨by rfl,?_⟩) hS0 ?_
      rotate_left
      ·intro W hW; obtain ⟨s1,_⟩:=hW; simp only [List.getElem_toArray,List.getElem_cons_succ,List.getElem_cons_zero]; go_simp; first | done | (with_reducible rfl)
      simp only [List.getElem_toArray,List.getElem_cons_succ,List.getElem_cons_zero]
      simp only [Act.put,List.setIfInBounds_toArray,List.set_cons_zero,List.set_cons_succ]
      refine wpAnyH_ready (rs:=[1,5]) (by kernel_rfl) (by simp) ?_
      refine AllReadyH.cons rfl (fun K hK=>?_) (AllReadyH.cons rfl (fun K hK=>?_) AllReadyH.nil)
      ·simp only [List.getElem_toArray,List.getElem_cons_succ,List.getElem_cons_zero]
       go_simp
       refine hK.out _ _ hS0 (fun _=>?_)
       clear hK
       refine wpAnyH_ready (rs:=[5]) (by kernel_rfl) (by simp) ?_
       refine AllReadyH.cons rfl (fun K hK=>?_) AllReadyH.nil
       simp only [List.getElem_toArray,List.getElem_cons_succ,List.getElem_cons_zero]
       go_simp
       refine hK.out _ _ (zA HS1) (fun _=>?_)
       clear hK
       refine wpAnyH_ready (rs:=[6]) (by kernel_rfl) (by simp) ?_
       refine AllReadyH.cons rfl (fun K hK=>?_) AllReadyH.nil
       refine step_append_lies _ (by rfl) (.tmp 61) (.tmp 65) 24 (by rfl) w1.heap.size 9 iS _ 1 16 Tryz.underlying24 (zA HI) (zA HZ).1 (zA HZ).2.1 (zA HZ).2.2 rfl (by decide) _ us.length (zH us) (by rfl) ((zA HU2).ru.below (((zC _ _).alloc (by simp) _).drew)) ⟨w2.heap.size + 1,0,none⟩ 1 1 (zH [x]) (by rfl) rfl (fun j u hj=>(by simpa using ZL (w2.alloc (.cells #[.string o.s,.int .i64 o.k,.int .i64 o.l,.int .i64 o.sd] 46)) x j u hj)) (zS _) (by decide) (by unfold maxLen; omega) (by omega) (by simp; omega) _ rfl ?_
       intro g4 c4 w4 hown4 hgrow4 hat4 hlt4
       have hbd:Below w2.heap.size w2 ((w2.alloc (.cells #[.string o.s,.int .i64 o.k,.int .i64 o.l,.int .i64 o.sd] 46)).alloc (.cells #[.string x] 9)).drew:=((zC _ _).alloc (by simp) _).drew
       obtain ⟨kc,kf⟩:=(zA HU2).keep hbd (Or.inl rfl) hgrow4
       have m0:=(kc 0).trans u0
       have g0:=kf 0
       have m1:w4.cell? ⟨gw,1,none⟩ = some (.string x):=(zE hgrow4 (by simp; omega) (zA HNW) 1).trans ((hbd.cell (p:=⟨gw,1,none⟩) hgw2).trans k1)
       obtain ⟨hun,hb4⟩:=zEC (zA HU2) hbd hown4 hgrow4 hat4
       have HUN:=zB hun
       have HB4:=zB (show Below w1.heap.size w1 _ from (zA HB2).trans hb4)
       clear hown4 hgrow4 hat4 hlt4 kc kf hbd hun hb4
       refine hK.out _ _ ⟨m1,trivial⟩ (fun hS4=>?_)
       clear hK
       simp only [List.getElem_toArray,List.getElem_cons_succ,List.getElem_cons_zero]
       simp only [Act.put,List.setIfInBounds_toArray,List.set_cons_zero,List.set_cons_succ]
       refine wpAnyH_take (i:=7) (v:=?_) rfl (by kernel_rfl) (by kernel_rfl) (by kernel_rfl) (fun _ _ _ h=>h) (Or.inl ⟨by rfl,?_⟩) hS4 ?_
       rotate_left
       ·intro W hW; obtain ⟨s1,_⟩:=hW; simp only [List.getElem_toArray,List.getElem_cons_succ,List.getElem_cons_zero]; go_simp; first | done | (with_reducible rfl)
       simp only [List.getElem_toArray,List.getElem_cons_succ,List.getElem_cons_zero]
       simp only [Act.put,List.setIfInBounds_toArray,List.set_cons_zero,List.set_cons_succ]
       refine wpAnyH_ready (rs:=[8]) (by kernel_rfl) (by simp) ?_
       refine AllReadyH.cons rfl (fun K hK=>?_) AllReadyH.nil
       simp only [List.getElem_toArray,List.getElem_cons_succ,List.getElem_cons_zero]
       go_simp
       refine hK.out _ _ ⟨by rw [World.cell?_setCell_other _ _ _ _ (by simp [hgU])]; exact m1,trivial⟩ (fun hS5=>?_)
       clear hK
       refine wpAnyH_done (by kernel_rfl) ?_ _
       clear hS4 hS5
       go_wp2_with fail
       refine ⟨⟨k + 1,us ++ [x],os,_,_,by omega,by go_num,by simp; omega,by omega,zB ((zA HNX) _ _ (Or.inr (Or.inl ⟨x,rfl,rfl,rfl⟩))),HUN,zA HB4⟩,by simp [intOf]; omega⟩
      ·simp only [List.getElem_toArray,List.getElem_cons_succ,List.getElem_cons_zero]
       go_simp
       refine hK.out _ _ (zA HS1) (fun _=>?_)
       clear hK
       refine wpAnyH_ready (rs:=[1]) (by kernel_rfl) (by simp) ?_
       refine AllReadyH.cons rfl (fun K hK=>?_) AllReadyH.nil
       simp only [List.getElem_toArray,List.getElem_cons_succ,List.getElem_cons_zero]
       go_simp
       refine hK.out _ _ (zA HS1) (fun _=>?_)
       clear hK
       refine wpAnyH_ready (rs:=[6]) (by kernel_rfl) (by simp) ?_
       refine AllReadyH.cons rfl (fun K hK=>?_) AllReadyH.nil
       refine step_append_lies _ (by rfl) (.tmp 61) (.tmp 65) 24 (by rfl) w1.heap.size 9 iS _ 1 16 Tryz.underlying24 (zA HI) (zA HZ).1 (zA HZ).2.1 (zA HZ).2.2 rfl (by decide) _ us.length (zH us) (by rfl) ((zA HU2).ru.below (((zC _ _).alloc (by simp) _).drew)) ⟨w2.heap.size + 1,0,none⟩ 1 1 (zH [x]) (by rfl) rfl (fun j u hj=>(by simpa using ZL (w2.alloc (.cells #[.string o.s,.int .i64 o.k,.int .i64 o.l,.int .i64 o.sd] 46)) x j u hj)) (zS _) (by decide) (by unfold maxLen; omega) (by omega) (by simp; omega) _ rfl ?_
       intro g4 c4 w4 hown4 hgrow4 hat4 hlt4
       have hbd:Below w2.heap.size w2 ((w2.alloc (.cells #[.string o.s,.int .i64 o.k,.int .i64 o.l,.int .i64 o.sd] 46)).alloc (.cells #[.string x] 9)).drew:=((zC _ _).alloc (by simp) _).drew
       obtain ⟨kc,kf⟩:=(zA HU2).keep hbd (Or.inl rfl) hgrow4
       have m0:=(kc 0).trans u0
       have g0:=kf 0
       have m1:w4.cell? ⟨gw,1,none⟩ = some (.string x):=(zE hgrow4 (by simp; omega) (zA HNW) 1).trans ((hbd.cell (p:=⟨gw,1,none⟩) hgw2).trans k1)
       obtain ⟨hun,hb4⟩:=zEC (zA HU2) hbd hown4 hgrow4 hat4
       have HUN:=zB hun
       have HB4:=zB (show Below w1.heap.size w1 _ from (zA HB2).trans hb4)
       clear hown4 hgrow4 hat4 hlt4 kc kf hbd hun hb4
       refine hK.out _ _ ⟨m1,trivial⟩ (fun hS4=>?_)
       clear hK
       simp only [List.getElem_toArray,List.getElem_cons_succ,List.getElem_cons_zero]
       simp only [Act.put,List.setIfInBounds_toArray,List.set_cons_zero,List.set_cons_succ]
       refine wpAnyH_take (i:=7) (v:=?_) rfl (by kernel_rfl) (by kernel_rfl) (by kernel_rfl) (fun _ _ _ h=>h) (Or.inl ⟨by rfl,?_⟩) hS4 ?_
       rotate_left
       ·intro W hW; obtain ⟨s1,_⟩:=hW; simp only [List.getElem_toArray,List.getElem_cons_succ,List.getElem_cons_zero]; go_simp; first | done | (with_reducible rfl)
       simp only [List.getElem_toArray,List.getElem_cons_succ,List.getElem_cons_zero]
       simp only [Act.put,List.setIfInBounds_toArray,List.set_cons_zero,List.set_cons_succ]
       refine wpAnyH_ready (rs:=[8]) (by kernel_rfl) (by simp) ?_
       refine AllReadyH.cons rfl (fun K hK=>?_) AllReadyH.nil
       simp only [List.getElem_toArray,List.getElem_cons_succ,List.getElem_cons_zero]
       go_simp
       refine hK.out _ _ ⟨by rw [World.cell?_setCell_other _ _ _ _ (by simp [hgU])]; exact m1,trivial⟩ (fun hS5=>?_)
       clear hK
       refine wpAnyH_done (by kernel_rfl) ?_ _
       clear hS4 hS5
       go_wp2_with fail
       refine ⟨⟨k + 1,us ++ [x],os,_,_,by omega,by go_num,by simp; omega,by omega,zB ((zA HNX) _ _ (Or.inr (Or.inl ⟨x,rfl,rfl,rfl⟩))),HUN,zA HB4⟩,by simp [intOf]; omega⟩
     ·have hnot:ws.length ≠ 0 -> ∀ us' os',¬ Zv ws us os us' os':=fun h0 us' os' hl=>by
       rcases hl with ⟨e,_⟩ | ⟨x,e,_⟩ | ⟨o',e,_⟩
       ·exact h0 (by rw [e]; rfl)
       ·exact huse ⟨x,e⟩
       ·exact (zA HNOO) o' e
      by_cases h0:ws.length = 0
      ·have e0:ws = []:=List.length_eq_zero_iff.1 h0
       have HT2:=zB ((zA HNX) us os (Or.inl ⟨e0,rfl,rfl⟩))
       rw [h0]
       clear hnot e0 h0 huse HNX HBAD HNOO HSTR2 HGW
       go_wp2_with fail
       exact ⟨⟨k + 1,us,os,vu,vo,by omega,by go_num,by omega,by omega,HT2,zB ((zA HU2).below (zC _ _)),(zA HB2).alloc (by omega) _⟩,by simp [intOf]; omega⟩
      ·have HIS:=zB ((zA HBAD) (hnot h0))
       obtain ⟨gw,cw',hve,hgw2,hc⟩:=(zA HSTR2).lt (by omega)
       simp only [Value.slice.injEq] at hve
       obtain ⟨rfl,_,rfl⟩:=hve
       obtain ⟨q,hq⟩:∃ q,ws[0]? = some q:=⟨_,List.getElem?_eq_getElem (by omega)⟩
       have k0:=hc 0 q hq
       have hcond:((ws.length:Int) == 2) = false \/ (((ws.length:Int) == 2) = true /\ (q.toList == [117,115,101]) = false):=by
        by_cases e:ws.length = 2
        ·right
         refine ⟨by simp; omega,zCt (fun ek=>?_)⟩
         match ws,e,hq with
         | [p1,p2],_,hq=>
          simp at hq
          exact huse ⟨p2,by rw [hq,ek]; rfl⟩
        ·left; simp; omega
       have hn00:(0:Int) < (ws.length:Int):=by omega
       have HP:=zB (fun w'=>Zx (w:=w) (w':=w') (zA HIS))
       obtain ⟨x0,x1,x2,x3⟩:zCw (w2.alloc (.cells #[.string o.s,.int .i64 o.k,.int .i64 o.l,.int .i64 o.sd] 46)) w.heap.size:=((zA HZ1).below (zA HB2) (by omega)).below (zC w2 _) (by omega)
       have x30:=x3 0
       have x31:=x3 1
       have x32:=x3 2
       clear hnot h0 huse HNX HBAD HNOO HSTR2 HGW hc hq x3
       rcases hcond with hc1 | ⟨hc1,hc2⟩
       all_goals
        go_wp2_with fail
        refine bodyPost_ret (v:=.tuple #[.agg #[.slice none 0 0,.slice none 0 0,.string ⟨#[]⟩],.int .i64 2,.int .i64 ((k + 1:Nat):Int)]) ?res rfl ((zA HP) _ ?_)
        case res=>simp [results,Tryz.results5,go_sem,x0,x1,x2]
        first
         | exact (zA HBW2).alloc (by omega) _
         | exact zJ (Nat.le_refl _) [.slice none 0 0,.slice none 0 0,.string ⟨#[]⟩] 0 _ ((zA HBW2).alloc (by omega) _)
   ·have hkE:k = ls.length:=by omega
    obtain ⟨x0,x1,x2,x3⟩:zCw wr w.heap.size:=(zA HZ1).below hbel (by omega)
    have x30:=x3 0
    have x31:=x3 1
    have x32:=x3 2
    have HIS:=zB (show zn s [] [] ByteArray.empty 3 0 by
     have h:=zA HT
     rw [hkE,List.drop_eq_nil_of_le (by simp [plc])] at h
     exact h.fin)
    have HP:=zB (fun w'=>Zx (w:=w) (w':=w') (zA HIS))
    clear x3 hkE
    go_wp2_with fail
    refine bodyPost_ret (v:=.tuple #[.agg #[.slice none 0 0,.slice none 0 0,.string ⟨#[]⟩],.int .i64 3,.int .i64 0]) ?res rfl ((zA HP) _ ?_)
    case res=>simp [results,Tryz.results5,go_sem,x0,x1,x2]
    first
     | exact zA HBW
     | exact zJ (Nat.le_refl _) [.slice none 0 0,.slice none 0 0,.string ⟨#[]⟩] 0 _ (zA HBW)
 ·subst hr1
  have hEn:¬ (E:Int) < 0:=by omega
  have hEI:(E:Int) < (ls.length:Int):=by omega
  have HE3:=zB hE3
  clear hE3
  go_wp2_with fail
  go_loopw [9] (fun i wr=>∃ (k:Nat) (us:List ByteArray) (os:List OpR) (vu vo:Value),k <= E /\ i = .int .i64 (k:Int) /\ us.length <= k /\ os.length <= k /\ Hid (zCS s ((plc ls).drop k) (k + 1) us os) /\ Hid (UnM wr w1.heap.size (w1.heap.size + 1 + 1) vu vo us os ⟨#[]⟩) /\ Below w1.heap.size w1 wr) (fun i _=>E - (intOf i).toNat)
  case atStart=>exact ⟨0,[],[],_,_,Nat.zero_le _,rfl,Nat.le_refl _,Nat.le_refl _,HT0,HU8,zA HW8⟩
  case round=>
   clear HU8 HW8 HT0
   obtain ⟨k,us,os,vu,vo,hk,rfl,hus,hos,HT,HU,hbel⟩:=hrel
   have hzr:=hbel.size
   have HBW:=zB (show Below w.heap.size w wr from (zA HBW1).trans (hbel.mono (by omega)))
   have hUl:=(zA HU).lt
   by_cases hlt:k < E
   ·have hltI:(k:Int) < (E:Int):=by omega
    have hkl:k < ls.length:=by omega
    have hklI:(k:Int) < (ls.length:Int):=by omega
    obtain ⟨o0,_,_⟩:=((zA HOP).below hbel hgl) k hkl
    obtain ⟨ws,hws⟩:∃ ws,ws = wsL s ls k:=⟨_,rfl⟩
    have hst:zz wr (atL ls k).wv ws:=by rw [hws]; exact ((zA HST) _ (zBs hkl)).below hbel
    have hsz:∀ x ∈ ws,x.size <= maxLen:=fun x hx=>by
     rw [hws] at hx
     have h1:=zCx hx
     rw [ZO] at h1
     unfold maxLen
     omega
    obtain ⟨hnx,hbad⟩:=zE4 hkl (zA HT) ((zA HNO) k hlt)
    rw [<- hws] at hnx hbad
    have HNX:=zB hnx
    have HBAD:=zB hbad
    have HOW:=zB (zDc _ ws wr hst hsz)
    have hgw0:∀ q n c,(atL ls k).wv = .slice (some ⟨q,0,none⟩) n c -> n ≠ 0 -> q < w1.heap.size:=fun q n c e hn=>by
     obtain ⟨a',c',hv',h'⟩:=(zA HST) _ (zBs hkl)
     rw [e] at hv'
     simp only [Value.slice.injEq] at hv'
     obtain ⟨h1,h2,_⟩:=hv'
     rcases h' with h' | ⟨q',h3,h4,_⟩
     ·omega
     ·rw [h3] at h1
      simp only [Option.some.injEq,Addr.mk.injEq] at h1
      omega
    have HGW:=zB hgw0
    have HSTR:=zB hst
    obtain ⟨aw,cw,hv,_⟩:=hst
    rw [hv] at o0 HOW HSTR HGW
    have HWS:=zB hws
    clear hws hsz hnx hbad hv HT hgw0
    go_wp2_with fail
    (with_reducible refine (zA HOW).mono ?_)
    rintro e w2 ⟨o,ok,rfl,hcase,hb2⟩
    have HU2:=zB ((zA HU).below hb2)
    have z2:=hb2.size
    have HB2:=zB (show Below w1.heap.size w1 w2 from hbel.trans (hb2.mono (by omega)))
    have HBW2:=zB (show Below w.heap.size w w2 from (zA HBW).trans (hb2.mono (by omega)))
    have HSTR2:=zB ((zA HSTR).below hb2)
    have hU2l:=(zA HU2).lt
    clear hb2 HOW HU HSTR HBW hbel o0 hUl
    rcases hcase with ⟨rfl,ho⟩ | ⟨rfl,ho⟩
    ·have HO:=zB ho
     obtain ⟨ao,co,rfl⟩:∃ a c,vo = .slice a os.length c:=zV (zA HU2).ro
     have u1:=(zA HU2).c1
     clear ho HBAD
     go_wp2_with (at_builtin; refine wpList_append_own_at _ rfl (.tmp 46) (.tmp 48) 25 rfl w1.heap.size 46 iO _ 4 40 Tryz.underlying25 (zA HIO) (zA HZO).1 (zA HZO).2.1 (zA HZO).2.2 rfl (by decide) _ os.length (zX os) rfl ((zA HU2).ro.below ((zC _ _).alloc (by simp) _)) ⟨w2.heap.size + 1,0,none⟩ 1 1 (zX [o]) rfl rfl (fun j u hj=>(by simpa using zBK (w2.alloc (.cells #[.string o.s,.int .i64 o.k,.int .i64 o.l,.int .i64 o.sd] 46)) o j u hj)) (ZZ _) ?b1 ?b2 ?b3 ?next)
     case b1=>unfold maxLen; omega
     case b2=>omega
     case b3=>simp; omega
     case next=>
      intro v4 w4 hown4 hgrow4 hnil4 hat4
      have hbd:Below w2.heap.size w2 ((w2.alloc (.cells #[.string o.s,.int .i64 o.k,.int .i64 o.l,.int .i64 o.sd] 46)).alloc (.cells #[.string o.s,.int .i64 o.k,.int .i64 o.l,.int .i64 o.sd] 46)):=(zC _ _).alloc (by simp) _
      obtain ⟨kc,kf⟩:=(zA HU2).keep hbd (Or.inr rfl) hgrow4
      have m0:=(kc 1).trans u1
      have g1:=kf 1
      have hr4:zAd w4 w1.heap.size v4 (os ++ [o]):=by
       unfold zAd
       rw [ZY,List.length_append]
       exact hown4
      obtain ⟨hun,hb4⟩:=(zA HU2).putO hbd hgrow4 hr4 (hat4.imp id (fun e=>⟨_,e,by simp⟩))
      obtain ⟨g4,c4,rfl⟩:=zA7 hown4 (by simp [hnil4])
      have HUN:=zB hun
      have HB4:=zB (show Below w1.heap.size w1 _ from (zA HB2).trans hb4)
      clear hown4 hgrow4 hat4 hnil4 kc kf hbd hun hb4 hr4 u1
      go_wp2_with fail
      refine ⟨⟨k + 1,us,os ++ [o],_,_,by omega,by go_num,by omega,by simp; omega,zB ((zA HNX) _ _ (Or.inr (Or.inr ⟨o,zA HO,rfl,rfl⟩))),HUN,zA HB4⟩,by simp [intOf]; omega⟩
    ·have HNOO:=zB ho
     clear ho
     by_cases huse:∃ x,ws = [zEM,x]
     ·obtain ⟨x,rfl⟩:=huse
      obtain ⟨gw,cw',hve,hgw2,hc⟩:=(zA HSTR2).lt (by simp)
      simp only [Value.slice.injEq] at hve
      obtain ⟨rfl,_,rfl⟩:=hve
      have k0:w2.cell? ⟨gw,0,none⟩ = some (.string ⟨#[117,115,101]⟩):=hc 0 _ rfl
      have k1:w2.cell? ⟨gw,1,none⟩ = some (.string x):=hc 1 _ rfl
      have hgw1:gw < w1.heap.size:=(zA HGW) gw _ _ rfl (by simp)
      have hgU:gw ≠ w1.heap.size + 1 + 1:=by omega
      have HNW:=zB (show vu.ownBlock ≠ some gw from fun e=>by have:=((zA HU2).ru.lt gw e).1; omega)
      obtain ⟨au,cu,rfl⟩:=zV (zA HU2).ru
      have u0:=(zA HU2).c0
      have hl2:[zEM,x].length = 2:=rfl
      rw [hl2]
      have hw0:(w2.alloc (.cells #[.string o.s,.int .i64 o.k,.int .i64 o.l,.int .i64 o.sd] 46)).cell? ⟨w1.heap.size + 1 + 1,0,none⟩ = some (.slice au us.length cu):=((zC w2 _).cell (p:=⟨w1.heap.size + 1 + 1,0,none⟩) hU2l).trans u0
      have k6:∀ o',((w2.alloc (.cells #[.string o.s,.int .i64 o.k,.int .i64 o.l,.int .i64 o.sd] 46)).alloc o').drew.cell? ⟨w1.heap.size + 1 + 1,0,none⟩ = some (.slice au us.length cu):=fun o'=>((zC (w2.alloc (.cells #[.string o.s,.int .i64 o.k,.int .i64 o.l,.int .i64 o.sd] 46)) o').cell (p:=⟨w1.heap.size + 1 + 1,0,none⟩) (by simp; omega)).trans hw0
      have hS0:(fun W:World=>W.cell? ⟨gw,1,none⟩ = some (.string x) /\ True) (w2.alloc (.cells #[.string o.s,.int .i64 o.k,.int .i64 o.l,.int .i64 o.sd] 46)).drew:=⟨((zC w2 _).cell (p:=⟨gw,1,none⟩) hgw2).trans k1,trivial⟩
      have HS1:=zB (show (fun W:World=>W.cell? ⟨gw,1,none⟩ = some (.string x) /\ True) ((w2.alloc (.cells #[.string o.s,.int .i64 o.k,.int .i64 o.l,.int .i64 o.sd] 46)).alloc (.cells #[.string x] 9)).drew from ⟨((zC (w2.alloc (.cells #[.string o.s,.int .i64 o.k,.int .i64 o.l,.int .i64 o.sd] 46)) _).cell (p:=⟨gw,1,none⟩) (by simp; omega)).trans (((zC w2 _).cell (p:=⟨gw,1,none⟩) hgw2).trans k1),trivial⟩)
      clear hc HNOO HBAD HSTR2 HGW
      go_wp2_with fail
      refine wp_region_held_drew (S:=fun W:World=>W.cell? ⟨gw,1,none⟩ = some (.string x) /\ True) (by kernel_rfl) hS0 (fun _=>?_)
      refine wpAnyH_take (i:=0) (v:=?_) rfl (by kernel_rfl) (by kernel_rfl) (by kernel_rfl) (fun _ _ _ h=>h) (Or.inl ⟨by rfl,?_⟩) hS0 ?_
      rotate_left
      ·intro W hW; obtain ⟨s1,_⟩:=hW; simp only [List.getElem_toArray,List.getElem_cons_succ,List.getElem_cons_zero]; go_simp; first | done | (with_reducible rfl)
      simp only [List.getElem_toArray,List.getElem_cons_succ,List.getElem_cons_zero]
      simp only [Act.put,List.setIfInBounds_toArray,List.set_cons_zero,List.set_cons_succ]
      refine wpAnyH_take (i:=2) (v:=?_) rfl (by kernel_rfl) (by kernel_rfl) (by kernel_rfl) (fun _ _ _ h=>h) (Or.inl ⟨by rfl,?_⟩) hS0 ?_
      rotate_left
      ·intro W hW; obtain ⟨s1,_⟩:=hW; simp only [List.getElem_toArray,List.getElem_cons_succ,List.getElem_cons_zero]; go_simp; first | done | (with_reducible rfl)
      simp only [List.getElem_toArray,List.getElem_cons_succ,List.getElem_cons_zero]
      simp only [Act.put,List.setIfInBounds_toArray,List.set_cons_zero,List.set_cons_succ]
      refine wpAnyH_take (i:=3) (v:=?_) rfl (by kernel_rfl) (by kernel_rfl) (by kernel_rfl) (fun _ _ _ h=>h) (Or.inl ⟨by rfl,?_⟩) hS0 ?_
      rotate_left
      ·intro W hW; obtain ⟨s1,_⟩:=hW; simp only [List.getElem_toArray,List.getElem_cons_succ,List.getElem_cons_zero]; go_simp; first | done | (with_reducible rfl)
      simp only [List.getElem_toArray,List.getElem_cons_succ,List.getElem_cons_zero]
      simp only [Act.put,List.setIfInBounds_toArray,List.set_cons_zero,List.set_cons_succ]
      refine wpAnyH_take (i:=4) (v:=?_) rfl (by kernel_rfl) (by kernel_rfl) (by kernel_rfl) (fun _ _ _ h=>h) (Or.inl ⟨by rfl,?_⟩) hS0 ?_
      rotate_left
      ·intro W hW; obtain ⟨s1,_⟩:=hW; simp only [List.getElem_toArray,List.getElem_cons_succ,List.getElem_cons_zero]; go_simp; first | done | (with_reducible rfl)
      simp only [List.getElem_toArray,List.getElem_cons_succ,List.getElem_cons_zero]
      simp only [Act.put,List.setIfInBounds_toArray,List.set_cons_zero,List.set_cons_succ]
      refine wpAnyH_ready (rs:=[1,5]) (by kernel_rfl) (by simp) ?_
      refine AllReadyH.cons rfl (fun K hK=>?_) (AllReadyH.cons rfl (fun K hK=>?_) AllReadyH.nil)
      ·simp only [List.getElem_toArray,List.getElem_cons_succ,List.getElem_cons_zero]
       go_simp
       refine hK.out _ _ hS0 (fun _=>?_)
       clear hK
       refine wpAnyH_ready (rs:=[5]) (by kernel_rfl) (by simp) ?_
       refine AllReadyH.cons rfl (fun K hK=>?_) AllReadyH.nil
       simp only [List.getElem_toArray,List.getElem_cons_succ,List.getElem_cons_zero]
       go_simp
       refine hK.out _ _ (zA HS1) (fun _=>?_)
       clear hK
       refine wpAnyH_ready (rs:=[6]) (by kernel_rfl) (by simp) ?_
       refine AllReadyH.cons rfl (fun K hK=>?_) AllReadyH.nil
       refine step_append_lies _ (by rfl) (.tmp 61) (.tmp 65) 24 (by rfl) w1.heap.size 9 iS _ 1 16 Tryz.underlying24 (zA HI) (zA HZ).1 (zA HZ).2.1 (zA HZ).2.2 rfl (by decide) _ us.length (zH us) (by rfl) ((zA HU2).ru.below (((zC _ _).alloc (by simp) _).drew)) ⟨w2.heap.size + 1,0,none⟩ 1 1 (zH [x]) (by rfl) rfl (fun j u hj=>(by simpa using ZL (w2.alloc (.cells #[.string o.s,.int .i64 o.k,.int .i64 o.l,.int .i64 o.sd] 46)) x j u hj)) (zS _) (by decide) (by unfold maxLen; omega) (by omega) (by simp; omega) _ rfl ?_
       intro g4 c4 w4 hown4 hgrow4 hat4 hlt4
       have hbd:Below w2.heap.size w2 ((w2.alloc (.cells #[.string o.s,.int .i64 o.k,.int .i64 o.l,.int .i64 o.sd] 46)).alloc (.cells #[.string x] 9)).drew:=((zC _ _).alloc (by simp) _).drew
       obtain ⟨kc,kf⟩:=(zA HU2).keep hbd (Or.inl rfl) hgrow4
       have m0:=(kc 0).trans u0
       have g0:=kf 0
       have m1:w4.cell? ⟨gw,1,none⟩ = some (.string x):=(zE hgrow4 (by simp; omega) (zA HNW) 1).trans ((hbd.cell (p:=⟨gw,1,none⟩) hgw2).trans k1)
       obtain ⟨hun,hb4⟩:=zEC (zA HU2) hbd hown4 hgrow4 hat4
       have HUN:=zB hun
       have HB4:=zB (show Below w1.heap.size w1 _ from (zA HB2).trans hb4)
       clear hown4 hgrow4 hat4 hlt4 kc kf hbd hun hb4
       refine hK.out _ _ ⟨m1,trivial⟩ (fun hS4=>?_)
       clear hK
       simp only [List.getElem_toArray,List.getElem_cons_succ,List.getElem_cons_zero]
       simp only [Act.put,List.setIfInBounds_toArray,List.set_cons_zero,List.set_cons_succ]
       refine wpAnyH_take (i:=7) (v:=?_) rfl (by kernel_rfl) (by kernel_rfl) (by kernel_rfl) (fun _ _ _ h=>h) (Or.inl ⟨by rfl,?_⟩) hS4 ?_
       rotate_left
       ·intro W hW; obtain ⟨s1,_⟩:=hW; simp only [List.getElem_toArray,List.getElem_cons_succ,List.getElem_cons_zero]; go_simp; first | done | (with_reducible rfl)
       simp only [List.getElem_toArray,List.getElem_cons_succ,List.getElem_cons_zero]
       simp only [Act.put,List.setIfInBounds_toArray,List.set_cons_zero,List.set_cons_succ]
       refine wpAnyH_ready (rs:=[8]) (by kernel_rfl) (by simp) ?_
       refine AllReadyH.cons rfl (fun K hK=>?_) AllReadyH.nil
       simp only [List.getElem_toArray,List.getElem_cons_succ,List.getElem_cons_zero]
       go_simp
       refine hK.out _ _ ⟨by rw [World.cell?_setCell_other _ _ _ _ (by simp [hgU])]; exact m1,trivial⟩ (fun hS5=>?_)
       clear hK
       refine wpAnyH_done (by kernel_rfl) ?_ _
       clear hS4 hS5
       go_wp2_with fail
       refine ⟨⟨k + 1,us ++ [x],os,_,_,by omega,by go_num,by simp; omega,by omega,zB ((zA HNX) _ _ (Or.inr (Or.inl ⟨x,rfl,rfl,rfl⟩))),HUN,zA HB4⟩,by simp [intOf]; omega⟩
      ·simp only [List.getElem_toArray,List.getElem_cons_succ,List.getElem_cons_zero]
       go_simp
       refine hK.out _ _ (zA HS1) (fun _=>?_)
       clear hK
       refine wpAnyH_ready (rs:=[1]) (by kernel_rfl) (by simp) ?_
       refine AllReadyH.cons rfl (fun K hK=>?_) AllReadyH.nil
       simp only [List.getElem_toArray,List.getElem_cons_succ,List.getElem_cons_zero]
       go_simp
       refine hK.out _ _ (zA HS1) (fun _=>?_)
       clear hK
       refine wpAnyH_ready (rs:=[6]) (by kernel_rfl) (by simp) ?_
       refine AllReadyH.cons rfl (fun K hK=>?_) AllReadyH.nil
       refine step_append_lies _ (by rfl) (.tmp 61) (.tmp 65) 24 (by rfl) w1.heap.size 9 iS _ 1 16 Tryz.underlying24 (zA HI) (zA HZ).1 (zA HZ).2.1 (zA HZ).2.2 rfl (by decide) _ us.length (zH us) (by rfl) ((zA HU2).ru.below (((zC _ _).alloc (by simp) _).drew)) ⟨w2.heap.size + 1,0,none⟩ 1 1 (zH [x]) (by rfl) rfl (fun j u hj=>(by simpa using ZL (w2.alloc (.cells #[.string o.s,.int .i64 o.k,.int .i64 o.l,.int .i64 o.sd] 46)) x j u hj)) (zS _) (by decide) (by unfold maxLen; omega) (by omega) (by simp; omega) _ rfl ?_
       intro g4 c4 w4 hown4 hgrow4 hat4 hlt4
       have hbd:Below w2.heap.size w2 ((w2.alloc (.cells #[.string o.s,.int .i64 o.k,.int .i64 o.l,.int .i64 o.sd] 46)).alloc (.cells #[.string x] 9)).drew:=((zC _ _).alloc (by simp) _).drew
       obtain ⟨kc,kf⟩:=(zA HU2).keep hbd (Or.inl rfl) hgrow4
       have m0:=(kc 0).trans u0
       have g0:=kf 0
       have m1:w4.cell? ⟨gw,1,none⟩ = some (.string x):=(zE hgrow4 (by simp; omega) (zA HNW) 1).trans ((hbd.cell (p:=⟨gw,1,none⟩) hgw2).trans k1)
       obtain ⟨hun,hb4⟩:=zEC (zA HU2) hbd hown4 hgrow4 hat4
       have HUN:=zB hun
       have HB4:=zB (show Below w1.heap.size w1 _ from (zA HB2).trans hb4)
       clear hown4 hgrow4 hat4 hlt4 kc kf hbd hun hb4
       refine hK.out _ _ ⟨m1,trivial⟩ (fun hS4=>?_)
       clear hK
       simp only [List.getElem_toArray,List.getElem_cons_succ,List.getElem_cons_zero]
       simp only [Act.put,List.setIfInBounds_toArray,List.set_cons_zero,List.set_cons_succ]
       refine wpAnyH_take (i:=7) (v:=?_) rfl (by kernel_rfl) (by kernel_rfl) (by kernel_rfl) (fun _ _ _ h=>h) (Or.inl ⟨by rfl,?_⟩) hS4 ?_
       rotate_left
       ·intro W hW; obtain ⟨s1,_⟩:=hW; simp only [List.getElem_toArray,List.getElem_cons_succ,List.getElem_cons_zero]; go_simp; first | done | (with_reducible rfl)
       simp only [List.getElem_toArray,List.getElem_cons_succ,List.getElem_cons_zero]
       simp only [Act.put,List.setIfInBounds_toArray,List.set_cons_zero,List.set_cons_succ]
       refine wpAnyH_ready (rs:=[8]) (by kernel_rfl) (by simp) ?_
       refine AllReadyH.cons rfl (fun K hK=>?_) AllReadyH.nil
       simp only [List.getElem_toArray,List.getElem_cons_succ,List.getElem_cons_zero]
       go_simp
       refine hK.out _ _ ⟨by rw [World.cell?_setCell_other _ _ _ _ (by simp [hgU])]; exact m1,trivial⟩ (fun hS5=>?_)
       clear hK
       refine wpAnyH_done (by kernel_rfl) ?_ _
       clear hS4 hS5
       go_wp2_with fail
       refine ⟨⟨k + 1,us ++ [x],os,_,_,by omega,by go_num,by simp; omega,by omega,zB ((zA HNX) _ _ (Or.inr (Or.inl ⟨x,rfl,rfl,rfl⟩))),HUN,zA HB4⟩,by simp [intOf]; omega⟩
     ·have hnot:ws.length ≠ 0 -> ∀ us' os',¬ Zv ws us os us' os':=fun h0 us' os' hl=>by
       rcases hl with ⟨e,_⟩ | ⟨x,e,_⟩ | ⟨o',e,_⟩
       ·exact h0 (by rw [e]; rfl)
       ·exact huse ⟨x,e⟩
       ·exact (zA HNOO) o' e
      by_cases h0:ws.length = 0
      ·have e0:ws = []:=List.length_eq_zero_iff.1 h0
       have HT2:=zB ((zA HNX) us os (Or.inl ⟨e0,rfl,rfl⟩))
       rw [h0]
       clear hnot e0 h0 huse HNX HBAD HNOO HSTR2 HGW
       go_wp2_with fail
       exact ⟨⟨k + 1,us,os,vu,vo,by omega,by go_num,by omega,by omega,HT2,zB ((zA HU2).below (zC _ _)),(zA HB2).alloc (by omega) _⟩,by simp [intOf]; omega⟩
      ·have HIS:=zB ((zA HBAD) (hnot h0))
       obtain ⟨gw,cw',hve,hgw2,hc⟩:=(zA HSTR2).lt (by omega)
       simp only [Value.slice.injEq] at hve
       obtain ⟨rfl,_,rfl⟩:=hve
       obtain ⟨q,hq⟩:∃ q,ws[0]? = some q:=⟨_,List.getElem?_eq_getElem (by omega)⟩
       have k0:=hc 0 q hq
       have hcond:((ws.length:Int) == 2) = false \/ (((ws.length:Int) == 2) = true /\ (q.toList == [117,115,101]) = false):=by
        by_cases e:ws.length = 2
        ·right
         refine ⟨by simp; omega,zCt (fun ek=>?_)⟩
         match ws,e,hq with
         | [p1,p2],_,hq=>
          simp at hq
          exact huse ⟨p2,by rw [hq,ek]; rfl⟩
        ·left; simp; omega
       have hn00:(0:Int) < (ws.length:Int):=by omega
       have HP:=zB (fun w'=>Zx (w:=w) (w':=w') (zA HIS))
       obtain ⟨x0,x1,x2,x3⟩:zCw (w2.alloc (.cells #[.string o.s,.int .i64 o.k,.int .i64 o.l,.int .i64 o.sd] 46)) w.heap.size:=((zA HZ1).below (zA HB2) (by omega)).below (zC w2 _) (by omega)
       have x30:=x3 0
       have x31:=x3 1
       have x32:=x3 2
       clear hnot h0 huse HNX HBAD HNOO HSTR2 HGW hc hq x3
       rcases hcond with hc1 | ⟨hc1,hc2⟩
       all_goals
        go_wp2_with fail
        refine bodyPost_ret (v:=.tuple #[.agg #[.slice none 0 0,.slice none 0 0,.string ⟨#[]⟩],.int .i64 2,.int .i64 ((k + 1:Nat):Int)]) ?res rfl ((zA HP) _ ?_)
        case res=>simp [results,Tryz.results5,go_sem,x0,x1,x2]
        first
         | exact (zA HBW2).alloc (by omega) _
         | exact zJ (Nat.le_refl _) [.slice none 0 0,.slice none 0 0,.string ⟨#[]⟩] 0 _ ((zA HBW2).alloc (by omega) _)
   ·have hkE:k = E:=by omega
    obtain ⟨x0,x1,x2,x3⟩:zCw wr w.heap.size:=(zA HZ1).below hbel (by omega)
    have x30:=x3 0
    have x31:=x3 1
    have x32:=x3 2
    obtain ⟨T,hT⟩:∃ T,T = (atL ls E).t:=⟨_,rfl⟩
    have hTs:T <= s.size:=by rw [hT]; exact (zA HTL) E hE2
    have HIS:=zB (show zn s us os (zAZ s T) 0 0 by
     have h:=zA HT
     rw [hkE,zMV hE2] at h
     have h2:=h.begin (zA HE3)
     rw [hT]
     exact h2)
    obtain ⟨_,_,o2⟩:=((zA HOP).below hbel hgl) E hE2
    rw [<- hT] at o2
    obtain ⟨au,cu,rfl⟩:=zV (zA HU).ru
    obtain ⟨ao,co,rfl⟩:∃ a c,vo = .slice a os.length c:=zV (zA HU).ro
    have u0:=(zA HU).c0
    have u1:=(zA HU).c1
    have u2:=(zA HU).c2
    have f2:=(zA HU).fz 2
    obtain ⟨ans1,ans2⟩:=zEB (b':=zAZ s T) (by omega) (zA HU) (zA HBW) (zA HIS) (by omega) (by omega)
    have e1:w1.heap.size + 1 + 1 ≠ w.heap.size:=by omega
    have e2:w.heap.size ≠ w1.heap.size + 1 + 1:=by omega
    by_cases hTl:T < s.size
    ·have hTI:(T:Int) < (s.size:Int):=by omega
     have hTJ:(T:Int) + 1 <= (s.size:Int):=by omega
     have hbb:zAZ s T = s.extract (T + 1) s.size:=by unfold zAZ; rw [if_pos hTl]
     rw [hbb] at ans1
     have HANS:=zB ans1
     clear ans1 ans2 hbb x3 hkE HIS hT hTl
     go_wp2_with fail
     refine bodyPost_ret (v:=.tuple #[.agg #[.slice au us.length cu,.slice ao os.length co,.string (s.extract (T + 1) s.size)],.int .i64 0,.int .i64 0]) ?res rfl (zA HANS)
     case res=>simp [results,Tryz.results5,go_sem,x0,x1,x2,e1,e2,u0,u1,u2]
    ·have hTI:¬ (T:Int) < (s.size:Int):=by omega
     have hbb:zAZ s T = ⟨#[]⟩:=by unfold zAZ; rw [if_neg hTl]; rfl
     rw [hbb] at ans2
     have HANS:=zB ans2
     clear ans1 ans2 hbb x3 hkE HIS hT hTl
     go_wp2_with fail
     refine bodyPost_ret (v:=.tuple #[.agg #[.slice au us.length cu,.slice ao os.length co,.string ⟨#[]⟩],.int .i64 0,.int .i64 0]) ?res rfl (zA HANS)
     case res=>simp [results,Tryz.results5,go_sem,x0,x1,x2,e1,e2,u0,u1,u2]
end Go.Proofs.YtgiemobdmbijiaaGreatDoor
