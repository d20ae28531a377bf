import Derived.Deep.RegionHeld3
import Derived.Test.YtokabkhnidlcnacGreatDoorM00
import Derived.Test.YtokabkhnidlcnacGreatDoorM35
import Derived.Test.YtokabkhnidlcnacGreatDoorM36
import Derived.Test.YtokabkhnidlcnacGreatDoorM44
import Derived.Test.YtokabkhnidlcnacGreatDoorM47
namespace Go.Proofs.YtokabkhnidlcnacGreatDoor
set_option linter.unusedSimpArgs false
set_option linter.unusedVariables false
set_option maxHeartbeats 16000000
set_option maxRecDepth 100000
open Go.RowKit Go.Maps
theorem zE2 (am:Option Addr) (cm:Nat) (ms:List zJ) (w:World) (hn:100 < ms.length) :
  Calls Tryz.prog 55 #[.slice am ms.length cm] w fun e w'=>e = .returned (.tuple #[.pointer none,.int .i64 1,.int .i64 100]) /\ w' = w:=by
 have hnI:(100:Int) < (ms.length:Int):=by omega
 go_enter Tryz.func55,Tryz.ntmps55
 go_wp2_with fail
 go_ret3
 exact ⟨rfl,rfl⟩
theorem zId.congr {T T':Nat -> List OpR} {b b':Nat -> ByteArray} {n:Nat} {out:List (List zD)} {c who:Int} (h:zId T b n out c who) (he:∀ i,i < n -> T i = T' i /\ b i = b' i):zId T' b' n out c who:=by
 have hp:∀ {i us c},i < n -> PsI T b i us c -> PsI T' b' i us c:=fun {i us c} hi ⟨p,h⟩=>⟨p,by rw [<- (he i hi).1,<- (he i hi).2]; exact h⟩
 rcases h with ⟨k,us,cd,t,h1,h2,h3,h4⟩ | ⟨h1,h2⟩
 ·exact Or.inl ⟨k,us,cd,t,h1,⟨h2.1,fun i hi=>hp (by omega) (h2.2 i hi)⟩,hp h1 h3,h4⟩
 ·exact Or.inr ⟨⟨h1.1,fun i hi=>hp hi (h1.2 i hi)⟩,h2⟩
theorem zAU {w:World} {b o:Nat} {v:Value} (h:w.cell? ⟨b,o,none⟩ = some v):b < w.heap.size:=World.block_lt_of_cell? _ _ h
theorem zN3 (w:World) (o:Obj):w.heap.size < (w.alloc o).heap.size:=by simp
theorem zN4 (w:World) (v:Value) (t:TypeId):(w.alloc (.cells #[v] t)).cell? ⟨w.heap.size,0,none⟩ = some v:=by simp [go_sem]
theorem zPa (w:World) (v:Value) (t:TypeId):(w.alloc (.cells #[v] t)).frozen? ⟨w.heap.size,0,none⟩ = false:=by simp [go_sem]
def zKu (w:World) (out:List (List zD)) (c who:Int) (e:Ending) (w':World):Prop:=
 (c ≠ 0 /\ out = [] /\ e = .returned (.tuple #[.pointer none,.int .i64 c,.int .i64 who]) /\ Below w.heap.size w w') \/
 (c = 0 /\ who = 0 /\ ∃ P vv,e = .returned (.tuple #[.pointer (some ⟨P,0,none⟩),.int .i64 0,.int .i64 0]) /\ w'.cell? ⟨P,5,none⟩ = some vv /\ Hid (zEY w' w.heap.size vv out) /\ Below w.heap.size w w')
theorem zFc (am:Option Addr) (cm:Nat) (ms:List zJ) (w:World) (g:ms.length <= 100 -> LdG w am ms) {out:List (List zD)} {c who:Int} (h:zCD ms out c who) :
  Calls Tryz.prog 24 #[.slice am ms.length cm] w (zKu w out c who):=by
 obtain ⟨tabs,c0,w0,hL,hT⟩:=h
 by_cases hn:ms.length <= 100
 ·have HX:=zB (zFb am cm ms w (g hn))
  have HL:=zB hL
  have HT:=zB hT
  have HG:=zB (g hn)
  clear hL hT g
  go_enter Tryz.func24,Tryz.ntmps24
  go_wp2_with fail
  (with_reducible refine (zA HX).mono ?_)
  rintro e w1 (⟨s,k,cc,hs,hk,hcc,rfl,hf,hb⟩ | ⟨rfl,W,X,ob,hst⟩)
  ·obtain ⟨_,rfl,rfl⟩:=zPY (zA HL) hn hs hk hf
   obtain ⟨h0,rfl,rfl,rfl⟩:(s:Int) + 2 ≠ 0 /\ out = [] /\ c = (s:Int) + 2 /\ who = (k:Int):=by
    rcases zA HT with ⟨h,h1,h2,h3⟩ | ⟨h,_⟩
    ·exact ⟨h,h1,h2,h3⟩
    ·omega
   subst hcc
   have hne:((s:Int) + 2 != 0) = true:=by simp; omega
   have HB:=zB hb
   clear hf hb HX HL HT
   go_wp2_with fail
   go_ret3
   exact Or.inl ⟨h0,rfl,rfl,zA HB⟩
  ·obtain ⟨hK,h3,U,ks,C,T,rk,G,⟨v1,vs,kv,pv,_,_,hU,hb2,hN,hH⟩,h4,h5,hR,hTT,hG,h6⟩:=hst
   obtain ⟨rfl,rfl,rfl⟩:=zPZ (zA HL) hn hb2 h3 hU h4 h5 hR hTT h6
   have HTR:=zB (show zId T (fun i=>(atU U i).b) ms.length out c who by
    rcases zA HT with ⟨h,_⟩ | ⟨_,U0,hU0,h⟩
    ·exact absurd rfl h
    ·refine h.congr fun i hi=>⟨zJH hi,?_⟩
     obtain ⟨us,h1,h2⟩:=hU.2 i hi
     exact (zq.one (hU0.2 i hi) h1).2.2.1)
   obtain ⟨i0,hi0,hz0,hz2,hz3⟩:=zQ zJp
   have HI0:=zB hi0
   have HZ:=zB (And.intro hz0 (And.intro hz2 hz3))
   clear hi0 hz0 hz2 hz3
   obtain ⟨p1,p2,p3⟩:=hU.small hn
   have HSZ:=zB (show ∀ i,i < ms.length -> Zm (T i) /\ (T i).length <= 500 /\ (atU U i).b.size <= 20000 from fun i hi=>⟨fun j hj=>(p2 _ (hTT.sub hR (by rw [hU.1]; exact Nat.le_refl _) (rk i + 1) i hi (by omega) _ (zHx hj))).1,by
    rcases h6 i hi with h | ⟨h,_⟩
    ·exact absurd h.1 (by decide)
    ·exact h,by
    obtain ⟨us,h1,_⟩:=hU.2 i hi
    exact zHq h1⟩)
   have hbC:w.heap.size + 3 <= C:=hH.hBC
   have hC1:=hH.hC
   have HSC:=zB (fun (i:Nat) (hi:i < ms.length) (wr:World) (G':ByteArray -> Option Value) (hHr:ScH wr (w.heap.size + 3) C (w.heap.size + 1) w.heap.size am cm ms v1 vs U kv pv ks) (hGr:ScM wr C w.heap.size ms T G')=>zFP _ C _ _ am cm ms v1 vs U kv pv ks T rk hn hN.all hR hTT p1 p2 (fun i hi=>(p3 i hi).1) (rk i + 1) i hi (by omega) wr G' hHr hGr)
   have HKL:=zB (show (∀ g,kv.ownBlock = some g -> g < w1.heap.size) /\ ∀ g,pv = some g -> g < w1.heap.size from ⟨fun g e=>(hH.nm.row.lt g e).2,fun g e=>(hH.nm.plt g e).2⟩)
   have H0:=zB (show RpI w w1 w1.heap.size C am cm ms v1 vs U kv pv ks T (.slice none 0 0) [] [] [] G from ⟨hH,hG,hK.bel,hK.c5.1,hK.c5.2,TrI.nil _ _,Nat.le_refl _,fun j hj x hx g e e2=>by cases e2⟩)
   have HB0:=zB hK.bel
   have c1:=hH.pg.c1
   obtain ⟨a1,cc1,rfl⟩:∃ a c,v1 = .slice a vs.length c:=zM hH.pg.row
   have hvl:=hH.pg.ln
   clear HX HL HT hK h3 hb2 hN hH h4 h5 hR hTT hG h6 hU p1 p2 p3
   go_wp2_with fail
   go_loopw [28] (fun x wr=>∃ (k:Nat) (vv:Value) (tv:List Value) (ta:List (Option Addr)) (o:List (List zD)) (G':ByteArray -> Option Value),k <= vs.length /\ x = .int .i64 (k:Int) /\ Hid (RpI w wr w1.heap.size C am cm ms (.slice a1 vs.length cc1) vs U kv pv ks T vv tv ta o G') /\ Hid (zEx T (fun i=>(atU U i).b) k o)) (fun x _=>vs.length - (intOf x).toNat)
   case atStart=>exact ⟨0,_,[],[],[],G,Nat.zero_le _,rfl,H0,zB (zEx.nil _ _)⟩
   case round=>
    clear H0
    obtain ⟨k,vv,tv,ta,o,G',hk,rfl,HI,HTO⟩:=hrel
    obtain ⟨av,cv,rfl⟩:∃ a c,vv = .slice a tv.length c:=zM (zA HI).tr.row
    have htl:tv.length <= 1048576:=by have:=(zA HI).tr.len.1; have:=(zA HTO).1; omega
    by_cases hlt:k < vs.length
    ·have hltI:(k:Int) < (vs.length:Int):=by omega
     have hkm:k < ms.length:=by omega
     obtain ⟨bA,off,rfl,hops,hbl⟩:∃ b off,am = some ⟨b,off,none⟩ /\ zIt w b off ms /\ b < w.heap.size:=by
      rcases (zA HG).arg with h | h
      ·omega
      ·exact h
     have m0:=((zA HI).bel.cell (p:=⟨bA,off + k * 2,none⟩) hbl).trans (hops k hkm).1
     obtain ⟨g1,cq,e1,n0,n1,n2⟩:=(zA HI).sh.pg.at hkm
     obtain ⟨rfl,rfl⟩:a1 = some ⟨g1,0,none⟩ /\ cc1 = cq:=by injection e1 with x _ y; exact ⟨x,y⟩
     obtain ⟨⟨⟨au,cu,hvu,_⟩,⟨ao,co,hvo,_⟩,hbE⟩,_⟩:=(zA HI).sh.pg.uns.2 k hlt
     rw [hvu] at n0
     rw [hvo] at n1
     obtain ⟨hs1,hs2,hs3⟩:=(zA HSZ) k hkm
     obtain ⟨bd,hbd⟩:∃ bd,bd = (atU U k).b:=⟨_,rfl⟩
     rw [hbE,<- hbd] at n2
     rw [<- hbd] at hs3
     obtain ⟨ul,hul⟩:∃ ul,ul = (atU U k).us.length:=⟨_,rfl⟩
     obtain ⟨ol,hol⟩:∃ ol,ol = (atU U k).os.length:=⟨_,rfl⟩
     rw [<- hul] at n0
     rw [<- hol] at n1
     obtain ⟨nm,hnm⟩:∃ nm,nm = (atM ms k).n:=⟨_,rfl⟩
     rw [<- hnm] at m0
     have HPS:=zB (fun us c (h:∃ p,Zx (T k) bd us c p)=>show PsI T (fun i=>(atU U i).b) k us c by
      obtain ⟨p,h⟩:=h
      exact ⟨p,by show Zx (T k) (atU U k).b us c p; rw [<- hbd]; exact h⟩)
     have hz1:=(zA HI).hz
     have hzw:=(zA HI).bel.size
     obtain ⟨UO,hUO⟩:∃ UO,UO = Obj.cells #[.slice au ul cu,.slice ao ol co,.string bd] 64:=⟨_,rfl⟩
     have hb1:Below wr.heap.size wr (wr.alloc (.cells #[.slice au ul cu,.slice ao ol co,.string bd] 64)).drew:=(zC _ _).drew
     have hb2:Below wr.heap.size wr ((wr.alloc (.cells #[.slice au ul cu,.slice ao ol co,.string bd] 64)).alloc (.cells #[.slice none 0 0] 56)).drew:=((zC _ _).alloc (by simp) _).drew
     have HS1:=zB ((zA HSC) k hkm _ G' ((zA HI).sh.below hb1) ((zA HI).sc.below hb1))
     have HS2:=zB ((zA HSC) k hkm _ G' ((zA HI).sh.below hb2) ((zA HI).sc.below hb2))
     rw [<- hnm] at HS1 HS2
     have HP:=zB (show ∀ (w6:World) (v:Value) (G'':ByteArray -> Option Value),G'' (atM ms k).n = some (.agg #[v]) -> ScM w6 C w.heap.size ms T G'' -> ∃ a6 c6,v = .slice a6 (T k).length c6 /\ ∀ W',Below w6.heap.size w6 W' -> Calls Tryz.prog 56 #[.agg #[.slice a6 (T k).length c6],.string bd] W' (Zk (T k) bd W') from fun w6 v G'' s1 s2=>by
      obtain ⟨v',hv',hov0,_⟩:=s2.at' _ hkm _ s1
      obtain rfl:v = v':=by simpa using hv'
      have hov:=hov0.ops
      obtain ⟨a6,c6,rfl,_⟩:=id hov
      exact ⟨a6,c6,rfl,fun W' hb=>zIc a6 c6 (T k) bd W' (by omega) (fun W'' hb''=>zHE a6 c6 (T k) W'' (by omega) (hov.below (hb.trans (hb''.mono hb.size))) hs1) hs1 (by omega)⟩)
     have HB1:=zB hb1
     have HB2:=zB hb2
     have HNM:=zB hnm
     have nb1:wr.heap.size + 1 ≠ bA:=by omega
     have nb2:bA ≠ wr.heap.size + 1:=by omega
     have ne1:(some w.heap.size:Option Nat) ≠ some bA:=fun x=>by injection x with x; omega
     have ne2:(some w.heap.size:Option Nat) ≠ some wr.heap.size:=fun x=>by injection x with x; omega
     have ne3:(some w.heap.size:Option Nat) ≠ some (wr.heap.size + 1):=fun x=>by injection x with x; omega
     have l2:wr.heap.size < (wr.alloc (.cells #[.slice au ul cu,.slice ao ol co,.string bd] 64)).drew.heap.size:=by simp
     have l3:bA < ((wr.alloc (.cells #[.slice au ul cu,.slice ao ol co,.string bd] 64)).alloc (.cells #[.slice none 0 0] 56)).drew.heap.size:=by simp; omega
     have l4:wr.heap.size < ((wr.alloc (.cells #[.slice au ul cu,.slice ao ol co,.string bd] 64)).alloc (.cells #[.slice none 0 0] 56)).drew.heap.size:=by simp; omega
     have l5:wr.heap.size + 1 < ((wr.alloc (.cells #[.slice au ul cu,.slice ao ol co,.string bd] 64)).alloc (.cells #[.slice none 0 0] 56)).drew.heap.size:=by simp
     have HM1:=zB (show (wr.alloc (.cells #[.slice au ul cu,.slice ao ol co,.string bd] 64)).drew.cell? ⟨bA,off + k * 2,none⟩ = some (.string nm) from ((zC wr _).cell (p:=⟨bA,off + k * 2,none⟩) (by show bA < wr.heap.size; omega)).trans m0)
     have HM2:=zB (show (wr.alloc (.cells #[.slice au ul cu,.slice ao ol co,.string bd] 64)).drew.cell? ⟨wr.heap.size,2,none⟩ = some (.string bd) by simp [go_sem])
     have HM3:=zB (show ((wr.alloc (.cells #[.slice au ul cu,.slice ao ol co,.string bd] 64)).alloc (.cells #[.slice none 0 0] 56)).drew.cell? ⟨bA,off + k * 2,none⟩ = some (.string nm) from (((zC wr _).alloc (by simp) _).cell (p:=⟨bA,off + k * 2,none⟩) (by show bA < wr.heap.size; omega)).trans m0)
     have HM4:=zB (show ((wr.alloc (.cells #[.slice au ul cu,.slice ao ol co,.string bd] 64)).alloc (.cells #[.slice none 0 0] 56)).drew.cell? ⟨wr.heap.size,2,none⟩ = some (.string bd) from ((zC (wr.alloc (.cells #[.slice au ul cu,.slice ao ol co,.string bd] 64)) _).cell (p:=⟨wr.heap.size,2,none⟩) (by simp)).trans (by simp [go_sem]))
     have HM5:=zB (show ((wr.alloc (.cells #[.slice au ul cu,.slice ao ol co,.string bd] 64)).alloc (.cells #[.slice none 0 0] 56)).drew.cell? ⟨wr.heap.size + 1,0,none⟩ = some (.slice none 0 0) by simp [go_sem])
     have HM6:=zB (show ((wr.alloc (.cells #[.slice au ul cu,.slice ao ol co,.string bd] 64)).alloc (.cells #[.slice none 0 0] 56)).drew.frozen? ⟨wr.heap.size + 1,0,none⟩ = false by simp [go_sem])
     have l1:bA < (wr.alloc (.cells #[.slice au ul cu,.slice ao ol co,.string bd] 64)).drew.heap.size:=by simp; omega
     clear e1 hvu hvo hbE hbd hul hol hops hb1 hb2 hnm hUO UO
     go_wp2_with fail
     go_region_held3 (fun W=>W.cell? ⟨bA,off + k * 2,none⟩ = some (.string nm) /\ W.cell? ⟨wr.heap.size,2,none⟩ = some (.string bd)) (go_keep) (first
      | (go_at_call 57; (with_reducible refine (zA HS1).mono ?_); rintro e w6 ⟨v,G'',rfl,s1,s2,s3,sp,s4,s5⟩; obtain ⟨a6,c6,rfl,hp⟩:=(zA HP) w6 v G'' s1 s2; have HPa:=zB (hp w6 (Below.refl _ _)); have HPb:=zB (hp (w6.alloc (.cells #[.slice none 0 0] 56)) (zC _ _)); have HSS:=zB (And.intro s2 (And.intro s3 s5)); have z6:=s3.size;  have c1:=(zE s3 l1 ne1 (off + k * 2)).trans (zA HM1); have c2:=(zE s3 l2 ne2 2).trans (zA HM2); have nn1:=World.new_ne w6 _ c1; have nn2:=World.new_ne w6 _ c2; clear s1 s2 s3 sp s4 s5 hp)
      | (go_at_call 57; (with_reducible refine (zA HS2).mono ?_); rintro e w6 ⟨v,G'',rfl,s1,s2,s3,sp,s4,s5⟩; obtain ⟨a6,c6,rfl,hp⟩:=(zA HP) w6 v G'' s1 s2; have HPa:=zB (hp w6 (Below.refl _ _)); have HPb:=zB (hp (w6.alloc (.cells #[.slice none 0 0] 56)) (zC _ _)); have HSS:=zB (And.intro s2 (And.intro s3 s5)); have z6:=s3.size;  have c1:=(zE s3 l3 ne1 (off + k * 2)).trans (zA HM3); have c2:=(zE s3 l4 ne2 2).trans (zA HM4); have x0:=(zE s3 l5 ne3 0).trans (zA HM5); have x1:=(zU s3 l5 ne3 0).trans (zA HM6); have nn1:=World.new_ne w6 _ c1; have nn2:=World.new_ne w6 _ c2; clear s1 s2 s3 sp s4 s5 hp)
      | (go_at_call 56; (with_reducible refine (zA HPa).mono ?_); rintro e w7 ⟨⟨a7,c7,us,cd,pl,rfl,HON,HPI⟩,hb7⟩; have HB7:=zB hb7; have z7:=hb7.size;  have q1:=(hb7.cell (p:=⟨bA,off + k * 2,none⟩) (zAU c1)).trans c1; have q2:=(hb7.cell (p:=⟨wr.heap.size,2,none⟩) (zAU c2)).trans c2; have y0:=(hb7.cell (p:=⟨wr.heap.size + 1,0,none⟩) (zAU x0)).trans x0; have y1:=(hb7.frozen (p:=⟨wr.heap.size + 1,0,none⟩) (zAU x0)).trans x1; clear hb7)
      | (go_at_call 56; (with_reducible refine (zA HPa).mono ?_); rintro e w7 ⟨⟨a7,c7,us,cd,pl,rfl,HON,HPI⟩,hb7⟩; have HB7:=zB hb7; have z7:=hb7.size;  have q1:=(hb7.cell (p:=⟨bA,off + k * 2,none⟩) (zAU c1)).trans c1; have q2:=(hb7.cell (p:=⟨wr.heap.size,2,none⟩) (zAU c2)).trans c2; clear hb7)
      | (go_at_call 56; (with_reducible refine (zA HPb).mono ?_); rintro e w7 ⟨⟨a7,c7,us,cd,pl,rfl,HON,HPI⟩,hb7⟩; have HB7:=zB hb7; have z7:=hb7.size;  have q1:=(hb7.cell (p:=⟨bA,off + k * 2,none⟩) (Nat.lt_of_lt_of_le (zAU c1) (zC _ _).size)).trans (((zC w6 _).cell (p:=⟨bA,off + k * 2,none⟩) (zAU c1)).trans c1); have q2:=(hb7.cell (p:=⟨wr.heap.size,2,none⟩) (Nat.lt_of_lt_of_le (zAU c2) (zC _ _).size)).trans (((zC w6 _).cell (p:=⟨wr.heap.size,2,none⟩) (zAU c2)).trans c2); have y0:=(hb7.cell (p:=⟨w6.heap.size,0,none⟩) (zN3 w6 _)).trans (zN4 w6 _ _); have y1:=(hb7.frozen (p:=⟨w6.heap.size,0,none⟩) (zN3 w6 _)).trans (zPa w6 _ _); clear hb7))
     all_goals
      first
      | (
       obtain ⟨W8,hW8⟩:∃ W8,W8 = w7.alloc (.cells #[.slice a7 us.length c7] 56):=⟨_,rfl⟩
       rw [<- hW8]
       have hb6:Below w6.heap.size w6 W8:=by rw [hW8]; exact (zA HB7).alloc z7 _
       have HR:=zB ((zA HI).read (cc:=c7) hC1 (zA HKL) (zA HB1) (zA HSS) (zF hb6 (some w6.heap.size)) (by simp at z6; omega) (Or.inr (Nat.le_refl _)) (show zv W8 wr.heap.size a7 us by rw [hW8]; exact ((zA HON).step (zC _ _)).base (by simp at z6; omega)))
       obtain ⟨X8,hX8⟩:∃ X8,X8 = w7.heap.size:=⟨_,rfl⟩
       have y8:W8.cell? ⟨X8,0,none⟩ = some (.slice a7 us.length c7):=by rw [hW8,hX8]; simp [go_sem]
       have x8:wr.heap.size <= X8:=by simp at z6; omega
       rw [<- hX8]
       clear hb6 hW8 hX8)
      | (
       obtain ⟨W8,hW8⟩:∃ W8,W8 = w7.setCell ⟨w6.heap.size,0,none⟩ (.slice a7 us.length c7):=⟨_,rfl⟩
       rw [<- hW8]
       have hb6:Below w6.heap.size w6 W8:=by rw [hW8]; exact ((zC _ _).trans ((zA HB7).mono (by simp))).setCell (p:=⟨w6.heap.size,0,none⟩) (Nat.le_refl _) _
       have HR:=zB ((zA HI).read (cc:=c7) hC1 (zA HKL) (zA HB1) (zA HSS) (zF hb6 (some w6.heap.size)) (by simp at z6; omega) (Or.inr (Nat.le_refl _)) (show zv W8 wr.heap.size a7 us by rw [hW8]; exact ((zA HON).grown (ze w7 w6.heap.size 0 _) (fun q e=>by injection e with e; simp; omega)).base (by simp at z6; simp; omega)))
       obtain ⟨X8,hX8⟩:∃ X8,X8 = w6.heap.size:=⟨_,rfl⟩
       have y8:W8.cell? ⟨X8,0,none⟩ = some (.slice a7 us.length c7):=by rw [hW8,hX8]; exact World.cell?_setCell_same _ _ _ y0
       have x8:wr.heap.size <= X8:=by simp at z6; omega
       rw [<- hX8]
       clear hb6 hW8 hX8 y0 y1)
      | (
       obtain ⟨W8,hW8⟩:∃ W8,W8 = w7.setCell ⟨wr.heap.size + 1,0,none⟩ (.slice a7 us.length c7):=⟨_,rfl⟩
       rw [<- hW8]
       have HR:=zB ((zA HI).read (cc:=c7) hC1 (zA HKL) (zA HB2) (zA HSS) (show w6.grownBy W8 (some (wr.heap.size + 1)) by rw [hW8]; exact zMO (zA HB7) _ _ _) (by omega) (Or.inl (by simp)) (show zv W8 wr.heap.size a7 us by rw [hW8]; exact ((zA HON).grown (ze w7 (wr.heap.size + 1) 0 _) (fun q e=>by injection e with e; simp at z6; omega)).base (by simp at z6; omega)))
       obtain ⟨X8,hX8⟩:∃ X8,X8 = wr.heap.size + 1:=⟨_,rfl⟩
       have y8:W8.cell? ⟨X8,0,none⟩ = some (.slice a7 us.length c7):=by rw [hW8,hX8]; exact World.cell?_setCell_same _ _ _ y0
       have x8:wr.heap.size <= X8:=by omega
       rw [<- hX8]
       clear hW8 hX8 y0 y1 x0 x1)
      have HBW:=zB (zA HR).bel
      clear HSS HPa HPb HON HB7 z6 z7 c1 c2 q1 q2 nn1 nn2 HS1 HS2 HP HB1 HB2 HM1 HM2 HM3 HM4 HM5 HM6 l1 l2 l3 l4 l5 ne1 ne2 ne3 nb1 nb2
      by_cases hc:cd = 0
      ·subst hc
       have y5:=(zA HR).c5
       have f5:=(zA HR).f5
       have z8:=(zA HR).siz
       have HNP:=zB (show (Value.slice av tv.length cv).ownBlock ≠ some (w.heap.size + 1) /\ (Value.slice av tv.length cv).ownBlock ≠ some X8 from ⟨fun e=>by have:=(World.ownsRow.lt (zA HI).tr.row _ e).1; omega,fun e=>by have:=(World.ownsRow.lt (zA HI).tr.row _ e).2; omega⟩)
       have hX8l:X8 < W8.heap.size:=zAU y8
       have hPl:w.heap.size + 1 < W8.heap.size:=zAU y5
       have hXP:X8 ≠ w.heap.size + 1:=by omega
       have k6:∀ o',(W8.alloc o').drew.cell? ⟨w.heap.size + 1,5,none⟩ = some (.slice av tv.length cv):=fun o'=>((zC W8 o').cell (p:=⟨w.heap.size + 1,5,none⟩) hPl).trans y5
       have hS0:(fun W:World=>W.cell? ⟨X8,0,none⟩ = some (.slice a7 us.length c7) /\ True) W8.drew:=⟨y8,trivial⟩
       have HS1:=zB (show (fun W:World=>W.cell? ⟨X8,0,none⟩ = some (.slice a7 us.length c7) /\ True) (W8.alloc (.cells #[.slice a7 us.length c7] 56)).drew from ⟨((zC W8 _).cell (p:=⟨X8,0,none⟩) hX8l).trans y8,trivial⟩)
       have HFIN:=zB (fun (w4:World) (v4:Value)=>(zA HR).step (W8.alloc (.cells #[.slice a7 us.length c7] 56)).drew w4 v4 (zC _ _).drew)
       have HRV:=zB (zA HR).row
       have HTN:=zB ((zA HTO).step ((zA HPS) _ _ ⟨_,zA HPI⟩))
       clear HR
       go_wp2_with fail
       refine wp_region_held_drew (S:=fun W:World=>W.cell? ⟨X8,0,none⟩ = some (.slice a7 us.length c7) /\ True) (by kernel_rfl) hS0 (fun _=>?_)
       refine wpAnyH_take (i:=0) (v:=?_) rfl (by kernel_rfl) (by kernel_rfl) (by kernel_rfl) (fun _ _ _ h=>h) (Or.inl ⟨by rfl,?_⟩) hS0 ?_
       rotate_left
       ·intro W hW; obtain ⟨s1,_⟩:=hW; simp only [List.getElem_toArray,List.getElem_cons_succ,List.getElem_cons_zero]; go_simp; first | done | (with_reducible rfl)
       simp only [List.getElem_toArray,List.getElem_cons_succ,List.getElem_cons_zero]
       simp only [Act.put,List.setIfInBounds_toArray,List.set_cons_zero,List.set_cons_succ]
       refine wpAnyH_take (i:=1) (v:=?_) rfl (by kernel_rfl) (by kernel_rfl) (by kernel_rfl) (fun _ _ _ h=>h) (Or.inl ⟨by rfl,?_⟩) hS0 ?_
       rotate_left
       ·intro W hW; obtain ⟨s1,_⟩:=hW; simp only [List.getElem_toArray,List.getElem_cons_succ,List.getElem_cons_zero]; go_simp; first | done | (with_reducible rfl)
       simp only [List.getElem_toArray,List.getElem_cons_succ,List.getElem_cons_zero]
       simp only [Act.put,List.setIfInBounds_toArray,List.set_cons_zero,List.set_cons_succ]
       refine wpAnyH_take (i:=2) (v:=?_) rfl (by kernel_rfl) (by kernel_rfl) (by kernel_rfl) (fun _ _ _ h=>h) (Or.inl ⟨by rfl,?_⟩) hS0 ?_
       rotate_left
       ·intro W hW; obtain ⟨s1,_⟩:=hW; simp only [List.getElem_toArray,List.getElem_cons_succ,List.getElem_cons_zero]; go_simp; first | done | (with_reducible rfl)
       simp only [List.getElem_toArray,List.getElem_cons_succ,List.getElem_cons_zero]
       simp only [Act.put,List.setIfInBounds_toArray,List.set_cons_zero,List.set_cons_succ]
       refine wpAnyH_take (i:=3) (v:=?_) rfl (by kernel_rfl) (by kernel_rfl) (by kernel_rfl) (fun _ _ _ h=>h) (Or.inl ⟨by rfl,?_⟩) hS0 ?_
       rotate_left
       ·intro W hW; obtain ⟨s1,_⟩:=hW; simp only [List.getElem_toArray,List.getElem_cons_succ,List.getElem_cons_zero]; go_simp; first | done | (with_reducible rfl)
       simp only [List.getElem_toArray,List.getElem_cons_succ,List.getElem_cons_zero]
       simp only [Act.put,List.setIfInBounds_toArray,List.set_cons_zero,List.set_cons_succ]
       refine wpAnyH_take (i:=5) (v:=?_) rfl (by kernel_rfl) (by kernel_rfl) (by kernel_rfl) (fun _ _ _ h=>h) (Or.inl ⟨by rfl,?_⟩) hS0 ?_
       rotate_left
       ·intro W hW; obtain ⟨s1,_⟩:=hW; simp only [List.getElem_toArray,List.getElem_cons_succ,List.getElem_cons_zero]; go_simp; first | done | (with_reducible rfl)
       simp only [List.getElem_toArray,List.getElem_cons_succ,List.getElem_cons_zero]
       simp only [Act.put,List.setIfInBounds_toArray,List.set_cons_zero,List.set_cons_succ]
       refine wpAnyH_ready (rs:=[4,6]) (by kernel_rfl) (by simp) ?_
       refine AllReadyH.cons rfl (fun K hK=>?_) (AllReadyH.cons rfl (fun K hK=>?_) AllReadyH.nil)
       ·simp only [List.getElem_toArray,List.getElem_cons_succ,List.getElem_cons_zero]
        go_simp
        refine hK.out _ _ hS0 (fun _=>?_)
        clear hK
        refine wpAnyH_ready (rs:=[6]) (by kernel_rfl) (by simp) ?_
        refine AllReadyH.cons rfl (fun K hK=>?_) AllReadyH.nil
        simp only [List.getElem_toArray,List.getElem_cons_succ,List.getElem_cons_zero]
        go_simp
        refine hK.out _ _ (zA HS1) (fun _=>?_)
        clear hK
        refine wpAnyH_ready (rs:=[7]) (by kernel_rfl) (by simp) ?_
        refine AllReadyH.cons rfl (fun K hK=>?_) AllReadyH.nil
        refine step_append_lies _ (by rfl) (.tmp 56) (.tmp 58) 24 (by rfl) w1.heap.size 56 i0 _ 1 24 Tryz.underlying24 (zA HI0) (zA HZ).1 (zA HZ).2.1 (zA HZ).2.2 rfl (by decide) _ tv.length tv (by rfl) (zBb (zA HRV) (fun g e=>((zC W8 _).drew).block g (World.ownsRow.lt (zA HRV) g e).2)) ⟨W8.heap.size,0,none⟩ 1 1 [.slice a7 us.length c7] (by rfl) rfl (fun j u hj=>(by cases j with | zero=>(simp at hj; subst hj; simp [go_sem]) | succ j=>simp at hj)) (fun u hu=>(by simp at hu; subst hu; rfl)) (by decide) (by unfold maxLen; omega) (by omega) (by simp; omega) _ rfl ?_
        intro g4 c4 w4 hown4 hgrow4 hat4 hlt4
        have m2:w4.cell? ⟨w.heap.size + 1,5,none⟩ = some (.slice av tv.length cv):=(zE hgrow4 (b:=w.heap.size + 1) (by simp; omega) (zA HNP).1 5).trans (k6 _)
        have m3:w4.frozen? ⟨w.heap.size + 1,5,none⟩ = false:=(zU hgrow4 (b:=w.heap.size + 1) (by simp; omega) (zA HNP).1 5).trans (((zC W8 _).frozen (p:=⟨w.heap.size + 1,5,none⟩) hPl).trans f5)
        have e0:w4.cell? ⟨X8,0,none⟩ = some (.slice a7 us.length c7):=(zE hgrow4 (b:=X8) (by simp; omega) (zA HNP).2 0).trans (zA HS1).1
        have HF4:=zB ((zA HFIN) w4 (.slice (some ⟨g4,0,none⟩) (tv.length + 1) c4) hgrow4 (show zCY w4 _ _ (tv ++ [.slice a7 us.length c7]) by unfold zCY; rw [List.length_append]; exact hown4) (hat4.imp (fun e=>e.symm) (fun e=>⟨g4,rfl,by omega⟩)))
        clear hown4 hgrow4 hat4 hlt4
        refine hK.out _ _ ⟨e0,trivial⟩ (fun hS4=>?_)
        clear hK
        simp only [List.getElem_toArray,List.getElem_cons_succ,List.getElem_cons_zero]
        simp only [Act.put,List.setIfInBounds_toArray,List.set_cons_zero,List.set_cons_succ]
        refine wpAnyH_take (i:=8) (v:=?_) rfl (by kernel_rfl) (by kernel_rfl) (by kernel_rfl) (fun _ _ _ h=>h) (Or.inl ⟨by rfl,?_⟩) hS4 ?_
        rotate_left
        ·intro W hW; obtain ⟨s1,_⟩:=hW; simp only [List.getElem_toArray,List.getElem_cons_succ,List.getElem_cons_zero]; go_simp; first | done | (with_reducible rfl)
        simp only [List.getElem_toArray,List.getElem_cons_succ,List.getElem_cons_zero]
        simp only [Act.put,List.setIfInBounds_toArray,List.set_cons_zero,List.set_cons_succ]
        refine wpAnyH_take (i:=9) (v:=?_) rfl (by kernel_rfl) (by kernel_rfl) (by kernel_rfl) (fun _ _ _ h=>h) (Or.inl ⟨by rfl,?_⟩) hS4 ?_
        rotate_left
        ·intro W hW; obtain ⟨s1,_⟩:=hW; simp only [List.getElem_toArray,List.getElem_cons_succ,List.getElem_cons_zero]; go_simp; first | done | (with_reducible rfl)
        simp only [List.getElem_toArray,List.getElem_cons_succ,List.getElem_cons_zero]
        simp only [Act.put,List.setIfInBounds_toArray,List.set_cons_zero,List.set_cons_succ]
        refine wpAnyH_ready (rs:=[10]) (by kernel_rfl) (by simp) ?_
        refine AllReadyH.cons rfl (fun K hK=>?_) AllReadyH.nil
        simp only [List.getElem_toArray,List.getElem_cons_succ,List.getElem_cons_zero]
        go_simp
        refine hK.out _ _ ⟨by rw [World.cell?_setCell_other _ _ _ _ (by simp [hXP])]; exact e0,trivial⟩ (fun hS5=>?_)
        clear hK
        refine wpAnyH_done (by kernel_rfl) ?_ _
        clear hS4 hS5
        go_wp2_with fail
        exact ⟨⟨k + 1,_,_,_,_,_,by omega,by go_num,HF4,HTN⟩,by simp [intOf]; omega⟩
       ·simp only [List.getElem_toArray,List.getElem_cons_succ,List.getElem_cons_zero]
        go_simp
        refine hK.out _ _ (zA HS1) (fun _=>?_)
        clear hK
        refine wpAnyH_ready (rs:=[4]) (by kernel_rfl) (by simp) ?_
        refine AllReadyH.cons rfl (fun K hK=>?_) AllReadyH.nil
        simp only [List.getElem_toArray,List.getElem_cons_succ,List.getElem_cons_zero]
        go_simp
        refine hK.out _ _ (zA HS1) (fun _=>?_)
        clear hK
        refine wpAnyH_ready (rs:=[7]) (by kernel_rfl) (by simp) ?_
        refine AllReadyH.cons rfl (fun K hK=>?_) AllReadyH.nil
        refine step_append_lies _ (by rfl) (.tmp 56) (.tmp 58) 24 (by rfl) w1.heap.size 56 i0 _ 1 24 Tryz.underlying24 (zA HI0) (zA HZ).1 (zA HZ).2.1 (zA HZ).2.2 rfl (by decide) _ tv.length tv (by rfl) (zBb (zA HRV) (fun g e=>((zC W8 _).drew).block g (World.ownsRow.lt (zA HRV) g e).2)) ⟨W8.heap.size,0,none⟩ 1 1 [.slice a7 us.length c7] (by rfl) rfl (fun j u hj=>(by cases j with | zero=>(simp at hj; subst hj; simp [go_sem]) | succ j=>simp at hj)) (fun u hu=>(by simp at hu; subst hu; rfl)) (by decide) (by unfold maxLen; omega) (by omega) (by simp; omega) _ rfl ?_
        intro g4 c4 w4 hown4 hgrow4 hat4 hlt4
        have m2:w4.cell? ⟨w.heap.size + 1,5,none⟩ = some (.slice av tv.length cv):=(zE hgrow4 (b:=w.heap.size + 1) (by simp; omega) (zA HNP).1 5).trans (k6 _)
        have m3:w4.frozen? ⟨w.heap.size + 1,5,none⟩ = false:=(zU hgrow4 (b:=w.heap.size + 1) (by simp; omega) (zA HNP).1 5).trans (((zC W8 _).frozen (p:=⟨w.heap.size + 1,5,none⟩) hPl).trans f5)
        have e0:w4.cell? ⟨X8,0,none⟩ = some (.slice a7 us.length c7):=(zE hgrow4 (b:=X8) (by simp; omega) (zA HNP).2 0).trans (zA HS1).1
        have HF4:=zB ((zA HFIN) w4 (.slice (some ⟨g4,0,none⟩) (tv.length + 1) c4) hgrow4 (show zCY w4 _ _ (tv ++ [.slice a7 us.length c7]) by unfold zCY; rw [List.length_append]; exact hown4) (hat4.imp (fun e=>e.symm) (fun e=>⟨g4,rfl,by omega⟩)))
        clear hown4 hgrow4 hat4 hlt4
        refine hK.out _ _ ⟨e0,trivial⟩ (fun hS4=>?_)
        clear hK
        simp only [List.getElem_toArray,List.getElem_cons_succ,List.getElem_cons_zero]
        simp only [Act.put,List.setIfInBounds_toArray,List.set_cons_zero,List.set_cons_succ]
        refine wpAnyH_take (i:=8) (v:=?_) rfl (by kernel_rfl) (by kernel_rfl) (by kernel_rfl) (fun _ _ _ h=>h) (Or.inl ⟨by rfl,?_⟩) hS4 ?_
        rotate_left
        ·intro W hW; obtain ⟨s1,_⟩:=hW; simp only [List.getElem_toArray,List.getElem_cons_succ,List.getElem_cons_zero]; go_simp; first | done | (with_reducible rfl)
        simp only [List.getElem_toArray,List.getElem_cons_succ,List.getElem_cons_zero]
        simp only [Act.put,List.setIfInBounds_toArray,List.set_cons_zero,List.set_cons_succ]
        refine wpAnyH_take (i:=9) (v:=?_) rfl (by kernel_rfl) (by kernel_rfl) (by kernel_rfl) (fun _ _ _ h=>h) (Or.inl ⟨by rfl,?_⟩) hS4 ?_
        rotate_left
        ·intro W hW; obtain ⟨s1,_⟩:=hW; simp only [List.getElem_toArray,List.getElem_cons_succ,List.getElem_cons_zero]; go_simp; first | done | (with_reducible rfl)
        simp only [List.getElem_toArray,List.getElem_cons_succ,List.getElem_cons_zero]
        simp only [Act.put,List.setIfInBounds_toArray,List.set_cons_zero,List.set_cons_succ]
        refine wpAnyH_ready (rs:=[10]) (by kernel_rfl) (by simp) ?_
        refine AllReadyH.cons rfl (fun K hK=>?_) AllReadyH.nil
        simp only [List.getElem_toArray,List.getElem_cons_succ,List.getElem_cons_zero]
        go_simp
        refine hK.out _ _ ⟨by rw [World.cell?_setCell_other _ _ _ _ (by simp [hXP])]; exact e0,trivial⟩ (fun hS5=>?_)
        clear hK
        refine wpAnyH_done (by kernel_rfl) ?_ _
        clear hS4 hS5
        go_wp2_with fail
        exact ⟨⟨k + 1,_,_,_,_,_,by omega,by go_num,HF4,HTN⟩,by simp [intOf]; omega⟩
      ·have hcI:(cd != 0) = true:=by simpa using hc
       have hcd:=(zA HPI).code
       obtain ⟨h1,h2,h3⟩:=(zA HTR).hit hkm (zA HTO) ((zA HPS) _ _ ⟨_,zA HPI⟩) hc
       have HE:=zB (show zKu w out c who (.returned (.tuple #[.pointer none,.int .i64 (10 + cd),.int .i64 (k:Int)])) W8 from Or.inl ⟨by omega,h1,by rw [h2,h3],zA HBW⟩)
       clear hc h1 h2 h3 HR
       go_wp2_with fail
       go_ret3
       exact zA HE
    ·obtain rfl:k = ms.length:=by omega
     obtain ⟨rfl,rfl,rfl⟩:=(zA HTR).miss (zA HTO)
     have HE:=zB (show zKu w out 0 0 (.returned (.tuple #[.pointer (some ⟨w.heap.size + 1,0,none⟩),.int .i64 0,.int .i64 0])) wr from Or.inr ⟨rfl,rfl,_,_,rfl,(zA HI).c5,zB ((zA HI).tr.res.low (by have:=(zA HB0).size; omega)),(zA HI).bel⟩)
     have hltI:¬ ((ms.length:Nat):Int) < (vs.length:Int):=by omega
     go_wp2_with fail
     go_ret3
     exact zA HE
 ·have h1:c0 = 1 /\ w0 = 100:=by
   rcases hL with ⟨_,_,h⟩ | ⟨h,_⟩
   ·exact h
   ·exact absurd h hn
  obtain ⟨rfl,rfl⟩:=h1
  obtain ⟨_,rfl,rfl,rfl⟩:(1:Int) ≠ 0 /\ out = [] /\ c = 1 /\ who = 100:=by
   rcases hT with h | ⟨h,_⟩
   ·exact h
   ·omega
  have HX:=zB (zE2 am cm ms w (by omega))
  clear g hL hT
  go_enter Tryz.func24,Tryz.ntmps24
  go_wp2_with (first | (go_at_call 55; (with_reducible refine (zA HX).mono ?_); rintro e w1 ⟨rfl,hx⟩; obtain rfl:=hx.symm; clear hx))
  go_ret3
  exact Or.inl ⟨by decide,rfl,rfl,Below.refl _ _⟩
def zQQ (w:World) (out:List (List zD)) (c who:Int) (e:Ending) (w':World):Prop:=
 ∃ v,e = .returned (.tuple #[v,.int .i64 c,.int .i64 who]) /\ Hid (zEY w' w.heap.size v out) /\ Below w.heap.size w w'
theorem zDh (am:Option Addr) (cm:Nat) (ms:List zJ) (w:World) (g:ms.length <= 100 -> LdG w am ms) {out:List (List zD)} {c who:Int} (h:zCD ms out c who) :
  Calls Tryz.prog 8 #[.slice am ms.length cm] w (zQQ w out c who):=by
 have HX:=zB (zFc am cm ms w g h)
 clear g h
 go_enter Tryz.func8,Tryz.ntmps8
 go_wp2_with fail
 (with_reducible refine (zA HX).mono ?_)
 rintro e w1 (⟨h0,rfl,rfl,hb⟩ | ⟨rfl,rfl,P,vv,rfl,hc,HT,hb⟩)
 ·have hI:(c != 0) = true:=by simpa using h0
  clear h0
  go_wp2_with fail
  go_ret3
  exact ⟨_,rfl,zB ⟨⟨_,_,rfl⟩,Or.inl rfl⟩,hb⟩
 ·obtain ⟨⟨a,c,rfl⟩,_⟩:=id (zA HT)
  go_wp2_with fail
  go_ret3
  exact ⟨_,rfl,HT,hb⟩
end Go.Proofs.YtokabkhnidlcnacGreatDoor
namespace Go.Proofs.YtokabkhnidlcnacGreatDoor
set_option maxHeartbeats 16000000
set_option maxRecDepth 100000
open Go.RowKit
def zKv:Nat -> Nat -> List UInt8 -> List UInt8
 | 0,_,out=>out
 | f + 1,k,out=>if k = 0 then out else zKv f (k / 10) ((48 + UInt8.ofNat (k % 10)) :: out)
def MT (k:Nat):ByteArray:=⟨(109 :: zKv 20 k []).toArray⟩
theorem zQl (W:World) (c:Int):(convert 121 9 (.slice (some ⟨W.heap.size,0,none⟩) 1 1)).run Tryz.prog (W.alloc (.cells #[.int .u8 c] 5)) = .ok (.string ⟨#[UInt8.ofNat c.toNat]⟩) (W.alloc (.cells #[.int .u8 c] 5)):=by
 rw [run_convert_bytes_string _ 121 9 5 _ _ _ Tryz.underlying121 Tryz.underlying5 Tryz.underlying9]
 have hl:(loadCells ⟨W.heap.size,0,none⟩ 1).run Tryz.prog (W.alloc (.cells #[.int .u8 c] 5)) = .ok ([c].map (Value.int .u8)).toArray (W.alloc (.cells #[.int .u8 c] 5)):=
  run_loadCells_list (P:=Tryz.prog) _ ⟨W.heap.size,0,none⟩ [.int .u8 c] (fun j v hv=>by
   match j,hv with
   | 0,hv=>simp at hv; subst hv; simp [Addr.add,go_sem])
 rw [run_bytesToString _ ⟨W.heap.size,0,none⟩ 1 1 [c] hl]
 rfl
theorem zHu (l l':List UInt8):(ByteArray.mk l.toArray ++ ByteArray.mk l'.toArray) = ByteArray.mk (l ++ l').toArray:=by
 apply ByteArray.ext
 simp
theorem zIl (k:Nat) (w:World) (h0:1 <= k) (h1:k <= 1000000000) :
  Calls Tryz.prog 27 #[.int .i64 (k:Int)] w fun e w'=>e = .returned (.string (MT k)) /\ Below w.heap.size w w':=by
 have hk0:(0:Int) < (k:Int):=by omega
 go_enter Tryz.func27,Tryz.ntmps27
 go_wp2
 go_loopw [0,3] (fun kk out wr=>∃ (n f:Nat) (l:List UInt8),kk = .int .i64 (n:Int) /\ out = .string ⟨l.toArray⟩ /\ n <= 1000000000 /\ l.length + f <= 20 /\ Hid (n < 10 ^ f) /\ Hid (zKv f n l = zKv 20 k []) /\ Below w.heap.size w wr) (fun kk _ _=>(intOf kk).toNat)
 case atStart=>exact ⟨k,20,[],rfl,rfl,h1,by simp,zB (by omega),zB rfl,Below.refl _ _⟩
 case round=>
  obtain ⟨n,f,l,rfl,rfl,hn,hlf,hnf,hd,hbel⟩:=hrel
  by_cases hn0:0 < n
  ·have hn0':(0:Int) < (n:Int):=by omega
   obtain ⟨f',rfl⟩:∃ f',f = f' + 1:=by
    cases f with
    | zero=>exact absurd (zA hnf) (by simp; omega)
    | succ f'=>exact ⟨f',rfl⟩
   have hcv:=fun W c=>zQl W c
   go_wp2
   refine ⟨⟨n / 10,f',(48 + UInt8.ofNat (n % 10)) :: l,by simp,?_,by omega,by simp; omega,zB ?_,zB ?_,hbel.alloc hbel.size _⟩,by simp [intOf]; omega⟩
   ·show Value.string (ByteArray.mk [48 + UInt8.ofNat (n % 10)].toArray ++ ByteArray.mk l.toArray) = _
    rw [zHu]
    rfl
   ·have:=zA hnf
    rw [Nat.pow_succ] at this
    omega
   ·have:=zA hd
    unfold zKv at this
    rw [if_neg (by omega)] at this
    exact this
  ·have hn00:n = 0:=by omega
   go_wp2
   go_ret
   refine ⟨?_,hbel⟩
   have e:l = zKv 20 k []:=by
    rw [<- zA hd,hn00]
    cases f <;> simp [zKv]
   show Ending.returned (.string (ByteArray.mk [109].toArray ++ ByteArray.mk l.toArray)) = _
   rw [zHu,e]
   rfl
theorem zBX (x:Int) (k:Nat) (w:World) (hx:x = (k:Int)) (h0:1 <= k) (h1:k <= 1000000000) :
  Calls Tryz.prog 27 #[.int .i64 x] w fun e w'=>e = .returned (.string (MT k)) /\ Below w.heap.size w w':=by
 subst hx
 exact zIl k w h0 h1
end Go.Proofs.YtokabkhnidlcnacGreatDoor
