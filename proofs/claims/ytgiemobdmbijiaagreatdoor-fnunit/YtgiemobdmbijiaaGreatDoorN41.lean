import Derived.Deep.RegionHeld3
import Derived.BigQuiet
import Derived.Deep.AppendLies
import Derived.Test.YtgiemobdmbijiaaGreatDoorN13
import Derived.Test.YtgiemobdmbijiaaGreatDoorN20
import Derived.Test.YtgiemobdmbijiaaGreatDoorN27
import Derived.Test.YtgiemobdmbijiaaGreatDoorN29
import Derived.Test.YtgiemobdmbijiaaGreatDoorN40
namespace Go.Proofs.YtgiemobdmbijiaaGreatDoor
set_option linter.unusedSimpArgs false
set_option linter.unusedVariables false
set_option maxHeartbeats 16000000
set_option maxRecDepth 100000
open Go.RowKit
def zON (w:World) (ms:List zI) (e:Ending) (w':World):Prop:=∃ (v:Value) (out:List (List zD)) (c who:Int),e = .returned (.tuple #[v,.int .i64 c,.int .i64 who]) /\ Hid (zDE ms out c who) /\ Hid (zO5 w' w.heap.size v out) /\ Below w.heap.size w w'
theorem zGT (w':World) (B b:Nat):zO5 w' B (.slice (some ⟨b,0,none⟩) 0 0) []:=⟨⟨_,_,rfl⟩,Or.inl rfl⟩
theorem TrI.empty (w:World) (B:Nat) (hB:B <= w.heap.size):TrI (w.alloc (.cells #[] 97)) B (.slice (some ⟨w.heap.size,0,none⟩) 0 0) [] [] []:=by
 refine ⟨?_,⟨rfl,rfl⟩,fun j hj=>absurd hj (Nat.not_lt_zero j),fun i j _ a a' h=>by simp at h⟩
 have:=World.ownsRow_lit (base:=B) (e:=97) (size:=1) w #[] 0 hB (Nat.zero_le _) rfl
 simpa [zHJ] using this
theorem zGj (a:Option Addr) (c0:Nat) (ms:List zI) (w:World) (hn:ms.length <= 1048576) (hM:zGe w a ms) (hz:zHu ms) :
  Calls Tryz.prog 36 #[.slice a ms.length c0] w (zON w ms):=by
 obtain ⟨W0,hW0⟩:∃ W0,W0 = w.alloc (.cells #[] 97):=⟨_,rfl⟩
 have hb0:Below w.heap.size w W0:=by rw [hW0]; exact zC _ _
 have HE:=zB (show TrI W0 w.heap.size (.slice (some ⟨w.heap.size,0,none⟩) 0 0) [] [] [] by rw [hW0]; exact TrI.empty w _ (Nat.le_refl _))
 have HLD:=zB (zEE a c0 ms W0 hn (hM.below hb0) hz)
 have HM:=zB hM
 have HSZ:=zB hz
 have HB0:=zB hb0
 have HW0:=zB hW0
 obtain ⟨i0,hi0,hz0,hz1,hz2⟩:=zQ zMZ
 have HI:=zB hi0
 have HZ:=zB (And.intro hz0 (And.intro hz1 hz2))
 clear hM hz hb0 hW0 hi0 hz0 hz1 hz2
 go_enter Tryz.func36,Tryz.ntmps36
 go_wp2_with fail
 rw [<- zA HW0]
 (with_reducible refine (zA HLD).mono ?_)
 rintro e w1 ⟨v1,tabs,cd0,wh0,rfl,HL,HT1,hm1,hb1⟩
 have HB1:=zB ((zA HB0).trans (hb1.mono (zA HB0).size))
 by_cases hc:cd0 = 0
 ·subst hc
  obtain ⟨h100,hg2,htl⟩:=(zA HL).good
  have HUN:=zB (zE5 a c0 ms w1 h100 ((zA HM).below (zA HB1)) (zA HSZ) hg2)
  have HM1:=zB hm1
  have HE1:=zB ((zA HE).keep hb1.size (fun q _ h=>hb1.block q h))
  have HTL:=zB htl
  have zw1:=(zA HB1).size
  have zw0:w.heap.size + 1 <= W0.heap.size:=by rw [zA HW0]; simp
  have zw01:=hb1.size
  obtain ⟨gS,cS,rfl,hT1⟩:=zA HT1
  rw [htl]
  rw [htl] at hT1
  have HT2:=zB hT1
  clear hb1 hm1 HLD HE htl hg2 hT1
  go_wp2_with fail
  (with_reducible refine (zA HUN).mono ?_)
  rintro e w2 ⟨gU,cU,vs,U,rfl,hgU,hgUl,hvl,HOV,HUA,HUO,hb2⟩
  have HB2:=zB ((zA HB1).trans (hb2.mono (zA HB1).size))
  have HC2:=zB (show Below w1.heap.size w1 w2 from hb2)
  have HE2:=zB ((zA HE1).keep hb2.size (fun q _ h=>hb2.block q h))
  have zw2:=hb2.size
  rw [hvl]
  have HVL:=zB hvl
  clear hb2 HUN HE1 hvl
  go_wp2_with fail
  go_loopw [5,10] (fun vv i wr=>∃ (k:Nat) (tv:List Value) (ta:List (Option Addr)) (out:List (List zD)),k <= ms.length /\ i = .int .i64 (k:Int) /\ Hid (TrI wr w.heap.size vv tv ta out) /\ Hid (zHw (zDJ tabs) (fun i=>(atU U i).b) k out) /\ Hid (w2.grownBy wr (some w.heap.size)) /\ Hid (∀ q,vv.ownBlock = some q -> q = w.heap.size \/ w2.heap.size <= q) /\ Below w.heap.size w wr) (fun _ i _=>ms.length - (intOf i).toNat)
  case atStart=>exact ⟨0,[],[],[],Nat.zero_le _,rfl,HE2,zB (zHw.nil _ _),zB (zO (Below.refl _ _) _),zB (fun q e=>Or.inl (by simpa [Value.ownBlock] using e.symm)),zA HB2⟩
  case round=>
   clear HE2
   obtain ⟨k,tv,ta,out,hk,rfl,HTI,HTT,HG,HVB,hbw⟩:=hrel
   have zr2:=(zA HG).size
   obtain ⟨av,cv,rfl⟩:∃ a c,u5 = .slice a tv.length c:=zV (zA HTI).row
   have htl:tv.length <= 1048576:=by have:=(zA HTI).len.1; have:=(zA HTT).1; omega
   by_cases hlt:k < ms.length
   ·have hltI:(k:Int) < (ms.length:Int):=by omega
    rcases zA HT2 with h | ⟨hgS0,hgS,hcS⟩
    ·omega
    obtain ⟨t,t0,hot,hlo⟩:=hcS k hlt
    obtain ⟨gq,cq,rfl,hgq,hops⟩:=zBy.of ((hot.at'.below (zA HC2)).grown (zA HG) (fun g e x=>by injection x with x; have:=hlo g e; omega)) hot.blk
    have t0':=(zE (zA HG) (b:=gS) (by omega) (fun x=>by injection x with x; omega) k).trans (((zA HC2).cell (p:=⟨gS,k,none⟩) hgS).trans t0)
    have hvk:k < vs.length:=by rw [zA HVL]; exact hlt
    have v2:=(zE (zA HG) (b:=gU) hgUl (fun x=>by injection x with x; omega) (k * 3 + 2)).trans ((zA HOV) k hvk).2.2
    have q3:=((zA HUA).2 k hvk).1.2.2
    have hbd:(atV vs k).b.size <= 1048576:=by rw [q3]; have:=zHM ((zA HUO).2 k hlt); omega
    obtain ⟨bd,hbdE⟩:∃ bd,bd = (atV vs k).b:=⟨_,rfl⟩
    rw [<- hbdE] at v2 hbd q3
    obtain ⟨hl1,hl2⟩:=(zA HM1) (zDJ tabs k) (by unfold zDJ; have:=zA HTL; simp [show k < tabs.length by omega])
    obtain ⟨xs,hxs⟩:∃ xs,xs = zDJ tabs k:=⟨_,rfl⟩
    rw [<- hxs] at t0' hops hl1 hl2
    have HPX:=zB (fun W (hb:Below wr.heap.size wr W)=>zGi gq 0 cq xs bd W hl1 (hops.below hb hgq) hl2 (by have:=hb.size; omega) hbd)
    have HPS:=zB (fun us c (h:∃ p,zCP xs bd us c p)=>show PsI (zDJ tabs) (fun i=>(atU U i).b) k us c by
     obtain ⟨p,h⟩:=h
     refine ⟨p,?_⟩
     show zCP (zDJ tabs k) (atU U k).b us c p
     rw [<- hxs,<- q3]
     exact h)
    clear hops t0 hcS q3 hbdE hxs hot hlo
    have HPD:=zB ((zA HPX) (wr.alloc (.cells #[.slice none 0 0] 97)).drew (zC _ _).drew)
    have HPE:=zB ((zA HPX) wr.drew (Below.refl _ _).drew)
    have gl1:gS < wr.drew.heap.size:=by show gS < wr.heap.size; omega
    have gl2:gU < wr.drew.heap.size:=by show gU < wr.heap.size; omega
    obtain ⟨N0,hN0⟩:∃ N0,N0 = (wr.alloc (.cells #[.slice none 0 0] 97)).drew:=⟨_,rfl⟩
    have gl3:gS < (wr.alloc (.cells #[.slice none 0 0] 97)).drew.heap.size:=by simp; omega
    have gl4:gU < (wr.alloc (.cells #[.slice none 0 0] 97)).drew.heap.size:=by simp; omega
    have gl5:wr.heap.size < (wr.alloc (.cells #[.slice none 0 0] 97)).drew.heap.size:=by simp
    have t0n:(wr.alloc (.cells #[.slice none 0 0] 97)).drew.cell? ⟨gS,k,none⟩ = _:=((zC wr _).cell (p:=⟨gS,k,none⟩) gl1).trans t0'
    have v2n:(wr.alloc (.cells #[.slice none 0 0] 97)).drew.cell? ⟨gU,k * 3 + 2,none⟩ = _:=((zC wr _).cell (p:=⟨gU,k * 3 + 2,none⟩) gl2).trans v2
    have HX0:=zB (show (wr.alloc (.cells #[.slice none 0 0] 97)).drew.cell? ⟨wr.heap.size,0,none⟩ = some (.slice none 0 0) by simp [go_sem])
    have HX1:=zB (show (wr.alloc (.cells #[.slice none 0 0] 97)).drew.frozen? ⟨wr.heap.size,0,none⟩ = false by simp [go_sem])
    clear hN0 N0
    have nn1:=World.new_ne wr _ t0'
    have nn2:=World.new_ne wr _ v2
    go_wp2_with fail
    go_region_held3 (fun W=>W.cell? ⟨gS,k,none⟩ = some (.slice (some ⟨gq,0,none⟩) xs.length cq) /\ W.cell? ⟨gU,k * 3 + 2,none⟩ = some (.string bd)) (go_keep) (first | (go_at_call 61; (first | ((with_reducible refine (zA HPE).mono ?_); rintro e w3 ⟨⟨a3,c3,us,cd,pl,rfl,HON,HPI⟩,hb3⟩; have HB3:=zB hb3; have z3:=hb3.size; have j1:=(hb3.cell (p:=⟨gS,k,none⟩) gl1).trans t0'; have j2:=(hb3.cell (p:=⟨gU,k * 3 + 2,none⟩) gl2).trans v2; clear hb3) | ((with_reducible refine (zA HPD).mono ?_); rintro e w3 ⟨⟨a3,c3,us,cd,pl,rfl,HON,HPI⟩,hb3⟩; have HB3:=zB hb3; have z3:=hb3.size; have j1:=(hb3.cell (p:=⟨gS,k,none⟩) gl3).trans t0n; have j2:=(hb3.cell (p:=⟨gU,k * 3 + 2,none⟩) gl4).trans v2n; have x0:w3.cell? ⟨wr.heap.size,0,none⟩ = some (.slice none 0 0):=(hb3.cell (p:=⟨wr.heap.size,0,none⟩) gl5).trans (zA HX0); have x1:w3.frozen? ⟨wr.heap.size,0,none⟩ = false:=(hb3.frozen (p:=⟨wr.heap.size,0,none⟩) gl5).trans (zA HX1); clear hb3))))
    all_goals
     first
     | (
      obtain ⟨W3,hW3⟩:∃ W3,W3 = w3.alloc (.cells #[.slice a3 us.length c3] 97):=⟨_,rfl⟩
      rw [<- hW3]
      have hbr:Below wr.heap.size wr W3:=by rw [hW3]; exact ((Below.refl _ _).drew.trans ((zA HB3).mono (Nat.le_refl _))).alloc (by simpa using z3) _
      have HO3:=zB (show ZP W3 wr.heap.size a3 us by rw [hW3]; exact (zA HON).step (zC _ _))
      obtain ⟨X,hX⟩:∃ X,X = w3.heap.size:=⟨_,rfl⟩
      have y0:W3.cell? ⟨X,0,none⟩ = some (.slice a3 us.length c3):=by rw [hW3,hX]; simp [go_sem]
      rw [<- hX]
      clear hW3 hX)
     | (
      obtain ⟨W3,hW3⟩:∃ W3,W3 = w3.setCell ⟨wr.heap.size,0,none⟩ (.slice a3 us.length c3):=⟨_,rfl⟩
      rw [<- hW3]
      have hbr:Below wr.heap.size wr W3:=by rw [hW3]; exact ((zC _ _).drew.trans ((zA HB3).mono (by simp))).setCell (p:=⟨wr.heap.size,0,none⟩) (Nat.le_refl _) _
      have HO3:=zB (show ZP W3 wr.heap.size a3 us by rw [hW3]; exact ((zA HON).grown (zm w3 wr.heap.size 0 _) (fun q e=>by injection e with e; simp; omega)).base (by simp))
      have y0:W3.cell? ⟨wr.heap.size,0,none⟩ = some (.slice a3 us.length c3):=by rw [hW3]; exact World.cell?_setCell_same _ _ _ x0
      clear x0 x1 hW3)
     have HBR:=zB hbr
     have HRW:=zB (show zHJ W3 w.heap.size (.slice av tv.length cv) tv from zEe (zA HTI).row (fun g e=>hbr.block g (World.ownsRow.lt (zA HTI).row g e).2))
     have zW3:=hbr.size
     clear hbr HPD HPE HPX HON HB3 z3 j1 j2 gl1 gl2 gl3 gl4 gl5 t0n v2n HX0 HX1 nn1 nn2
     by_cases hc:cd = 0
     ·subst hc
      go_wp2_with (first | (at_builtin; refine wpList_append_own_at _ rfl (.tmp 54) (.tmp 56) 72 rfl w.heap.size 97 i0 _ 1 24 Tryz.underlying72 (zA HI) (zA HZ).1 (zA HZ).2.1 (zA HZ).2.2 rfl (by decide) _ tv.length tv rfl (zEe (zA HRW) (fun g e=>(zC W3 _).block g (World.ownsRow.lt (zA HRW) g e).2)) ⟨W3.heap.size,0,none⟩ 1 1 [.slice a3 us.length c3] rfl rfl (fun j u hj=>(by cases j with | zero=>(simp at hj; subst hj; simp [go_sem]) | succ j=>simp at hj)) (fun u hu=>(by simp at hu; subst hu; rfl)) ?b1 ?b2 ?b3 ?next))
      case b1=>unfold maxLen; omega
      case b2=>omega
      case b3=>simp; omega
      case next=>
       intro v4 w4 hown4 hgrow4 hnil4 hat4
       have hr4:zHJ w4 w.heap.size v4 (tv ++ [.slice a3 us.length c3]):=by
        unfold zHJ
        rw [List.length_append]
        exact hown4
       have hvv:∀ q,(Value.slice av tv.length cv).ownBlock = some q -> w.heap.size <= q /\ q < wr.heap.size:=fun q e=>World.ownsRow.lt (zA HTI).row q e
       have hbx:Below wr.heap.size wr (W3.alloc (.cells #[.slice a3 us.length c3] 97)):=(zA HBR).alloc (zA HBR).size _
       have hzx:=hbx.size
       have hz4:=hgrow4.size
       have HN:=zB ((zA HTI).step (by have:=hbw.size; omega) hbx.size (fun q _ h=>hbx.block q h) ((zA HO3).step (zC _ _)) hgrow4 hr4 (hat4.imp id (fun e=>⟨_,e,by simp⟩)))
       have HTN:=zB ((zA HTT).step ((zA HPS) _ _ ⟨_,zA HPI⟩))
       have HGN:=zB (show w2.grownBy w4 (some w.heap.size) from ⟨hgrow4.os.trans (hbx.os.trans (zA HG).os),hgrow4.tape.trans (hbx.tape.trans (zA HG).tape),hgrow4.output.trans (hbx.output.trans (zA HG).output),by omega,fun q hq hne=>(hgrow4.block q (by omega) (fun e=>by rcases (zA HVB) q e.symm with x | x; exact hne (by rw [x]); omega)).trans ((hbx.block q (by omega)).trans ((zA HG).block q hq hne))⟩)
       have HVN:=zB (show ∀ q,v4.ownBlock = some q -> q = w.heap.size \/ w2.heap.size <= q from fun q e=>by
        rcases hat4 with h | h
        ·exact (zA HVB) q (h.symm.trans e)
        ·rw [h] at e; injection e with e; exact Or.inr (by omega))
       have HBN:=zB (show Below w.heap.size w w4 from (hbw.trans (hbx.mono hbw.size)).grown hgrow4 (by have:=hbw.size; omega) (fun q e=>(hvv q e).1))
       obtain ⟨a4,c4,rfl⟩:∃ a c,v4 = .slice a (tv ++ [Value.slice a3 us.length c3]).length c:=zV hr4
       clear hown4 hgrow4 hnil4 hat4 hr4 hvv hbx
       go_wp2_with fail
       exact ⟨⟨k + 1,_,_,_,by omega,by go_num,HN,HTN,HGN,HVN,zA HBN⟩,by simp [intOf]; omega⟩
     ·have hcI:(cd != 0) = true:=by simpa using hc
      have hcd:=(zA HPI).code
      have HR:=zB (show zDE ms [] (10 + cd) k from ⟨tabs,0,wh0,zA HL,Or.inr ⟨rfl,U,zA HUO,Or.inl ⟨k,us,cd,out,hlt,zA HTT,(zA HPS) _ _ ⟨_,zA HPI⟩,hc,rfl,rfl,rfl⟩⟩⟩)
      have HBW:=zB (hbw.trans ((zA HBR).mono hbw.size))
      clear hc
      go_wp2_with fail
      go_ret3
      exact ⟨_,[],_,_,rfl,HR,zB (zGT _ _ _),(zA HBW).alloc (zA HBW).size _⟩
   ·obtain rfl:k = ms.length:=by omega
    have HR:=zB (show zDE ms out 0 0 from ⟨tabs,0,wh0,zA HL,Or.inr ⟨rfl,U,zA HUO,Or.inr ⟨zA HTT,rfl,rfl⟩⟩⟩)
    have HTR:=zB (zA HTI).res
    clear hlt
    go_wp2_with fail
    go_ret3
    exact ⟨_,out,0,0,rfl,HR,HTR,hbw⟩
 ·have hcI:(cd0 != 0) = true:=by simpa using hc
  have HR:=zB (show zDE ms [] cd0 wh0 from ⟨tabs,cd0,wh0,zA HL,Or.inl ⟨hc,rfl,rfl,rfl⟩⟩)
  clear hm1 hc hb1 HLD HE
  go_wp2_with fail
  go_ret3
  exact ⟨_,[],_,_,rfl,HR,zB (zGT _ _ _),zA HB1⟩
theorem zIB (rp cap p gw cw:Nat) (a:Option Addr) (bs:List UInt8) (ws:List ByteArray) (w:World) (h:RdF w rp a cap bs p) (hl:bs.length <= 1200) (hwl:ws.length <= 100000) (hsz:∀ i,(atB ws i).size <= 20000) (hgw:gw < w.heap.size) (hne:gw ≠ rp) (hw:∀ i,i < ws.length -> w.cell? ⟨gw,i,none⟩ = some (.string (atB ws i))) :
  Calls Tryz.prog 34 #[.pointer (some ⟨rp,0,none⟩),.slice (some ⟨gw,0,none⟩) ws.length cw] w fun e w'=>(∃ s:ByteArray,e = .returned (.string s) /\ Hid (s = (Z6 bs ws p ws.length).1 ++ zDX (nxt bs (Z6 bs ws p ws.length).2))) /\ Hid (RdF w' rp a cap bs (adv bs (Z6 bs ws p ws.length).2)) /\ Hid (zF w w' rp):=by
 have H:=zB h
 have HW:=zB hw
 have HSZ:=zB hsz
 clear h hw hsz
 go_enter Tryz.func34,Tryz.ntmps34
 go_wp2_with fail
 (with_reducible refine (zDY rp cap p a bs _ (zA H) hl).mono ?_)
 rintro e w1 ⟨⟨g1,rfl,HG1⟩,H1,HP1⟩
 obtain ⟨o0,HO0⟩:∃ o0,Hid (o0 = (Z6 bs ws p 0).1):=⟨_,zB rfl⟩
 obtain rfl:g1 = o0:=(zA HG1).trans (zA HO0).symm
 go_wp2_with fail
 go_loopw [5,6] (fun ov iv wr=>∃ (i:Nat) (o:ByteArray) (q:Nat),i <= ws.length /\ iv = .int .i64 (i:Int) /\ ov = .string o /\ Hid (o = (Z6 bs ws p i).1) /\ Hid (q = (Z6 bs ws p i).2) /\ Hid (RdF wr rp a cap bs q) /\ Hid (zF w wr rp)) (fun _ iv _=>ws.length - (intOf iv).toNat)
 case atStart=>exact ⟨0,_,_,Nat.zero_le _,rfl,rfl,HO0,zB rfl,H1,HP1⟩
 case round=>
  clear H H1 HP1 HO0 HG1
  obtain ⟨i,o,q,hi,rfl,rfl,HOE,HQE,HR,HK⟩:=hrel
  have hos:o.size <= 2 + 20002 * i:=by rw [zA HOE]; exact zG6 bs ws p (zA HSZ) i
  have hos2:o.size <= 2000300000:=by omega
  have hwi:=(zA HSZ) i
  clear hos
  by_cases hlt:i < ws.length
  case neg=>
   have hie:i = ws.length:=by omega
   subst hie
   go_wp2_with fail
   (with_reducible refine (zDY rp cap q a bs _ (zA HR) hl).mono ?_)
   rintro e w2 ⟨⟨g2,rfl,HG2⟩,H2,HP2⟩
   have hg2:g2.size <= 2:=by rw [zA HG2]; exact zBW _
   go_wp2_with fail
   go_ret
   exact ⟨⟨_,rfl,zB (by rw [<- zA HOE,<- zA HQE,<- zA HG2])⟩,zB (by rw [<- zA HQE]; exact zA H2),zB ((zA HK).trans (zA HP2))⟩
  have hltI:(i:Int) < (ws.length:Int):=by omega
  go_wp2_with fail
  (with_reducible refine (zDY rp cap q a bs _ (zA HR) hl).mono ?_)
  rintro e w2 ⟨⟨g2,rfl,HG2⟩,H2,HP2⟩
  have hg2:g2.size <= 2:=by rw [zA HG2]; exact zBW _
  have HK2:=zB ((zA HK).trans (zA HP2))
  have c0:=((zA HK2).cell (b:=gw) hgw hne i).trans ((zA HW) i hlt)
  clear HR HK HP2
  by_cases hi0:i = 0
  ·subst hi0
   have e0:¬ (0:Int) < ((0:Nat):Int):=by omega
   go_wp2_with fail
   go_quiet (fail)
   go_wp2_with fail
   refine ⟨⟨1,_,adv bs q,by omega,rfl,rfl,zB ?_,zB ?_,zB ((zA H2).drewN _),zB ((zA HK2).trans (Zt _ _ _))⟩,by simp [intOf]; omega⟩
   ·show o ++ g2 ++ atB ws 0 = (Z6 bs ws p 0).1 ++ zCs ws 0 (nxt bs (Z6 bs ws p 0).2) ++ atB ws 0
    have e1:zCs ws 0 (nxt bs (Z6 bs ws p 0).2) = g2:=by
     unfold zCs
     rw [if_neg (fun h=>absurd h.1 (by omega)),zA HG2,zA HQE]
    rw [e1,zA HOE]
   ·rw [zA HQE]; rfl
  ·have e0:(0:Int) < (i:Int):=by omega
   have e0n:0 < i:=by omega
   have e0b:decide (0 < i) = true:=decide_eq_true e0n
   have e0c:decide ((0:Int) < (i:Int)) = true:=decide_eq_true e0
   have c1:=((zA HK2).cell (b:=gw) hgw hne (i - 1)).trans ((zA HW) (i - 1) (by omega))
   by_cases hg0:g2.size = 0
   ·have eg:g2 = ⟨#[]⟩:=ByteArray.size_eq_zero_iff.1 hg0
    have ei:(i:Int) - 1 = ((i - 1:Nat):Int):=by omega
    have hi1:((i - 1:Nat):Int) < (ws.length:Int):=by omega
    subst eg
    obtain ⟨mv,HMV⟩:∃ mv,Hid (zDO (atB ws (i - 1)) (atB ws i) = mv):=⟨_,zB rfl⟩
    have HX:=zB (zDZ (atB ws (i - 1)) (atB ws i) w2.drew)
    rw [zA HMV] at HX
    cases mv with
    | true=>
     go_wp2_with fail
     go_quiet ((go_at_call 55; exact Calls.quiet_of_same (by have:=zDZ (atB ws (i - 1)) (atB ws i); rw [zA HMV] at this; exact this _)))
     go_wp2_with fail
     refine ⟨⟨i + 1,_,adv bs q,by omega,by simp,rfl,zB ?_,zB ?_,zB ((zA H2).drewN _),zB ((zA HK2).trans (Zt _ _ _))⟩,by simp [intOf]; omega⟩
     ·show o ++ (⟨#[32]⟩:ByteArray) ++ atB ws i = (Z6 bs ws p i).1 ++ zCs ws i (nxt bs (Z6 bs ws p i).2) ++ atB ws i
      have e1:zCs ws i (nxt bs (Z6 bs ws p i).2) = (⟨#[32]⟩:ByteArray):=by
       unfold zCs
       rw [<- zA HQE]
       rw [if_pos ⟨e0n,by rw [<- zA HG2]; rfl,zA HMV⟩]
      rw [e1,zA HOE]
     ·rw [zA HQE]; rfl
    | false=>
     go_wp2_with fail
     go_quiet ((go_at_call 55; exact Calls.quiet_of_same (by have:=zDZ (atB ws (i - 1)) (atB ws i); rw [zA HMV] at this; exact this _)))
     go_wp2_with fail
     refine ⟨⟨i + 1,_,adv bs q,by omega,by simp,rfl,zB ?_,zB ?_,zB ((zA H2).drewN _),zB ((zA HK2).trans (Zt _ _ _))⟩,by simp [intOf]; omega⟩
     ·show o ++ (⟨#[]⟩:ByteArray) ++ atB ws i = (Z6 bs ws p i).1 ++ zCs ws i (nxt bs (Z6 bs ws p i).2) ++ atB ws i
      have e1:zCs ws i (nxt bs (Z6 bs ws p i).2) = (⟨#[]⟩:ByteArray):=by
       unfold zCs
       rw [<- zA HQE]
       rw [if_neg (fun h=>by rw [zA HMV] at h; exact absurd h.2.2 (by decide)),<- zA HG2]
      rw [e1,zA HOE]
     ·rw [zA HQE]; rfl
   ·have ng:¬ g2 = ⟨#[]⟩:=fun e=>hg0 (by rw [e]; rfl)
    have ng':¬ g2.toList = []:=fun e=>ng (Z8 (by rw [e,ByteArray.toList_eq]))
    have eg:g2.toList.isEmpty = false:=by cases h:g2.toList with | nil=>exact absurd h ng' | cons x r=>rfl
    have hcs:g2 = ⟨#[32]⟩ \/ g2 = ⟨#[10,9]⟩ \/ g2 = ⟨#[32,32]⟩:=by
     have h:=zA HG2
     unfold zDX at h
     split at h
     ·exact Or.inl h
     ·split at h
      ·exact Or.inr (Or.inl h)
      ·split at h
       ·exact Or.inr (Or.inr h)
       ·exact absurd h ng
    clear eg ng ng' hg2
    rcases hcs with rfl | rfl | rfl
    all_goals
     go_wp2_with fail
     go_quiet (fail)
     go_wp2_with fail
     refine ⟨⟨i + 1,_,adv bs q,by omega,by simp,rfl,zB ?_,zB ?_,zB ((zA H2).drewN _),zB ((zA HK2).trans (Zt _ _ _))⟩,by simp [intOf]; omega⟩
     ·show _ = (Z6 bs ws p i).1 ++ zCs ws i (nxt bs (Z6 bs ws p i).2) ++ atB ws i
      have e1:zCs ws i (nxt bs (Z6 bs ws p i).2) = zDX (nxt bs q):=by
       unfold zCs
       rw [<- zA HQE,if_neg (fun h=>by rw [<- zA HG2] at h; exact absurd h.2.1 (by decide))]
      rw [e1,<- zA HG2,zA HOE]
     ·rw [zA HQE]; rfl
theorem zM4 {w:World} {B g0 c0:Nat} {us vs:List zI} (ty:TypeId) (hr:ZG w B (.slice (some ⟨g0,0,none⟩) us.length c0) us) (ad:Addr) (c:Nat)
  (hnews:∀ j u,(zU vs)[j]? = some u -> w.cell? (ad.add j) = some u) (hl:us.length + vs.length <= 1000) (hB:B <= w.heap.size) :
  ∃ g cap w' ts,(Builtin.append_ #[36,36] ty #[.slice (some ⟨g0,0,none⟩) us.length c0,.slice (some ad) vs.length c]).run Tryz.prog w = .ok (.slice (some ⟨g,0,none⟩) (List.length ts) cap) w' /\
   ts = us ++ vs /\ ZG w' B (.slice (some ⟨g,0,none⟩) (List.length ts) cap) ts /\ w.grownBy w' (some g0) /\ (g = g0 \/ g = w.heap.size) /\ g < w'.heap.size:=by
 obtain ⟨i2,hi2,hx0,hx1,hx2⟩:=info_parts zEg
 obtain ⟨v',w',h1,h2,h3,h4,h5⟩:=run_append_own_at (P:=Tryz.prog) w B 36 ty 39 i2 _ 2 32 Tryz.underlying36 hi2 hx0 hx1 hx2 rfl (by decide) _ us.length (zU us) hr ad vs.length c (zU vs) (zCT vs) hnews (zAM _) (by unfold maxLen; omega) (by omega) hB
 have hn:v' ≠ .slice none 0 0:=fun e=>by have:=(h4.1 e).1; cases this
 obtain ⟨_,⟨e,_⟩ | ⟨g,cap,cur,rfl,_⟩⟩:=id h2
 ·exact absurd e hn
 have hl2:us.length + vs.length = (us ++ vs).length:=by simp
 have hr2:ZG w' B (.slice (some ⟨g,0,none⟩) (us ++ vs).length cap) (us ++ vs):=by
  unfold ZG
  rw [zBE,List.length_append]
  exact h2
 refine ⟨g,cap,w',us ++ vs,by rw [<- hl2]; exact h1,rfl,hr2,h3,?_,(hr2.lt g rfl).2⟩
 rcases h5 with h5 | h5
 ·exact Or.inl (by simpa [Value.ownBlock] using h5)
 ·exact Or.inr (by simpa [Value.ownBlock] using h5)
theorem Zh {w:World} {ops:Array Oper} {o:Oper} {a:Act} {K:Act -> World -> Prop} {Q:Exit -> Act -> World -> Prop} {E:Prop} {B g0 c0:Nat} {us vs:List zI} (hgd:o.guard = none) (s x:Operand)
  (ho:o.op = .call { callee:=.builtin .append,args:=#[s,x],argTypes:=#[36,36] })
  (hr:ZG w B (.slice (some ⟨g0,0,none⟩) us.length c0) us) (ad:Addr) (c:Nat) (hnews:∀ j u,(zU vs)[j]? = some u -> w.cell? (ad.add j) = some u) (hl:us.length + vs.length <= 1000) (hB:B <= w.heap.size)
  (hs:a.eval s = .slice (some ⟨g0,0,none⟩) us.length c0) (hx:a.eval x = .slice (some ad) vs.length c)
  (h:∀ g cap w' (ts:List zI),ts = us ++ vs -> ZG w' B (.slice (some ⟨g,0,none⟩) ts.length cap) ts -> w.grownBy w' (some g0) -> (g = g0 \/ g = w.heap.size) -> g < w'.heap.size -> K (a.put o.dst (.slice (some ⟨g,0,none⟩) ts.length cap)) w') :
  if Region.wanted o (yielded ops a.tmps) = true then Oper.wp Tryz.prog o a w K Q else E:=by
 have hw:Region.wanted o (yielded ops a.tmps) = true:=by simp [Region.wanted,hgd]
 rw [if_pos hw]
 obtain ⟨g,cap,w',ts,h1,h2,h3,h4,h5,h6⟩:=zM4 (w:=w) o.type hr ad c hnews hl hB
 unfold Oper.wp execOp
 simp only [ho,resolve,invoke,builtin,Sem.run_bind,Sem.run_pure,Result.andThen_ok,List.map_toArray,List.map_cons,List.map_nil,hs,hx,h1]
 exact h g cap w' ts h2 h3 h4 h5 h6
end Go.Proofs.YtgiemobdmbijiaaGreatDoor
