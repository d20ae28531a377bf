import Derived.Deep.RegionHeld3
import Derived.Test.YtgiemobdmbijiaaGreatDoorN01
import Derived.Test.YtgiemobdmbijiaaGreatDoorN04
namespace Go.Proofs.YtgiemobdmbijiaaGreatDoor
set_option linter.unusedSimpArgs false
set_option linter.unusedVariables false
set_option maxHeartbeats 16000000
set_option maxRecDepth 100000
open Go.RowKit
def gen (bs:List UInt8) (ns:List OpR) (grp:Bool):Nat -> Nat -> List zD -> Nat × List zD
 | 0,p,us=>(adv bs (adv bs p),us ++ [zDr (nxt bs (adv bs p))])
 | d + 1,p,us=>
  if bs.length <= adv bs p \/ nxt bs p % 8 = 0 \/ ns.length = 0 then (adv bs (adv bs p),us ++ [zDr (nxt bs (adv bs p))])
  else if grp = true /\ nxt bs p % 8 = 1 then ((gen bs ns grp d (adv bs p) us).1,(gen bs ns grp d (adv bs p) us).2 ++ [⟨6,⟨#[]⟩,((gen bs ns grp d (adv bs p) us).2.length:Int) - 1,0⟩])
  else if (atO ns (nxt bs p / 8 % ns.length)).k = 2 then
   ((gen bs ns grp d (gen bs ns grp d (adv bs p) us).1 (gen bs ns grp d (adv bs p) us).2).1,(gen bs ns grp d (gen bs ns grp d (adv bs p) us).1 (gen bs ns grp d (adv bs p) us).2).2 ++ [⟨(atO ns (nxt bs p / 8 % ns.length)).k + 2,(atO ns (nxt bs p / 8 % ns.length)).s,((gen bs ns grp d (adv bs p) us).2.length:Int) - 1,((gen bs ns grp d (gen bs ns grp d (adv bs p) us).1 (gen bs ns grp d (adv bs p) us).2).2.length:Int) - 1⟩])
  else ((gen bs ns grp d (adv bs p) us).1,(gen bs ns grp d (adv bs p) us).2 ++ [⟨(atO ns (nxt bs p / 8 % ns.length)).k + 2,(atO ns (nxt bs p / 8 % ns.length)).s,((gen bs ns grp d (adv bs p) us).2.length:Int) - 1,0⟩])
theorem zDt (bs:List UInt8) (ns:List OpR) (grp:Bool):∀ (d p:Nat) (us:List zD),us.length + 1 <= (gen bs ns grp d p us).2.length /\ (gen bs ns grp d p us).2.length + 1 <= us.length + 2 ^ (d + 1)
 | 0,p,us=>by simp [gen]
 | d + 1,p,us=>by
  have h1:=zDt bs ns grp d (adv bs p) us
  have h2:=zDt bs ns grp d (gen bs ns grp d (adv bs p) us).1 (gen bs ns grp d (adv bs p) us).2
  have hp:(2:Nat) ^ (d + 1 + 1) = 2 ^ (d + 1) * 2:=Nat.pow_succ ..
  have hq:2 <= 2 ^ (d + 1):=by have:=Nat.pow_le_pow_right (show 0 < 2 by decide) (show 1 <= d + 1 by omega); omega
  simp only [gen]
  split
  ·simp only [List.length_append,List.length_cons,List.length_nil]; omega
  ·split
   ·simp only [List.length_append,List.length_cons,List.length_nil]; omega
   ·split
    ·simp only [List.length_append,List.length_cons,List.length_nil]; omega
    ·simp only [List.length_append,List.length_cons,List.length_nil]; omega
theorem zGw (rp cap gt ct:Nat) (a:Option Addr) (bs:List UInt8) (ns:List OpR) (grp:Bool) (hl:bs.length <= 1200) (hns:ns.length <= 1048576) (hnr:gt ≠ rp) (hks:∀ j,j < ns.length -> 0 <= (atO ns j).k /\ (atO ns j).k <= 9):∀ (d p B g c:Nat) (us:List zD) (w:World),d <= 10 -> us.length + 2 ^ (d + 1) <= 100000 -> RdS w rp a cap bs p -> Zf w B g c us -> B <= w.heap.size -> rp < B -> gt < B -> Ops w gt 0 ns ->
  Calls Tryz.prog 82 #[.pointer (some ⟨rp,0,none⟩),.agg #[.slice (some ⟨gt,0,none⟩) ns.length ct],.int .i64 (d:Int),.bool grp,.slice (some ⟨g,0,none⟩) us.length c] w (zDs w rp cap a bs B g (gen bs ns grp d p us).1 (gen bs ns grp d p us).2)
 | 0,p,B,g,c,us,w,_,hm,hrd,hr,hB,hrp,hgt,ho=>by
  have hrl:=hrd.lt
  have HR:=zB (hr.below (zC w (.cells #[.slice (some ⟨gt,0,none⟩) ns.length ct] 55)))
  have HX:=zB (Z4 rp cap p a bs _ (hrd.below (zC w (.cells #[.slice (some ⟨gt,0,none⟩) ns.length ct] 55))) hl)
  have hg:=hr.lt
  clear hrd hr ho
  go_enter Tryz.func82,Tryz.ntmps82
  go_wp2_with fail
  (with_reducible refine (zA HX).mono ?_)
  rintro e w1 ⟨⟨k,rfl,hk,HK⟩,H1,HP1⟩
  have z1:w.heap.size + 1 <= w1.heap.size:=by have:=(zA HP1).size; simpa using this
  have HLF:=zB (zFg rp cap (adv bs p) B g c a bs us w1 (zA H1) hl (by omega) ((zA HR).kept (zA HP1) (by omega)) (by omega) hrp)
  have HKP:=zB ((K2.ofB (rp:=rp) (g:=g) (zC w (.cells #[.slice (some ⟨gt,0,none⟩) ns.length ct] 55))).trans (K2.of1 (g:=g) (zA HP1)) (Or.inl rfl))
  clear HX HR H1 HP1
  go_wp2_with fail
  (with_reducible refine (zA HLF).mono ?_)
  rintro e w2 ⟨g',c',rfl,hr2,hg2,hd2,hk2⟩
  go_wp2_with fail
  go_ret
  exact ⟨g',c',(by simp [gen]),hr2,by omega,hd2,zB ((zA HKP).trans (zA hk2) (Or.inl rfl))⟩
 | d + 1,p,B,g,c,us,w,hd,hm,hrd,hr,hB,hrp,hgt,ho=>by
  have hrl:=hrd.lt
  have hg:=hr.lt
  have hp2:(2:Nat) ^ (d + 1 + 1) = 2 ^ (d + 1) * 2:=Nat.pow_succ ..
  obtain ⟨i0,hi0,hz0,hz1,hz2⟩:=zQ zCW
  have HI:=zB hi0
  have HZ:=zB (And.intro hz0 (And.intro hz1 hz2))
  clear hi0 hz0 hz1 hz2
  have hm2:us.length + 2 ^ (d + 1) <= 100000:=by omega
  have hm3:us.length <= 99998:=by have:=Nat.pow_le_pow_right (show 0 < 2 by decide) (show 1 <= d + 1 by omega); omega
  have hd2:d <= 10:=by omega
  have HMM:=zB hm
  have HIH:=zB (zGw rp cap gt ct a bs ns grp hl hns hnr hks d)
  have hb0:=zC w (.cells #[.slice (some ⟨gt,0,none⟩) ns.length ct] 55)
  have HR:=zB (hr.below hb0)
  have HO:=zB (ho.below hb0 (by omega))
  have HX:=zB (Z4 rp cap p a bs _ (hrd.below hb0) hl)
  have HB0:=zB hb0
  have hdI:((d:Int) + 1 == 0) = false:=by simp; omega
  obtain ⟨y1,y2,hy⟩:∃ y1 y2,gen bs ns grp (d + 1) p us = (y1,y2):=⟨_,_,rfl⟩
  have HY:=zB hy
  rw [hy]
  clear hrd hr ho hb0 hy
  go_enter Tryz.func82,Tryz.ntmps82
  go_wp2_with fail
  (with_reducible refine (zA HX).mono ?_)
  rintro e w1 ⟨⟨k,rfl,hk,HK⟩,H1,HP1⟩
  have z1:w.heap.size + 1 <= w1.heap.size:=by have:=(zA HP1).size; simpa using this
  have HR1:=zB ((zA HR).kept (zA HP1) (by omega))
  have HO1:=zB ((zA HP1).ops (zA HO) (by simp; omega) hnr)
  have t1:w1.cell? ⟨w.heap.size,0,none⟩ = some (.slice (some ⟨gt,0,none⟩) ns.length ct):=((zA HP1).cell (b:=w.heap.size) (by simp) (by omega) 0).trans (by simp [go_sem])
  have HKP:=zB ((K2.ofB (rp:=rp) (g:=g) (zA HB0)).trans (K2.of1 (g:=g) (zA HP1)) (Or.inl rfl))
  have HLE:=zB (zB0 rp cap (adv bs p) a bs w1 (zA H1) hl)
  obtain ⟨L,hL⟩:∃ L,L = bs.length - adv bs p:=⟨_,rfl⟩
  rw [<- hL] at HLE
  have HL:=zB hL
  clear HX HR HO HP1 HB0 hL
  go_wp2_with fail
  (with_reducible refine (zA HLE).mono ?_)
  rintro e w2 ⟨rfl,H2,hb2⟩
  have z2:=hb2.size
  have HR2:=zB ((zA HR1).below hb2)
  have HO2:=zB ((zA HO1).below hb2 (by omega))
  have t2:=(hb2.cell (p:=⟨w.heap.size,0,none⟩) (by show w.heap.size < w1.heap.size; omega)).trans t1
  have HKP2:=zB ((zA HKP).trans (K2.ofB (rp:=rp) (g:=g) hb2) (Or.inl rfl))
  clear HLE H1 HR1 HO1 t1 HKP hb2
  by_cases hlf:L = 0 \/ k % 8 = 0 \/ ns.length = 0
  ·have HLF:=zB (zFg rp cap (adv bs p) B g c a bs us w2 (zA H2) hl (by omega) (zA HR2) (by omega) hrp)
   obtain ⟨rfl,hvs⟩:y1 = adv bs (adv bs p) /\ y2 = us ++ [zDr (nxt bs (adv bs p))]:=by
    have e:=zA HY
    simp only [gen] at e
    rw [if_pos (by rw [<- zA HK]; rcases hlf with h | h; exact Or.inl (by have:=zA HL; omega); exact Or.inr h)] at e
    injection e with e1 e2
    exact ⟨e1.symm,e2.symm⟩
   rw [<- hvs] at HLF
   clear hvs HY
   by_cases h1:L = 0
   ·subst h1
    clear hlf
    go_wp2_with fail
    (with_reducible refine (zA HLF).mono ?_)
    rintro e w3 ⟨g',c',rfl,hr3,hg3,hd3,hk3⟩
    go_wp2_with fail
    go_ret
    exact ⟨g',c',rfl,hr3,by omega,hd3,zB ((zA HKP2).trans (zA hk3) (Or.inl rfl))⟩
   ·have hLI:¬ (L:Int) <= 0:=by omega
    by_cases h2:k % 8 = 0
    ·have e8:((k:Int) % 8 == 0) = true:=by simp; omega
     clear hlf h2
     go_wp2_with fail
     (with_reducible refine (zA HLF).mono ?_)
     rintro e w3 ⟨g',c',rfl,hr3,hg3,hd3,hk3⟩
     go_wp2_with fail
     go_ret
     exact ⟨g',c',rfl,hr3,by omega,hd3,zB ((zA HKP2).trans (zA hk3) (Or.inl rfl))⟩
    ·have e8:((k:Int) % 8 == 0) = false:=by simp; omega
     have h3:ns.length = 0:=by omega
     have e9:((ns.length:Int) == 0) = true:=by simp [h3]
     clear hlf h2 h3
     go_wp2_with fail
     (with_reducible refine (zA HLF).mono ?_)
     rintro e w3 ⟨g',c',rfl,hr3,hg3,hd3,hk3⟩
     go_wp2_with fail
     go_ret
     exact ⟨g',c',rfl,hr3,by omega,hd3,zB ((zA HKP2).trans (zA hk3) (Or.inl rfl))⟩
  ·have h0L:L ≠ 0:=fun h=>hlf (Or.inl h)
   have h0k:k % 8 ≠ 0:=fun h=>hlf (Or.inr (Or.inl h))
   have h0n:ns.length ≠ 0:=fun h=>hlf (Or.inr (Or.inr h))
   have HNL:=zB (show ¬ (bs.length <= adv bs p \/ nxt bs p % 8 = 0 \/ ns.length = 0) by rw [<- zA HK]; have:=zA HL; omega)
   have hLI:¬ (L:Int) <= 0:=by omega
   have e8:((k:Int) % 8 == 0) = false:=by simp; omega
   have e9:((ns.length:Int) == 0) = false:=beq_eq_false_iff_ne.2 (by omega)
   have HC1:=zB ((zA HIH) (adv bs p) B g c us w2 hd2 hm2 (zA H2) (zA HR2) (by omega) hrp hgt (zA HO2))
   obtain ⟨q1,xs1,hq⟩:∃ q1 xs1,gen bs ns grp d (adv bs p) us = (q1,xs1):=⟨_,_,rfl⟩
   have hxl:=zDt bs ns grp d (adv bs p) us
   rw [hq] at HC1 hxl
   have HQ:=zB hq
   clear hlf hq h0L
   by_cases hgr:grp = true /\ k % 8 = 1
   ·obtain ⟨rfl,h8⟩:=hgr
    have e81:((k:Int) % 8 == 1) = true:=by simp; omega
    obtain ⟨rfl,hy2⟩:y1 = q1 /\ y2 = xs1 ++ [⟨6,⟨#[]⟩,(xs1.length:Int) - 1,0⟩]:=by
     have e:=zA HY
     simp only [gen] at e
     rw [if_neg (zA HNL),if_pos (by rw [<- zA HK]; first | exact ⟨rfl,h8⟩ | exact ⟨trivial,h8⟩),zA HQ] at e
     injection e with e1 e2
     exact ⟨e1.symm,e2.symm⟩
    have HY2:=zB hy2
    clear hy2 h8 h0k
    go_wp2_with fail
    (with_reducible refine (zA HC1).mono ?_)
    rintro e w3 ⟨g1,c1,rfl,hr1,hg1,hd1,hk1⟩
    have z3:=(zA hk1).size
    have hgl:=(zA hr1).lt
    have hx1:1 <= xs1.length:=by have:=hxl.1; omega
    have hx2:xs1.length <= 100000:=by have:=hxl.2; omega
    have HKP3:=zB ((zA HKP2).trans (zA hk1) (Or.inl rfl))
    go_wp2_with (at_builtin; refine wpList_append_own_at _ rfl (.tmp 50) (.tmp 55) 95 rfl B 120 i0 _ 4 40 Tryz.underlying95 (zA HI) (zA HZ).1 (zA HZ).2.1 (zA HZ).2.2 rfl (by decide) _ xs1.length (zM xs1) rfl ((zA hr1).below (zC _ _)) ⟨w3.heap.size,0,none⟩ 1 1 (zM [⟨6,⟨#[]⟩,(xs1.length:Int) - 1,0⟩]) rfl rfl (ZD w3 ⟨6,⟨#[]⟩,(xs1.length:Int) - 1,0⟩) (zR _) ?b1 ?b2 ?b3 ?next)
    case b1=>unfold maxLen; omega
    case b2=>omega
    case b3=>simp; omega
    case next=>
     intro v4 w4 hown4 hgrow4 hnil4 hat4
     obtain ⟨g4,c4,rfl,hr4⟩:=Zf.snoc hown4 (by simp [hnil4]) (zA HY2)
     have HR4:=zB hr4
     have hgr:World.grownBy _ w4 (some g1):=hgrow4
     have HD4:=zB (((zA hd1).below (zC w3 (.cells #[.int .i64 6,.string ⟨#[]⟩,.int .i64 ((xs1.length:Int) - 1),.int .i64 0] 120))).row hgr (by omega))
     have HK4:=zB (((zA HKP3).trans (K2.ofB (rp:=rp) (g:=g) (zC w3 _)) (Or.inl rfl)).row hgr (by omega))
     have hgg:g4 = g \/ w.heap.size <= g4:=by simp [Value.ownBlock] at hat4; omega
     clear hown4 hgrow4 hgr hnil4 hr4 hat4
     go_wp2_with fail
     go_ret
     exact ⟨g4,c4,rfl,HR4,hgg,HD4,HK4⟩
   ·obtain ⟨m,hmE⟩:∃ m,m = k / 8 % ns.length:=⟨_,rfl⟩
    have hmi:m < ns.length:=by rw [hmE]; exact Nat.mod_lt _ (by omega)
    have e4:(k:Int) / 8 % (ns.length:Int) = (m:Int):=by rw [hmE]; simp
    have e5:(m:Int) < (ns.length:Int):=by omega
    have e6:(0:Int) <= (m:Int):=by omega
    have e7:IntKind.i64.wrap ((k:Int) / 8) = (k:Int) / 8:=Go.IntWalk.i64_in _ (by omega)
    have e10:((k:Int) / 8).tmod (ns.length:Int) = (m:Int):=by rw [Int.tmod_eq_emod_of_nonneg (by omega)]; exact e4
    obtain ⟨a0,a1,a2,a3⟩:=(zA HO2) m hmi
    simp only [Nat.zero_add] at a0 a1 a2 a3
    obtain ⟨o,hoE⟩:∃ o,o = atO ns m:=⟨_,rfl⟩
    rw [<- hoE] at a0 a1 a2 a3
    have hko:0 <= o.k /\ o.k <= 9:=by rw [hoE]; exact hks m hmi
    obtain ⟨hk0,hk9⟩:=hko
    have HYE:=zB (show (y1,y2) = (if o.k = 2 then ((gen bs ns grp d q1 xs1).1,(gen bs ns grp d q1 xs1).2 ++ [⟨o.k + 2,o.s,(xs1.length:Int) - 1,((gen bs ns grp d q1 xs1).2.length:Int) - 1⟩]) else (q1,xs1 ++ [⟨o.k + 2,o.s,(xs1.length:Int) - 1,0⟩])) by
     have e:=zA HY
     simp only [gen] at e
     rw [if_neg (zA HNL),if_neg (by rw [<- zA HK]; exact hgr),<- zA HK,<- hmE,<- hoE,zA HQ] at e
     exact e.symm)
    obtain ⟨q2,xs2,hq2⟩:∃ q2 xs2,gen bs ns grp d q1 xs1 = (q2,xs2):=⟨_,_,rfl⟩
    have hxl2:=zDt bs ns grp d q1 xs1
    rw [hq2] at HYE hxl2
    have HQ2:=zB hq2
    have HX2:=zB hxl2
    clear hq2 hxl2
    have hgr2:grp = false \/ (grp = true /\ ((k:Int) % 8 == 1) = false):=by
     cases grp
     ·exact Or.inl rfl
     ·refine Or.inr ⟨rfl,?_⟩
      have:k % 8 ≠ 1:=fun h=>hgr ⟨rfl,h⟩
      simp; omega
    clear hgr hmE hoE HC1
    have hgt2:gt < w2.heap.size:=by omega
    rcases hgr2 with rfl | ⟨rfl,e81⟩
    all_goals
     have nn1:=World.new_ne w2 _ t2
     have nn2:=World.new_ne w2 _ a0
     go_wp2_with fail
     go_region_held3 (fun W=>W.cell? ⟨w.heap.size,0,none⟩ = some (.slice (some ⟨gt,0,none⟩) ns.length ct) /\ W.cell? ⟨gt,m * 4,none⟩ = some (.string o.s) /\ W.cell? ⟨gt,m * 4 + 1,none⟩ = some (.int .i64 o.k) /\ W.cell? ⟨gt,m * 4 + 2,none⟩ = some (.int .i64 o.l) /\ W.cell? ⟨gt,m * 4 + 3,none⟩ = some (.int .i64 o.sd)) (go_keep) (fail)
     all_goals
      obtain ⟨W4,hW4⟩:∃ W4,W4 = (w2.alloc (.cells #[.string o.s,.int .i64 o.k,.int .i64 o.l,.int .i64 o.sd] 46)).drew:=⟨_,rfl⟩
      rw [<- hW4]
      have hb4:Below w2.heap.size w2 W4:=by rw [hW4]; exact (zC _ _).drew
      have z4:w2.heap.size + 1 <= W4.heap.size:=by rw [hW4]; simp
      have t4:W4.cell? ⟨w.heap.size,0,none⟩ = some (.slice (some ⟨gt,0,none⟩) ns.length ct):=(hb4.cell (p:=⟨w.heap.size,0,none⟩) (by show w.heap.size < w2.heap.size; omega)).trans t2
      have p0:W4.cell? ⟨w2.heap.size,0,none⟩ = some (.string o.s):=by rw [hW4]; simp [go_sem]
      have p1:W4.cell? ⟨w2.heap.size,1,none⟩ = some (.int .i64 o.k):=by rw [hW4]; simp [go_sem]
      have HD4:=zB ((zA H2).below hb4)
      have HR4:=zB ((zA HR2).below hb4)
      have HO4:=zB ((zA HO2).below hb4 hgt2)
      have HK4:=zB ((zA HKP2).trans (K2.ofB (rp:=rp) (g:=g) hb4) (Or.inl rfl))
      have hw4:w.heap.size < W4.heap.size:=by omega
      have hw5:w2.heap.size < W4.heap.size:=by omega
      have nn3:=World.new_ne W4 _ t4
      have nn4:=World.new_ne W4 _ p0
      clear hW4 hb4 a0 a1 a2 a3 nn1 nn2 t2 H2 HR2 HO2 HKP2
      have hb5:=zC W4 (.cells #[.int .i64 (o.k + 2),.string o.s,.int .i64 0,.int .i64 0] 120)
      have HC5:=zB ((zA HIH) (adv bs p) B g c us _ hd2 hm2 ((zA HD4).below hb5) ((zA HR4).below hb5) (by simp; omega) hrp hgt ((zA HO4).below hb5 (by omega)))
      rw [zA HQ] at HC5
      have HK5:=zB ((zA HK4).trans (K2.ofB (rp:=rp) (g:=g) hb5) (Or.inl rfl))
      clear HD4 HR4 hb5
      go_wp2_with fail
      (with_reducible refine (zA HC5).mono ?_)
      rintro e w6 ⟨g1,c1,rfl,hr1,hg1,hd1,hk1⟩
      have z6:W4.heap.size + 1 <= w6.heap.size:=by have:=(zA hk1).size; simpa using this
      have hgl:=(zA hr1).lt
      have hg1':g1 = g \/ W4.heap.size + 1 <= g1:=by simp at hg1; omega
      have kc:=fun (b:Nat) (hb:b < W4.heap.size + 1) (h1:b ≠ rp) (h2:b ≠ g) (o':Nat)=>(zA hk1).cell (b:=b) (by simp; omega) h1 h2 o'
      have n0:w6.cell? ⟨W4.heap.size,0,none⟩ = some (.int .i64 (o.k + 2)):=(kc _ (by omega) (by omega) (by omega) 0).trans (by simp [go_sem])
      have n1:w6.cell? ⟨W4.heap.size,1,none⟩ = some (.string o.s):=(kc _ (by omega) (by omega) (by omega) 1).trans (by simp [go_sem])
      have n2:w6.cell? ⟨W4.heap.size,2,none⟩ = some (.int .i64 0):=(kc _ (by omega) (by omega) (by omega) 2).trans (by simp [go_sem])
      have n3:w6.cell? ⟨W4.heap.size,3,none⟩ = some (.int .i64 0):=(kc _ (by omega) (by omega) (by omega) 3).trans (by simp [go_sem])
      have nf:∀ o',w6.frozen? ⟨W4.heap.size,o',none⟩ = false:=fun o'=>((zA hk1).frozen (b:=W4.heap.size) (by simp) (by omega) (by omega) o').trans (by simp [go_sem])
      have o1:w6.cell? ⟨w2.heap.size,1,none⟩ = some (.int .i64 o.k):=(kc _ (by omega) (by omega) (by omega) 1).trans (((zC W4 _).cell (p:=⟨w2.heap.size,1,none⟩) hw5).trans p1)
      have t6:w6.cell? ⟨w.heap.size,0,none⟩ = some (.slice (some ⟨gt,0,none⟩) ns.length ct):=(kc _ (by omega) (by omega) (by omega) 0).trans (((zC W4 _).cell (p:=⟨w.heap.size,0,none⟩) hw4).trans t4)
      have HK6:=zB ((zA HK5).trans (zA hk1) (Or.inl rfl))
      have HO6:=zB (show Ops w6 gt 0 ns from fun i hi=>by
       obtain ⟨x0,x1,x2,x3⟩:=((zA HO4).below (zC W4 (.cells #[.int .i64 (o.k + 2),.string o.s,.int .i64 0,.int .i64 0] 120)) (by omega)) i hi
       exact ⟨(kc gt (by omega) hnr (by omega) _).trans x0,(kc gt (by omega) hnr (by omega) _).trans x1,(kc gt (by omega) hnr (by omega) _).trans x2,(kc gt (by omega) hnr (by omega) _).trans x3⟩)
      have hx1:1 <= xs1.length:=by have:=hxl.1; omega
      have hx2:xs1.length + 1 <= us.length + 2 ^ (d + 1):=hxl.2
      have hx3:xs1.length <= 100000:=by omega
      clear HC5 kc t4 p0 p1 nn3 nn4 HO4 HK5 hk1
      have HMX:=zB (show xs1.length + 2 ^ (d + 1) <= 100000 by have:=zA HMM; omega)
      have ks:=zAl w6 W4.heap.size 2 (.int .i64 ((xs1.length:Int) - 1))
      have hd7:=zB ((zA hd1).kept (fun i hi=>ks.block i (by have:=(zA hd1).lt; omega) (by omega)))
      have hr7:=zB ((zA hr1).set W4.heap.size 2 (.int .i64 ((xs1.length:Int) - 1)) (by omega))
      have hk7:=zB (show K2 w (w6.setCell ⟨W4.heap.size,2,none⟩ (.int .i64 ((xs1.length:Int) - 1))) rp g from (zA HK6).row (ZE ks) (Or.inr (by omega)))
      by_cases hinf:o.k = 2
      ·have hei:(o.k == 2) = true:=by simp [hinf]
       have HC7:=zB ((zA HIH) q1 B g1 c1 xs1 (w6.setCell ⟨W4.heap.size,2,none⟩ (.int .i64 ((xs1.length:Int) - 1))) hd2 (zA HMX) (zA hd7) (zA hr7) (by simp; omega) hrp hgt (ks.ops (zA HO6) (by omega) (by omega)))
       have HYF:=zB (show y1 = q2 /\ y2 = xs2 ++ [⟨o.k + 2,o.s,(xs1.length:Int) - 1,(xs2.length:Int) - 1⟩] by
        have e:=(zA HYE).trans (if_pos hinf)
        injection e with e1 e2
        exact ⟨e1,e2⟩)
       rw [zA HQ2] at HC7
       have ks2:=ks.size
       have kc7:=fun (b:Nat) (hb:b < w6.heap.size) (h1:b ≠ W4.heap.size) (o':Nat)=>ks.cell hb h1 o'
       have m0:(w6.setCell ⟨W4.heap.size,2,none⟩ (.int .i64 ((xs1.length:Int) - 1))).cell? ⟨W4.heap.size,0,none⟩ = some (.int .i64 (o.k + 2)):=(World.cell?_setCell_other _ _ _ _ (by simp)).trans n0
       have m1:(w6.setCell ⟨W4.heap.size,2,none⟩ (.int .i64 ((xs1.length:Int) - 1))).cell? ⟨W4.heap.size,1,none⟩ = some (.string o.s):=(World.cell?_setCell_other _ _ _ _ (by simp)).trans n1
       have m2:(w6.setCell ⟨W4.heap.size,2,none⟩ (.int .i64 ((xs1.length:Int) - 1))).cell? ⟨W4.heap.size,2,none⟩ = some (.int .i64 ((xs1.length:Int) - 1)):=World.cell?_setCell_same _ _ _ n2
       have m3:(w6.setCell ⟨W4.heap.size,2,none⟩ (.int .i64 ((xs1.length:Int) - 1))).cell? ⟨W4.heap.size,3,none⟩ = some (.int .i64 0):=(World.cell?_setCell_other _ _ _ _ (by simp)).trans n3
       have mf:∀ o',(w6.setCell ⟨W4.heap.size,2,none⟩ (.int .i64 ((xs1.length:Int) - 1))).frozen? ⟨W4.heap.size,o',none⟩ = false:=fun o'=>(World.frozen?_setCell _ _ _ _).trans (nf o')
       clear ks hd7 hd1 hr1 HO6 HYE hinf
       go_wp2_with fail
       (with_reducible refine (zA HC7).mono ?_)
       clear HC7
       rintro e w8 ⟨g2,c2,rfl,hr2,hg2,hd8,hk8⟩
       have z8:w6.heap.size <= w8.heap.size:=by have:=(zA hk8).size; omega
       have hgl2:=(zA hr2).lt
       have hg2':g2 = g1 \/ w6.heap.size <= g2:=by simp at hg2; omega
       have r0:=((zA hk8).cell (b:=W4.heap.size) (by omega) (by omega) (by omega) 0).trans m0
       have r1:=((zA hk8).cell (b:=W4.heap.size) (by omega) (by omega) (by omega) 1).trans m1
       have r2:=((zA hk8).cell (b:=W4.heap.size) (by omega) (by omega) (by omega) 2).trans m2
       have r3:=((zA hk8).cell (b:=W4.heap.size) (by omega) (by omega) (by omega) 3).trans m3
       have rf:=((zA hk8).frozen (b:=W4.heap.size) (by omega) (by omega) (by omega) 3).trans (mf 3)
       clear m0 m1 m2 m3 mf kc7 n0 n1 n2 n3
       have hy1:1 <= xs2.length:=by have:=(zA HX2).1; omega
       have hy2:xs2.length <= 100000:=by have:=(zA HX2).2; have:=zA HMX; omega
       have ks9:=zAl w8 W4.heap.size 3 (.int .i64 ((xs2.length:Int) - 1))
       have hd9:=zB ((zA hd8).kept (fun i hi=>ks9.block i (by have:=(zA hd8).lt; omega) (by omega)))
       have hr9:=zB ((zA hr2).set W4.heap.size 3 (.int .i64 ((xs2.length:Int) - 1)) (by omega))
       have hk9:=zB (show K2 w (w8.setCell ⟨W4.heap.size,3,none⟩ (.int .i64 ((xs2.length:Int) - 1))) rp g from ((zA hk7).trans (zA hk8) (by omega)).row (ZE ks9) (Or.inr (by omega)))
       clear ks9
       go_wp2_with (at_builtin; refine wpList_append_own_at _ rfl (.tmp 98) (.tmp 100) 95 rfl B 120 i0 _ 4 40 Tryz.underlying95 (zA HI) (zA HZ).1 (zA HZ).2.1 (zA HZ).2.2 rfl (by decide) _ xs2.length (zM xs2) rfl ((zA hr9).below (zC _ _)) ⟨w8.heap.size,0,none⟩ 1 1 (zM [⟨o.k + 2,o.s,(xs1.length:Int) - 1,(xs2.length:Int) - 1⟩]) rfl rfl (Zc (w8.setCell ⟨W4.heap.size,3,none⟩ (.int .i64 ((xs2.length:Int) - 1))) w8.heap.size ⟨o.k + 2,o.s,(xs1.length:Int) - 1,(xs2.length:Int) - 1⟩ (by simp)) (zR _) ?b1 ?b2 ?b3 ?next)
       case b1=>unfold maxLen; omega
       case b2=>omega
       case b3=>simp; omega
       case next=>
        intro v4 w10 hown4 hgrow4 hnil4 hat4
        obtain ⟨g4,c4,rfl,hr4⟩:=Zf.snoc hown4 (by simp [hnil4]) (zA HYF).2
        have HR4:=zB hr4
        have hgr:World.grownBy _ w10 (some g2):=hgrow4
        have HD4:=zB (((zA hd9).below (zC _ (.cells #[.int .i64 (o.k + 2),.string o.s,.int .i64 ((xs1.length:Int) - 1),.int .i64 ((xs2.length:Int) - 1)] 120))).row hgr (by omega))
        have HK4:=zB (((zA hk9).trans (K2.ofB (rp:=rp) (g:=g) (zC _ _)) (Or.inl rfl)).row hgr (by omega))
        have hgg:g4 = g \/ w.heap.size <= g4:=by simp [Value.ownBlock] at hat4; omega
        rw [<- (zA HYF).1] at HD4
        clear hown4 hgrow4 hgr hnil4 hr4 hat4
        go_wp2_with fail
        go_ret
        exact ⟨g4,c4,rfl,HR4,hgg,HD4,HK4⟩
      ·have hei:(o.k == 2) = false:=by simp [hinf]
       have HYF:=zB (show y1 = q1 /\ y2 = xs1 ++ [⟨o.k + 2,o.s,(xs1.length:Int) - 1,0⟩] by
        have e:=(zA HYE).trans (if_neg hinf)
        injection e with e1 e2
        exact ⟨e1,e2⟩)
       clear ks HYE
       go_wp2_with (at_builtin; refine wpList_append_own_at _ rfl (.tmp 98) (.tmp 100) 95 rfl B 120 i0 _ 4 40 Tryz.underlying95 (zA HI) (zA HZ).1 (zA HZ).2.1 (zA HZ).2.2 rfl (by decide) _ xs1.length (zM xs1) rfl ((zA hr7).below (zC _ _)) ⟨w6.heap.size,0,none⟩ 1 1 (zM [⟨o.k + 2,o.s,(xs1.length:Int) - 1,0⟩]) rfl rfl (Zc (w6.setCell ⟨W4.heap.size,2,none⟩ (.int .i64 ((xs1.length:Int) - 1))) w6.heap.size ⟨o.k + 2,o.s,(xs1.length:Int) - 1,0⟩ (by simp)) (zR _) ?b1 ?b2 ?b3 ?next)
       case b1=>unfold maxLen; omega
       case b2=>omega
       case b3=>simp; omega
       case next=>
        intro v4 w8 hown4 hgrow4 hnil4 hat4
        obtain ⟨g4,c4,rfl,hr4⟩:=Zf.snoc hown4 (by simp [hnil4]) (zA HYF).2
        have HR4:=zB hr4
        have hgr:World.grownBy _ w8 (some g1):=hgrow4
        have HD4:=zB (((zA hd7).below (zC _ (.cells #[.int .i64 (o.k + 2),.string o.s,.int .i64 ((xs1.length:Int) - 1),.int .i64 0] 120))).row hgr (by omega))
        have HK4:=zB (((zA hk7).trans (K2.ofB (rp:=rp) (g:=g) (zC _ _)) (Or.inl rfl)).row hgr (by omega))
        have hgg:g4 = g \/ w.heap.size <= g4:=by simp [Value.ownBlock] at hat4; omega
        rw [<- (zA HYF).1] at HD4
        clear hown4 hgrow4 hgr hnil4 hr4 hat4
        go_wp2_with fail
        go_ret
        exact ⟨g4,c4,rfl,HR4,hgg,HD4,HK4⟩
structure RdF (w:World) (rp:Nat) (a:Option Addr) (cap:Nat) (bs:List UInt8) (p:Nat):Prop where
 c0:w.cell? ⟨rp,0,none⟩ = some (.slice a bs.length cap)
 c1:w.cell? ⟨rp,1,none⟩ = some (.int .i64 (p:Int))
 fz:w.frozen? ⟨rp,1,none⟩ = false
 bts:bs.length = 0 \/ ∃ b off,a = some ⟨b,off,none⟩ /\ b < rp /\ ∀ i,i < bs.length -> w.cell? ⟨b,off + i,none⟩ = some (.int .u8 ((bs.getD i 0).toNat:Int))
theorem RdS.free {w:World} {rp cap p:Nat} {a:Option Addr} {bs:List UInt8} (h:RdS w rp a cap bs p):RdF w rp a cap bs p:=⟨h.c0,h.c1,h.fz,h.bts⟩
theorem RdF.lt {w:World} {rp cap p:Nat} {a:Option Addr} {bs:List UInt8} (h:RdF w rp a cap bs p):rp < w.heap.size:=block_lt_of_cell h.c0
theorem RdF.kept {w w':World} {rp cap p:Nat} {a:Option Addr} {bs:List UInt8} (h:RdF w rp a cap bs p) (hb:∀ i,i <= rp -> w'.heap[i]? = w.heap[i]?):RdF w' rp a cap bs p:=by
 have e:=fun o=>World.cell?_of_block (w:=w) (w':=w') (a:=⟨rp,o,none⟩) (hb rp (Nat.le_refl _))
 refine ⟨(e _).trans h.c0,(e _).trans h.c1,(World.frozen?_of_block (w:=w) (w':=w') (a:=⟨rp,1,none⟩) (hb rp (Nat.le_refl _))).trans h.fz,?_⟩
 rcases h.bts with h0 | ⟨b,off,ha,hlt,hc⟩
 ·exact Or.inl h0
 ·exact Or.inr ⟨b,off,ha,hlt,fun i hi=>(World.cell?_of_block (w:=w) (w':=w') (a:=⟨b,off + i,none⟩) (hb b (Nat.le_of_lt hlt))).trans (hc i hi)⟩
theorem RdF.below {w w':World} {rp cap p:Nat} {a:Option Addr} {bs:List UInt8} (h:RdF w rp a cap bs p) (hb:Below w.heap.size w w'):RdF w' rp a cap bs p:=
 h.kept (fun i hi=>hb.block i (by have:=h.lt; omega))
theorem RdF.move {w:World} {rp cap p:Nat} {a:Option Addr} {bs:List UInt8} (h:RdF w rp a cap bs p) (q:Nat) (n:Int) (hn:n = (q:Int)):RdF (w.setCell ⟨rp,1,none⟩ (.int .i64 n)) rp a cap bs q:=by
 subst hn
 refine ⟨(World.cell?_setCell_other _ _ _ _ (by simp)).trans h.c0,World.cell?_setCell_same _ _ _ h.c1,(World.frozen?_setCell _ _ _ _).trans h.fz,?_⟩
 rcases h.bts with h0 | ⟨b,off,ha,hlt,hc⟩
 ·exact Or.inl h0
 ·exact Or.inr ⟨b,off,ha,hlt,fun i hi=>(World.cell?_setCell_other _ _ _ _ (fun e=>by simp at e; first | done | omega)).trans (hc i hi)⟩
theorem RdF.drewN {w:World} {rp cap p:Nat} {a:Option Addr} {bs:List UInt8} (h:RdF w rp a cap bs p) (n:Nat):RdF (w.drewN n) rp a cap bs p:=h.kept (fun _ _=>rfl)
theorem zL (rp cap p:Nat) (a:Option Addr) (bs:List UInt8) (w:World) (h:RdF w rp a cap bs p) (hl:bs.length <= 1200) :
  Calls Tryz.prog 10 #[.pointer (some ⟨rp,0,none⟩)] w fun e w'=>(∃ k:Nat,e = .returned (.int .i64 (k:Int)) /\ k < 256 /\ Hid (k = nxt bs p)) /\ Hid (RdF w' rp a cap bs (adv bs p)) /\ Hid (zF w w' rp):=by
 have H:=zB h
 obtain ⟨c0,c1,fz,bts⟩:=h
 by_cases hp:p < bs.length
 ·have hpI:(p:Int) < (bs.length:Int):=by omega
  rcases bts with h0 | ⟨b,off,rfl,hlt,hc⟩
  ·omega
  have b0:=hc p hp
  have HA:=zB (show adv bs p = p + 1 by simp [adv,hp])
  clear hc
  go_enter Tryz.func10,Tryz.ntmps10
  go_wp2_with fail
  go_quiet (fail)
  go_wp2_with fail
  go_quiet (fail)
  go_wp2_with fail
  go_ret
  rw [zA HA]
  have h8:nxt bs p < 256:=zJd bs p
  refine ⟨⟨nxt bs p,zG ?_,h8,zB rfl⟩,zB (((zA H).drewN _).move (p + 1) _ (by omega)),zB ((Zt w _ _).trans (zAl _ rp 1 _))⟩
  have h9:nxt bs p = bs[p].toNat:=by simp [nxt,hp]
  rw [h9] at h8 ⊢
  unfold wrap64
  omega
 ·have hpI:¬ (p:Int) < (bs.length:Int):=by omega
  have HA:=zB (show adv bs p = p by simp [adv,hp])
  have HN:=zB (show nxt bs p = 0 by unfold nxt; rw [List.getD_eq_getElem?_getD,List.getElem?_eq_none (by omega)]; rfl)
  clear bts
  go_enter Tryz.func10,Tryz.ntmps10
  go_wp2_with fail
  go_quiet (fail)
  go_wp2_with fail
  go_ret
  rw [zA HA]
  exact ⟨⟨0,rfl,by decide,zB (zA HN).symm⟩,zB ((zA H).drewN _),zB (Zt w _ _)⟩
theorem RdF.set {w:World} {rp cap p:Nat} {a:Option Addr} {bs:List UInt8} (h:RdF w rp a cap bs p) (b o:Nat) (v:Value) (hb:rp < b):RdF (w.setCell ⟨b,o,none⟩ v) rp a cap bs p:=
 h.kept (fun i hi=>(zAl _ _ _ _).block i (by have:=h.lt; omega) (by omega))
theorem RdF.strict {w:World} {rp cap p:Nat} {a:Option Addr} {bs:List UInt8} (h:RdF w rp a cap bs p) (hp:p <= bs.length):RdS w rp a cap bs p:=⟨h.c0,h.c1,h.fz,hp,h.bts⟩
theorem zCj (rp cap p gt ct:Nat) (a:Option Addr) (bs:List UInt8) (ns:List OpR) (grp:Bool) (w:World) (h:RdS w rp a cap bs p) (hl:bs.length <= 1200) (hns:ns.length <= 1048576) (hks:∀ j,j < ns.length -> 0 <= (atO ns j).k /\ (atO ns j).k <= 9) (ho:Ops w gt 0 ns) (hgt:gt < w.heap.size) (hnr:gt ≠ rp) :
  Calls Tryz.prog 58 #[.pointer (some ⟨rp,0,none⟩),.agg #[.slice (some ⟨gt,0,none⟩) ns.length ct],.bool grp] w fun e w'=>(∃ g c,e = .returned (.agg #[.slice (some ⟨g,0,none⟩) (gen bs ns grp (2 + nxt bs p % 5) (adv bs p) []).2.length c]) /\ (gen bs ns grp (2 + nxt bs p % 5) (adv bs p) []).2.length <= c /\ w.heap.size <= g /\ ZB w' g (gen bs ns grp (2 + nxt bs p % 5) (adv bs p) []).2 (gen bs ns grp (2 + nxt bs p % 5) (adv bs p) []).2.length) /\ Hid (RdS w' rp a cap bs (gen bs ns grp (2 + nxt bs p % 5) (adv bs p) []).1) /\ Hid (zF w w' rp):=by
 have hrpw:=h.lt
 have H:=zB h
 have HO:=zB ho
 clear h ho
 obtain ⟨y,HY⟩:∃ y,Hid (gen bs ns grp (2 + nxt bs p % 5) (adv bs p) [] = y):=⟨_,zB rfl⟩
 rw [zA HY]
 go_enter Tryz.func58,Tryz.ntmps58
 go_wp2_with fail
 have hb0:Below w.heap.size w ((w.alloc (.cells #[.slice (some ⟨gt,0,none⟩) ns.length ct] 55)).alloc (.cells #[.slice none 0 0] 97)):=(zC _ _).alloc (by simp) _
 (with_reducible refine (Z4 rp cap p a bs _ ((zA H).below hb0) hl).mono ?_)
 rintro e w1 ⟨⟨k,rfl,hk,HK⟩,H1,HP1⟩
 have z1:w.heap.size + 2 <= w1.heap.size:=by have:=(zA HP1).size; simpa using this
 have t0:w1.cell? ⟨w.heap.size,0,none⟩ = some (.slice (some ⟨gt,0,none⟩) ns.length ct):=((zA HP1).cell (b:=w.heap.size) (by simp; omega) (by omega) 0).trans (by simp [go_sem])
 have r0:w1.cell? ⟨w.heap.size + 1,0,none⟩ = some (.slice none 0 0):=((zA HP1).cell (b:=w.heap.size + 1) (by simp) (by omega) 0).trans (by simp [go_sem])
 have r1:w1.frozen? ⟨w.heap.size + 1,0,none⟩ = false:=((zA HP1).frozen (b:=w.heap.size + 1) (by simp) (by omega) 0).trans (by simp [go_sem])
 have HW:=zB ((zF.of_below (g:=rp) hb0).trans (zA HP1))
 have HO1:=zB ((zA HW).ops (zA HO) hgt hnr)
 obtain ⟨d,HD⟩:∃ d,Hid (d = 2 + k % 5):=⟨_,zB rfl⟩
 have hd:(2:Int) + (k:Int) % 5 = (d:Int):=by have:=zA HD; omega
 have hd6:d <= 6:=by have:=zA HD; omega
 have hyE:gen bs ns grp d (adv bs p) [] = y:=by rw [zA HD,zA HK]; exact zA HY
 have HRW:=zB (show Zf (w1.alloc (.cells #[] 120)) w1.heap.size w1.heap.size 0 [] by
  have:=World.ownsRow_lit (base:=w1.heap.size) (e:=120) (size:=4) w1 #[] 0 (Nat.le_refl _) (Nat.zero_le _) rfl
  simpa [Zf,zM] using this)
 have hp6:(2:Nat) ^ (d + 1) <= 128:=by have:=Nat.pow_le_pow_right (show 0 < 2 by decide) (show d + 1 <= 7 by omega); omega
 have hb1:=zC w1 (.cells #[] 120)
 have HC:=zB (zGw rp cap gt ct a bs ns grp hl hns hnr hks d (adv bs p) w1.heap.size w1.heap.size 0 [] _ (by omega) (by simp; omega) ((zA H1).below hb1) (zA HRW) (by simp) (by omega) (by omega) ((zA HO1).below hb1 (by omega)))
 rw [hyE,List.length_nil] at HC
 have HB1:=zB hb1
 have hgt1:gt < w1.heap.size:=by omega
 clear H H1 HP1 hb0 HO hyE HRW HO1 hb1
 go_wp2_with fail
 (with_reducible refine (zA HC).mono ?_)
 rintro e w2 ⟨g',c',rfl,hr2,hg2,hd2,hk2⟩
 have z2:w1.heap.size + 1 <= w2.heap.size:=by have:=(zA hk2).size; simpa using this
 obtain ⟨hgB,hF⟩:=zAz (zA hr2)
 have hcap:=(zLD (zA hr2)).1
 have kc:=fun (b:Nat) (hb:b < w1.heap.size) (h1:b ≠ rp) (o':Nat)=>((zA hk2).cell (b:=b) (by simp; omega) h1 (by omega) o').trans ((zA HB1).cell (p:=⟨b,o',none⟩) hb)
 have R0:=(kc (w.heap.size + 1) (by omega) (by omega) 0).trans r0
 have R1:w2.frozen? ⟨w.heap.size + 1,0,none⟩ = false:=(((zA hk2).frozen (b:=w.heap.size + 1) (by simp; omega) (by omega) (by omega) 0).trans ((zA HB1).frozen (p:=⟨w.heap.size + 1,0,none⟩) (by show w.heap.size + 1 < w1.heap.size; omega))).trans r1
 have HF:=zB hF
 have HKK:=zB (show zF w w2 rp from ⟨(zA hk2).os.trans ((zA HB1).os.trans (zA HW).os),(zA hk2).tape.trans ((zA HB1).tape.trans (zA HW).tape),(zA hk2).output.trans ((zA HB1).output.trans (zA HW).output),by omega,fun i hi h1=>((zA hk2).block i (by simp; omega) h1 (by omega)).trans (((zA HB1).block i (by omega)).trans ((zA HW).block i hi h1))⟩)
 clear hF kc HB1 HC hk2 HW
 go_wp2_with fail
 refine bodyPost_ret (v:=.agg #[.slice (some ⟨g',0,none⟩) y.2.length c']) ?res rfl ⟨⟨g',c',rfl,hcap,by omega,(zA HF).setCell _ _ _ (by omega)⟩,zB ((zA hd2).kept (fun i hi=>(zAl _ _ _ _).block i (by omega) (by omega))),zB ((zA HKK).setRow (w.heap.size + 1) _ _ (Or.inr (by omega)))⟩
 case res=>simp [results,Tryz.results58,go_sem,R0]
end Go.Proofs.YtgiemobdmbijiaaGreatDoor
