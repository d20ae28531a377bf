import Derived.Test.YtfboipappaonhaaGreatM12
import Derived.Test.YtfboipappaonhaaGreatM18
namespace Go.Proofs.YtfboipappaonhaaGreat
set_option linter.unusedSimpArgs false
set_option linter.unusedVariables false
set_option maxHeartbeats 16000000
set_option maxRecDepth 100000
open Go.RowKit
theorem zDF (rp cap p:Nat) (a:Option Addr) (bs:List UInt8) (w:World) (h:RdS w rp a cap bs p) (hl:bs.length <= 1200) :
  Calls Tryz.prog 49 #[.pointer (some ⟨rp,0,none⟩)] w (zK1 w rp bs p):=by
 have hrpw:=h.lt
 have H:=zB h
 clear h
 go_enter Tryz.func49,Tryz.ntmps49
 go_wp2_with fail
 have HB0:=zB (show Below w.heap.size w ((w.alloc (.cells #[.slice none 0 0] 25)).alloc (.cells #[.slice none 0 0] 28)) from (zC _ _).alloc (by simp) _)
 (with_reducible refine (Z9 rp cap p a bs _ ((zA H).below (zA HB0)) hl).mono ?_)
 rintro e w1 ⟨⟨k,rfl,hk,HK⟩,H1,HP1⟩
 have z1:w.heap.size + 2 <= w1.heap.size:=by have:=(zA HP1).size; simpa using this
 have q0:w1.cell? ⟨w.heap.size,0,none⟩ = some (.slice none 0 0):=((zA HP1).cell (b:=w.heap.size) (by simp; omega) (by omega) 0).trans (by simp [go_sem])
 have g0:w1.frozen? ⟨w.heap.size,0,none⟩ = false:=((zA HP1).frozen (b:=w.heap.size) (by simp; omega) (by omega) 0).trans (by simp [go_sem])
 have q1:w1.cell? ⟨w.heap.size + 1,0,none⟩ = some (.slice none 0 0):=((zA HP1).cell (b:=w.heap.size + 1) (by simp) (by omega) 0).trans (by simp [go_sem])
 have g1:w1.frozen? ⟨w.heap.size + 1,0,none⟩ = false:=((zA HP1).frozen (b:=w.heap.size + 1) (by simp) (by omega) 0).trans (by simp [go_sem])
 have HW1:=zB ((zE.of_below (g:=rp) (zA HB0)).trans (zA HP1))
 clear H HP1 HB0
 go_wp2_with fail
 (with_reducible refine (zEb rp cap (adv bs p) a bs _ (zA H1) hl).mono ?_)
 rintro e w2 ⟨⟨gt,ct,q,ys,rfl,hgt,hF,HT,H2⟩,HP2⟩
 have hy1:=(zA HT).len
 have h38:=Nat.mod_lt (nxt bs (adv bs p)) (show 0 < 8 by decide)
 have hy10:ys.length <= 10:=by omega
 have HYS:=zB hy1.2
 have HYK:=zB (zA HT).kinds
 have z2:=(zA HP2).size
 have hgl:=hF.1
 have HF2:=zB (hF.below (zC w2 (.cells #[.slice (some ⟨gt,0,none⟩) ys.length ct] 25)) hgl)
 have HR2:=zB ((zA H2).below (zC w2 (.cells #[.slice (some ⟨gt,0,none⟩) ys.length ct] 25)))
 clear hy1 h38 H1 H2 hF
 have HX:=zB (zE8 rp cap q gt ct a bs ys ((k:Int) % 2 == 1) _ (zA HR2) hl (by omega) (zA HYK) (zA HF2).ops (by simp; omega) (by omega))
 obtain ⟨y,HY⟩:∃ y,Hid (gen bs ys ((k:Int) % 2 == 1) (2 + nxt bs q % 5) (adv bs q) [] = y):=⟨_,zB rfl⟩
 rw [zA HY] at HX
 have HY0:=zB (show tr0 bs p ys q = y by
  rw [<- zA HY,zA HK]
  unfold tr0
  congr 1
  rw [Bool.eq_iff_iff,decide_eq_true_eq,beq_iff_eq]
  omega)
 have hyl:=zJP bs p ys q
 rw [zA HY0] at hyl
 obtain ⟨pl,us⟩:=y
 simp only at HX hyl
 clear HY
 go_wp2_with fail
 (with_reducible refine (zA HX).mono ?_)
 rintro e w3 ⟨⟨gn,cn,rfl,hcn,hgn,hN⟩,H3,HP3⟩
 have hgn2:w2.heap.size + 1 <= gn:=by simpa using hgn
 have z3:w2.heap.size + 1 <= w3.heap.size:=by have:=(zA HP3).size; simpa using this
 have hnl:=hN.1
 have HB3:=zB (zC w3 (.cells #[.slice (some ⟨gn,0,none⟩) us.length cn] 28))
 have HKA:=zB (((zE.of_below (g:=rp) (zC w2 (.cells #[.slice (some ⟨gt,0,none⟩) ys.length ct] 25))).trans (zA HP3)).trans (zE.of_below (zA HB3)))
 have kc:=fun (b:Nat) (hb:b < w1.heap.size) (h1:b ≠ rp)=>((zA HP3).cell (b:=b) (by simp; omega) h1 0).trans (((zC w2 (.cells #[.slice (some ⟨gt,0,none⟩) ys.length ct] 25)).cell (p:=⟨b,0,none⟩) (by show b < w2.heap.size; omega)).trans ((zA HP2).cell (b:=b) hb h1 0))
 have kf:=fun (b:Nat) (hb:b < w1.heap.size) (h1:b ≠ rp)=>((zA HP3).frozen (b:=b) (by simp; omega) h1 0).trans (((zC w2 (.cells #[.slice (some ⟨gt,0,none⟩) ys.length ct] 25)).frozen (p:=⟨b,0,none⟩) (by show b < w2.heap.size; omega)).trans ((zA HP2).frozen (b:=b) hb h1 0))
 have r0:w3.cell? ⟨w.heap.size,0,none⟩ = some (.slice none 0 0):=(kc _ (by omega) (by omega)).trans q0
 have f0:w3.frozen? ⟨w.heap.size,0,none⟩ = false:=(kf _ (by omega) (by omega)).trans g0
 have r1:w3.cell? ⟨w.heap.size + 1,0,none⟩ = some (.slice none 0 0):=(kc _ (by omega) (by omega)).trans q1
 have f1:w3.frozen? ⟨w.heap.size + 1,0,none⟩ = false:=(kf _ (by omega) (by omega)).trans g1
 have t0:w3.cell? ⟨w2.heap.size,0,none⟩ = some (.slice (some ⟨gt,0,none⟩) ys.length ct):=((zA HP3).cell (b:=w2.heap.size) (by simp) (by omega) 0).trans (by simp [go_sem])
 have tf:w3.frozen? ⟨w2.heap.size,0,none⟩ = false:=((zA HP3).frozen (b:=w2.heap.size) (by simp) (by omega) 0).trans (by simp [go_sem])
 have HOV:=zB (show OvS w (w3.alloc (.cells #[.slice (some ⟨gn,0,none⟩) us.length cn] 28)) rp w2.heap.size w3.heap.size gt ct gn cn ys us from by
  refine ⟨⟨hrpw,by omega,by omega,by omega,by omega,by omega,by omega,by omega,by omega,by omega,by omega⟩,by simp; omega,by simp,((zA HB3).cell (p:=⟨_,0,none⟩) (by show w.heap.size < w3.heap.size; omega)).trans r0,((zA HB3).frozen (p:=⟨_,0,none⟩) (by show w.heap.size < w3.heap.size; omega)).trans f0,((zA HB3).cell (p:=⟨_,0,none⟩) (by show w.heap.size + 1 < w3.heap.size; omega)).trans r1,((zA HB3).frozen (p:=⟨_,0,none⟩) (by show w.heap.size + 1 < w3.heap.size; omega)).trans f1,((zA HB3).cell (p:=⟨w2.heap.size,0,none⟩) (by show w2.heap.size < w3.heap.size; omega)).trans t0,((zA HB3).frozen (p:=⟨w2.heap.size,0,none⟩) (by show w2.heap.size < w3.heap.size; omega)).trans tf,by simp [go_sem],by simp [go_sem],?_,hN.below (zA HB3) hnl,((zA HW1).trans (zA HP2)).trans (zA HKA)⟩
  exact (zE.filled (zA HP3) (zA HF2) (by omega)).below (zA HB3) (by omega))
 have HR:=zB ((zA H3).below (zA HB3))
 have m0:w.heap.size < w3.heap.size:=by omega
 have m1:w.heap.size + 1 < w3.heap.size:=by omega
 have m2:w2.heap.size < w3.heap.size:=by omega
 have n0:¬ w.heap.size = w2.heap.size:=by omega
 have n1:¬ w.heap.size + 1 = w2.heap.size:=by omega
 have n2:¬ w.heap.size = w3.heap.size:=by omega
 have n3:¬ w.heap.size + 1 = w3.heap.size:=by omega
 have n4:¬ w2.heap.size = w3.heap.size:=by omega
 have n5:¬ w3.heap.size = w2.heap.size:=by omega
 have c31:=(zA H3).c1
 have fz3:=(zA H3).fz
 have HN3:=zB hN
 have H3F:=zB (zA H3).free
 have m3:rp < w3.heap.size:=by omega
 have n6:¬ rp = w3.heap.size:=by omega
 have n7:¬ w3.heap.size = rp:=by omega
 have n8:¬ w2.heap.size = rp:=by omega
 have n9:¬ w.heap.size = rp:=by omega
 have na:¬ w.heap.size + 1 = rp:=by omega
 clear HX hN H3 HP3 HKA HB3 HF2 HR2 HW1 HP2 q0 g0 q1 g1 hgn kc kf
 have hcase:k % 5 = 4 \/ (k % 20 = 3 /\ k % 5 ≠ 4) \/ (k % 20 ≠ 3 /\ k % 5 ≠ 4):=by omega
 have hend:k % 32 = 21 \/ (k % 32 ≠ 21 /\ k % 4 = 2) \/ (k % 32 ≠ 21 /\ k % 4 ≠ 2):=by omega
 rcases hcase with hst | ⟨hst,hst'⟩ | ⟨hst,hst'⟩
 ·have e5:((k:Int) % 5 == 4) = true:=by simp; omega
  have e20:((k:Int) % 20 == 3) = false:=by simp; omega
  have ek7:(1:Int) + (k:Int) % 7 = ((1 + k % 7:Nat):Int):=by omega
  obtain ⟨vs,HVS⟩:∃ vs,Hid (spT us (nxt bs (1 + k % 7)) (nxt bs (adv bs (1 + k % 7))) = vs):=⟨_,zB rfl⟩
  have HTR:=zB (show tr1 bs p ys q = vs by unfold tr1; rw [<- zA HK,if_pos hst,zA HY0]; exact zA HVS)
  have HTB:=zB (show tb1 bs p ys q = ys by unfold tb1; rw [<- zA HK,if_neg (by omega)])
  have HPL:=zB (show pl2 bs p ys q = adv bs (adv bs (1 + k % 7)) by unfold pl2 pl1; rw [<- zA HK,if_neg (by omega),if_pos hst])
  have HKW:=zB (((Kp3.refl w3 rp rp rp).setO 1 (.int .i64 (1 + (k:Int) % 7))).push (.cells #[.slice (some ⟨gn,0,none⟩) us.length cn] 28)).kept1
  have HOA:=zB ((zA HOV).read (zA HKW))
  have HRA:=zB (((zA H3F).move (1 + k % 7) (1 + (k:Int) % 7) ek7).below (zC _ (.cells #[.slice (some ⟨gn,0,none⟩) us.length cn] 28)))
  have hsx:=zM6 (zA HYS) bs p q
  rw [zA HY0] at hsx
  have HC:=zB (zEc rp cap (1 + k % 7) gn cn a bs us _ (zA HRA) hl hyl.1 hyl.2 hcn (zA HOA).fn (by omega) hsx)
  rw [zA HVS] at HC
  clear ek7 hsx HOV HR
  go_wp2_with fail
  (with_reducible refine (zA HC).mono ?_)
  rintro e w4 ⟨⟨gn',cn',rfl,hgn',hF4⟩,H4,HP4⟩
  obtain ⟨⟨R0,F0⟩,⟨R1,F1⟩,⟨T0,TF⟩,⟨U0,UF⟩⟩:=(zA HOA).boxes (zA HP4) (Or.inl rfl)
  have HOV:=zB ((zA HOA).tree (cn':=cn') (zA HP4) hgn' hF4)
  have HR:=zB ((zA H4).set w3.heap.size 0 (.slice (some ⟨gn',0,none⟩) vs.length cn') (by omega))
  have M0:=block_lt_of_cell R0
  have M1:=block_lt_of_cell R1
  have M2:=block_lt_of_cell T0
  have M3:=block_lt_of_cell U0
  clear HC HOA HRA HKW hF4 H4 HP4 hgn' HVS c31 fz3 r0 f0 r1 f1 t0 tf
  rcases hend with he | ⟨he,he'⟩ | ⟨he,he'⟩
  ·have e32:((k:Int) % 32 == 21) = true:=by simp; omega
   go_wp2_with fail
   refine (zEP _).mono ?_
   rintro e w5 ⟨⟨gm,cm,rfl,hgm,hFm⟩,hb5⟩
   have HO5:=zB ((zA HOV).below hb5)
   have HR5:=zB ((zA HR).below hb5)
   have HM5:=zB hFm
   have lgm:=hFm.1
   have lvl:=(zA HOV).lR
   have hrgm:gm ≠ rp:=by omega
   clear hFm hb5 HR HOV e5 e20 R0 F0 R1 F1 T0 TF U0 UF
   go_wp2_with fail
   refine (zCq rp cap _ a bs _ (zA HR5) hl).mono ?_
   rintro e w6 ⟨⟨v,rfl,hv,HV⟩,H6,HP6⟩
   have HO6:=zB ((zA HO5).read (zA HP6))
   have HM6:=zB ((zA HP6).filled (zA HM5) hrgm)
   obtain ⟨m,HM⟩:∃ m,Hid (m = 997 + v % 5):=⟨_,zB rfl⟩
   have em:(1000:Int) + (v:Int) % 5 - 3 = (m:Int):=by have:=zA HM; omega
   have hm2:m <= 2000:=by have:=zA HM; omega
   have HD:=zB (show zAE bs p zCH (chT m) from ⟨ys,q,zA HT,Or.inl ⟨by rw [<- zA HK]; exact he,rfl,by rw [zA HPL,<- zA HV,zA HM]⟩⟩)
   have z56:=(zA HP6).size
   clear HO5 HM5 HP6 HR5
   go_wp2_with fail
   refine (zEQ m _ hm2).mono ?_
   rintro e w7 ⟨⟨gc,cc,rfl,hgc,hFc⟩,hb7⟩
   have HO7:=zB ((zA HO6).below hb7)
   have HM7:=zB ((zA HM6).below hb7 (zA HM6).1)
   have HC7:=zB hFc
   have h7r0:=(zA HO7).r0
   have h7f0:=(zA HO7).f0
   have h7r1:=(zA HO7).r1
   have h7f1:=(zA HO7).f1
   have l70:=block_lt_of_cell h7r0
   have l71:=block_lt_of_cell h7r1
   have lR6:=(zA HO6).lR
   clear HO6 HM6 hFc hb7
   go_wp2_with fail
   refine bodyPost_ret (v:=.tuple #[.agg #[.slice (some ⟨gm,0,none⟩) zCH.length cm],.agg #[.slice (some ⟨gc,0,none⟩) (chT m).length cc]]) ?res rfl (zBF (TR:=w3.heap.size) (zA HO7).kp (by omega) (by omega) (zA HO7).ps.p2 (by omega) (by omega) (zA HM7) (zA HC7) (zA HD) ((Kp3.refl _ _ _ _).setX _ |>.setY _))
   case res=>simp [results,Tryz.results49,go_sem,h7r0,h7r1,l70,l71]
  ·have e32:((k:Int) % 32 == 21) = false:=by simp; omega
   have e4:((k:Int) % 4 == 2) = true:=by simp; omega
   have HTZ:=zB (zD6 (zA HYS) hy10 bs p q)
   have HTS:=zB (zIY (zA HYS) bs p q)
   have htl:=zGs bs p ys q
   rw [zA HTB] at HTZ
   rw [zA HTR] at HTS htl
   go_wp2_with fail
   have lft:=(zA HOV).ft.1
   have lfn:=(zA HOV).fn.1
   (with_reducible refine (zBx gt 0 ct gn' 0 cn' ys vs _ (zA HTZ).1 (by omega) (zA HOV).ft.ops (zA HTZ).2 lft (zA HOV).fn.ops (zA HTS).sized lfn).mono ?_)
   rintro e w5 ⟨⟨ag,cg,gs,v,rfl,hOG,hG⟩,hb5⟩
   have HO5:=zB (((zA HOV).below hb5).below (zC w5 (.cells #[.slice ag gs.length cg] 28)))
   have HO4:=zB ((zA HOV).below hb5)
   have hz5:w4.heap.size <= w5.heap.size:=by have:=hb5.size; simpa [World.setCell] using this
   obtain ⟨_,l5B,l5R,x0,y0,x1,y1,x2,y2,x3,y3,_,_,_⟩:=zA HO4
   have l50:=block_lt_of_cell x0
   have l51:=block_lt_of_cell x1
   clear e5 e20 R0 F0 R1 F1 T0 TF U0 UF
   cases v with
   | false=>
    have HD:=zB (show zAE bs p ys vs from ⟨ys,q,zA HT,Or.inr ⟨by rw [<- zA HK]; exact he,(zA HTB).symm,Or.inl ⟨by rw [<- zA HK]; exact he',gs,false,by rw [zA HTB,zA HTR]; exact zA hG,by rw [zA HTR]; rfl⟩⟩⟩)
    clear HOV HO4 hb5 hOG
    go_wp2_with fail
    go_region
    all_goals go_wp2
    all_goals
     refine bodyPost_ret (v:=.tuple #[.agg #[.slice (some ⟨gt,0,none⟩) ys.length ct],.agg #[.slice (some ⟨gn',0,none⟩) vs.length cn']]) ?res rfl (zBF (TR:=w3.heap.size) (zA HO5).kp (zA HO5).ps.p4 (zA HO5).ps.p5 (zA HO5).ps.p2 (zA HO5).ps.p7 (zA HO5).ps.p9 (zA HO5).ft (zA HO5).fn (zA HD) (((Kp3.refl _ _ _ _).setX _ |>.setY _).push _).drew)
     case res=>simp [results,Tryz.results49,go_sem,x0,x1,l50,l51,n0,n1,n2,n3]
   | true=>
    have hgl:1 <= gs.length:=by
     rcases zA hG with ⟨hh,_,e⟩ | ⟨_,h,_⟩
     ·rw [e]; exact (zAN _ _ _ _ _ (Nat.lt_succ_self _) hh.1.2.1.2.2.1 _ _).1
     ·cases h
    obtain ⟨gg,rfl,hgg,hFg⟩:∃ g,ag = some ⟨g,0,none⟩ /\ _ <= g /\ zM w5 g gs gs.length:=by
     rcases zA hOG with ⟨h,_⟩ | h
     ·omega
     ·exact h
    have HD:=zB (show zAE bs p ys gs from ⟨ys,q,zA HT,Or.inr ⟨by rw [<- zA HK]; exact he,(zA HTB).symm,Or.inl ⟨by rw [<- zA HK]; exact he',gs,true,by rw [zA HTB,zA HTR]; exact zA hG,rfl⟩⟩⟩)
    have HG5:=zB (hFg.below (zC w5 (.cells #[.slice (some ⟨gg,0,none⟩) gs.length cg] 28)) hFg.1)
    have hgR:gg ≠ w3.heap.size:=by have:=(zA HOV).lR; omega
    have hg2:w.heap.size + 2 <= gg:=by have:=(zA HOV).lR; omega
    clear HOV HO4 hb5 hOG hFg
    go_wp2_with fail
    go_region
    all_goals go_wp2
    all_goals
     refine bodyPost_ret (v:=.tuple #[.agg #[.slice (some ⟨gt,0,none⟩) ys.length ct],.agg #[.slice (some ⟨gg,0,none⟩) gs.length cg]]) ?res rfl (zBF (TR:=w3.heap.size) (zA HO5).kp (zA HO5).ps.p4 hg2 (zA HO5).ps.p2 (zA HO5).ps.p7 hgR (zA HO5).ft (zA HG5) (zA HD) (((Kp3.refl _ _ _ _).setZ _ |>.setX _ |>.setY _).push _).drew)
     case res=>simp [results,Tryz.results49,go_sem,x0,x1,l50,l51,n0,n1,n2,n3]
  ·have e32:((k:Int) % 32 == 21) = false:=by simp; omega
   have e4:((k:Int) % 4 == 2) = false:=by simp; omega
   have HD:=zB (show zAE bs p ys vs from ⟨ys,q,zA HT,Or.inr ⟨by rw [<- zA HK]; exact he,(zA HTB).symm,Or.inr ⟨by rw [<- zA HK]; exact he',(zA HTR).symm⟩⟩⟩)
   go_wp2_with fail
   go_region
   all_goals go_wp2
   all_goals
    refine bodyPost_ret (v:=.tuple #[.agg #[.slice (some ⟨gt,0,none⟩) ys.length ct],.agg #[.slice (some ⟨gn',0,none⟩) vs.length cn']]) ?res rfl (zBF (TR:=w3.heap.size) (zA HOV).kp (zA HOV).ps.p4 (zA HOV).ps.p5 (zA HOV).ps.p2 (zA HOV).ps.p7 (zA HOV).ps.p9 (zA HOV).ft (zA HOV).fn (zA HD) (((Kp3.refl _ _ _ _).setX _ |>.setY _).drew))
    case res=>simp [results,Tryz.results49,go_sem,R0,R1,m0,m1,n0,n1,n2,n3]
 ·have e5:((k:Int) % 5 == 4) = false:=by simp; omega
  have e20:((k:Int) % 20 == 3) = true:=by simp; omega
  obtain ⟨ms,HVS⟩:∃ ms,Hid (zA2 ys bs pl = ms):=⟨_,zB rfl⟩
  have HTR:=zB (show tr1 bs p ys q = us by unfold tr1; rw [<- zA HK,if_neg hst',zA HY0])
  have HTB:=zB (show tb1 bs p ys q = ms by unfold tb1 pl1; rw [<- zA HK,if_pos hst,if_neg hst',zA HY0]; exact zA HVS)
  have HPL:=zB (show pl2 bs p ys q = zBN ys bs pl by unfold pl2 pl1; rw [<- zA HK,if_pos hst,if_neg hst',zA HY0])
  have HC:=zB (zHm rp cap pl gt ct a bs ys _ (zA HR) hl hy10 (zA HOV).ft (by omega) (fun i hi=>by have:=(zA HYS) i hi; omega))
  rw [zA HVS] at HC
  clear HR
  go_wp2_with fail
  (with_reducible refine (zA HC).mono ?_)
  rintro e w4 ⟨⟨gt',ct',rfl,hgt',hF4⟩,H4,HP4⟩
  obtain ⟨⟨R0,F0⟩,⟨R1,F1⟩,⟨T0,TF⟩,⟨U0,UF⟩⟩:=(zA HOV).boxes (zA HP4) (Or.inr rfl)
  have HOB:=zB ((zA HOV).table (ct':=ct') (zA HP4) hgt' hF4)
  clear HOV
  have HOV:=HOB
  have HR:=zB ((zA H4).set w2.heap.size 0 (.slice (some ⟨gt',0,none⟩) ms.length ct') (by omega))
  have M0:=block_lt_of_cell R0
  have M1:=block_lt_of_cell R1
  have M2:=block_lt_of_cell T0
  have M3:=block_lt_of_cell U0
  clear HOB HC hF4 H4 HP4 hgt' HVS c31 fz3 r0 f0 r1 f1 t0 tf
  rcases hend with he | ⟨he,he'⟩ | ⟨he,he'⟩
  ·omega
  ·omega
  ·have e32:((k:Int) % 32 == 21) = false:=by simp; omega
   have e4:((k:Int) % 4 == 2) = false:=by simp; omega
   have HD:=zB (show zAE bs p ms us from ⟨ys,q,zA HT,Or.inr ⟨by rw [<- zA HK]; exact he,(zA HTB).symm,Or.inr ⟨by rw [<- zA HK]; exact he',(zA HTR).symm⟩⟩⟩)
   go_wp2_with fail
   go_region
   all_goals go_wp2
   all_goals
    refine bodyPost_ret (v:=.tuple #[.agg #[.slice (some ⟨gt',0,none⟩) ms.length ct'],.agg #[.slice (some ⟨gn,0,none⟩) us.length cn]]) ?res rfl (zBF (TR:=w3.heap.size) (zA HOV).kp (zA HOV).ps.p4 (zA HOV).ps.p5 (zA HOV).ps.p2 (zA HOV).ps.p7 (zA HOV).ps.p9 (zA HOV).ft (zA HOV).fn (zA HD) (((Kp3.refl _ _ _ _).setX _ |>.setY _).drew))
    case res=>simp [results,Tryz.results49,go_sem,R0,R1,m0,m1,n0,n1,n2,n3]
 ·have e5:((k:Int) % 5 == 4) = false:=by simp; omega
  have e20:((k:Int) % 20 == 3) = false:=by simp; omega
  have HTR:=zB (show tr1 bs p ys q = us by unfold tr1; rw [<- zA HK,if_neg hst',zA HY0])
  have HTB:=zB (show tb1 bs p ys q = ys by unfold tb1; rw [<- zA HK,if_neg hst])
  have HPL:=zB (show pl2 bs p ys q = pl by unfold pl2 pl1; rw [<- zA HK,if_neg hst,if_neg hst',zA HY0])
  rcases hend with he | ⟨he,he'⟩ | ⟨he,he'⟩
  ·have e32:((k:Int) % 32 == 21) = true:=by simp; omega
   go_wp2_with fail
   refine (zEP _).mono ?_
   rintro e w5 ⟨⟨gm,cm,rfl,hgm,hFm⟩,hb5⟩
   have HO5:=zB ((zA HOV).below hb5)
   have HR5:=zB ((zA HR).free.below hb5)
   have HM5:=zB hFm
   have lgm:=hFm.1
   have lvl:=(zA HOV).lR
   have hrgm:gm ≠ rp:=by omega
   clear hFm hb5 HR HOV e5 e20 r0 f0 r1 f1 t0 tf
   go_wp2_with fail
   refine (zCq rp cap _ a bs _ (zA HR5) hl).mono ?_
   rintro e w6 ⟨⟨v,rfl,hv,HV⟩,H6,HP6⟩
   have HO6:=zB ((zA HO5).read (zA HP6))
   have HM6:=zB ((zA HP6).filled (zA HM5) hrgm)
   obtain ⟨m,HM⟩:∃ m,Hid (m = 997 + v % 5):=⟨_,zB rfl⟩
   have em:(1000:Int) + (v:Int) % 5 - 3 = (m:Int):=by have:=zA HM; omega
   have hm2:m <= 2000:=by have:=zA HM; omega
   have HD:=zB (show zAE bs p zCH (chT m) from ⟨ys,q,zA HT,Or.inl ⟨by rw [<- zA HK]; exact he,rfl,by rw [zA HPL,<- zA HV,zA HM]⟩⟩)
   have z56:=(zA HP6).size
   clear HO5 HM5 HP6 HR5
   go_wp2_with fail
   refine (zEQ m _ hm2).mono ?_
   rintro e w7 ⟨⟨gc,cc,rfl,hgc,hFc⟩,hb7⟩
   have HO7:=zB ((zA HO6).below hb7)
   have HM7:=zB ((zA HM6).below hb7 (zA HM6).1)
   have HC7:=zB hFc
   have h7r0:=(zA HO7).r0
   have h7f0:=(zA HO7).f0
   have h7r1:=(zA HO7).r1
   have h7f1:=(zA HO7).f1
   have l70:=block_lt_of_cell h7r0
   have l71:=block_lt_of_cell h7r1
   have lR6:=(zA HO6).lR
   clear HO6 HM6 hFc hb7
   go_wp2_with fail
   refine bodyPost_ret (v:=.tuple #[.agg #[.slice (some ⟨gm,0,none⟩) zCH.length cm],.agg #[.slice (some ⟨gc,0,none⟩) (chT m).length cc]]) ?res rfl (zBF (TR:=w3.heap.size) (zA HO7).kp (by omega) (by omega) (zA HO7).ps.p2 (by omega) (by omega) (zA HM7) (zA HC7) (zA HD) ((Kp3.refl _ _ _ _).setX _ |>.setY _))
   case res=>simp [results,Tryz.results49,go_sem,h7r0,h7r1,l70,l71]
  ·have e32:((k:Int) % 32 == 21) = false:=by simp; omega
   have e4:((k:Int) % 4 == 2) = true:=by simp; omega
   have HTZ:=zB (zD6 (zA HYS) hy10 bs p q)
   have HTS:=zB (zIY (zA HYS) bs p q)
   have htl:=zGs bs p ys q
   rw [zA HTB] at HTZ
   rw [zA HTR] at HTS htl
   go_wp2_with fail
   have lft:=(zA HOV).ft.1
   have lfn:=(zA HOV).fn.1
   (with_reducible refine (zBx gt 0 ct gn 0 cn ys us _ (zA HTZ).1 (by omega) (zA HOV).ft.ops (zA HTZ).2 lft (zA HOV).fn.ops (zA HTS).sized lfn).mono ?_)
   rintro e w5 ⟨⟨ag,cg,gs,v,rfl,hOG,hG⟩,hb5⟩
   have HO5:=zB (((zA HOV).below hb5).below (zC w5 (.cells #[.slice ag gs.length cg] 28)))
   have HO4:=zB ((zA HOV).below hb5)
   have hz5:w3.heap.size + 1 <= w5.heap.size:=by have:=hb5.size; simpa [World.setCell] using this
   obtain ⟨_,l5B,l5R,x0,y0,x1,y1,x2,y2,x3,y3,_,_,_⟩:=zA HO4
   have l50:=block_lt_of_cell x0
   have l51:=block_lt_of_cell x1
   clear e5 e20 r0 f0 r1 f1 t0 tf
   cases v with
   | false=>
    have HD:=zB (show zAE bs p ys us from ⟨ys,q,zA HT,Or.inr ⟨by rw [<- zA HK]; exact he,(zA HTB).symm,Or.inl ⟨by rw [<- zA HK]; exact he',gs,false,by rw [zA HTB,zA HTR]; exact zA hG,by rw [zA HTR]; rfl⟩⟩⟩)
    clear HOV HO4 hb5 hOG
    go_wp2_with fail
    go_region
    all_goals go_wp2
    all_goals
     refine bodyPost_ret (v:=.tuple #[.agg #[.slice (some ⟨gt,0,none⟩) ys.length ct],.agg #[.slice (some ⟨gn,0,none⟩) us.length cn]]) ?res rfl (zBF (TR:=w3.heap.size) (zA HO5).kp (zA HO5).ps.p4 (zA HO5).ps.p5 (zA HO5).ps.p2 (zA HO5).ps.p7 (zA HO5).ps.p9 (zA HO5).ft (zA HO5).fn (zA HD) (((Kp3.refl _ _ _ _).setX _ |>.setY _).push _).drew)
     case res=>simp [results,Tryz.results49,go_sem,x0,x1,l50,l51,n0,n1,n2,n3]
   | true=>
    have hgl:1 <= gs.length:=by
     rcases zA hG with ⟨hh,_,e⟩ | ⟨_,h,_⟩
     ·rw [e]; exact (zAN _ _ _ _ _ (Nat.lt_succ_self _) hh.1.2.1.2.2.1 _ _).1
     ·cases h
    obtain ⟨gg,rfl,hgg,hFg⟩:∃ g,ag = some ⟨g,0,none⟩ /\ _ <= g /\ zM w5 g gs gs.length:=by
     rcases zA hOG with ⟨h,_⟩ | h
     ·omega
     ·exact h
    have HD:=zB (show zAE bs p ys gs from ⟨ys,q,zA HT,Or.inr ⟨by rw [<- zA HK]; exact he,(zA HTB).symm,Or.inl ⟨by rw [<- zA HK]; exact he',gs,true,by rw [zA HTB,zA HTR]; exact zA hG,rfl⟩⟩⟩)
    have HG5:=zB (hFg.below (zC w5 (.cells #[.slice (some ⟨gg,0,none⟩) gs.length cg] 28)) hFg.1)
    have hgR:gg ≠ w3.heap.size:=by have:=(zA HOV).lR; omega
    have hg2:w.heap.size + 2 <= gg:=by have:=(zA HOV).lR; omega
    clear HOV HO4 hb5 hOG hFg
    go_wp2_with fail
    go_region
    all_goals go_wp2
    all_goals
     refine bodyPost_ret (v:=.tuple #[.agg #[.slice (some ⟨gt,0,none⟩) ys.length ct],.agg #[.slice (some ⟨gg,0,none⟩) gs.length cg]]) ?res rfl (zBF (TR:=w3.heap.size) (zA HO5).kp (zA HO5).ps.p4 hg2 (zA HO5).ps.p2 (zA HO5).ps.p7 hgR (zA HO5).ft (zA HG5) (zA HD) (((Kp3.refl _ _ _ _).setZ _ |>.setX _ |>.setY _).push _).drew)
     case res=>simp [results,Tryz.results49,go_sem,x0,x1,l50,l51,n0,n1,n2,n3]
  ·have e32:((k:Int) % 32 == 21) = false:=by simp; omega
   have e4:((k:Int) % 4 == 2) = false:=by simp; omega
   have HD:=zB (show zAE bs p ys us from ⟨ys,q,zA HT,Or.inr ⟨by rw [<- zA HK]; exact he,(zA HTB).symm,Or.inr ⟨by rw [<- zA HK]; exact he',(zA HTR).symm⟩⟩⟩)
   go_wp2_with fail
   go_region
   all_goals go_wp2
   all_goals
    refine bodyPost_ret (v:=.tuple #[.agg #[.slice (some ⟨gt,0,none⟩) ys.length ct],.agg #[.slice (some ⟨gn,0,none⟩) us.length cn]]) ?res rfl (zBF (TR:=w3.heap.size) (zA HOV).kp (zA HOV).ps.p4 (zA HOV).ps.p5 (zA HOV).ps.p2 (zA HOV).ps.p7 (zA HOV).ps.p9 (zA HOV).ft (zA HOV).fn (zA HD) ((((Kp3.refl _ _ _ _).setX _ |>.setY _).push _).drew))
    case res=>simp [results,Tryz.results49,go_sem,r0,r1,m0,m1,n0,n1,n2,n3]
theorem zf.lt1 {w:World} {g k:Nat} {xs:List OpR} (h:zf w g xs k):g < w.heap.size:=h.1
theorem zM.lt1 {w:World} {g k:Nat} {xs:List zD} (h:zM w g xs k):g < w.heap.size:=h.1
def zL4 (D:List OpR -> List zD -> Prop) (w:World) (e:Ending) (w':World):Prop:=
 (∃ (gt ct gn cn:Nat) (ns:List OpR) (us:List zD),e = .returned (.tuple #[.agg #[.slice (some ⟨gt,0,none⟩) ns.length ct],.agg #[.slice (some ⟨gn,0,none⟩) us.length cn]]) /\ w.heap.size <= gt /\ w.heap.size <= gn /\ Hid (zf w' gt ns ns.length) /\ Hid (zM w' gn us us.length) /\ Hid (D ns us)) /\ Below w.heap.size w w'
theorem zEz.step {w w':World} {a:Option Addr} {l:List UInt8} (h:zEz w a l) (hb:Below w.heap.size w w'):zEz w' a l:=by
 rcases h with h | ⟨b,off,rfl,hb',hc⟩
 ·exact Or.inl h
 ·exact Or.inr ⟨b,off,rfl,Nat.lt_of_lt_of_le hb' hb.size,fun i hi=>(hb.cell (p:=⟨b,off + i,none⟩) hb').trans (hc i hi)⟩
end Go.Proofs.YtfboipappaonhaaGreat
