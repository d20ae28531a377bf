import Derived.Maps.AppendAt
import Derived.Deep.MidRow
import Derived.Test.YtfboipappaonhaaGreatM07
import Derived.Test.YtfboipappaonhaaGreatM08
namespace Go.Proofs.YtfboipappaonhaaGreat
set_option linter.unusedSimpArgs false
set_option linter.unusedVariables false
set_option maxHeartbeats 16000000
set_option maxRecDepth 100000
open Go.RowKit
theorem zFG (rp cap p g c:Nat) (a:Option Addr) (bs:List UInt8) (xs:List OpR) (w:World) (h:RdS w rp a cap bs p) (hl:bs.length <= 1200) (hm:xs.length <= 10) (hx:zf w g xs xs.length) (hne:rp < g) (hb:¬ (nxt bs p % 8 = 7 \/ xs.length = 0)) (hsx:∀ i,i < xs.length -> (atO xs i).s.size <= 1000) :
  Calls Tryz.prog 62 #[.pointer (some ⟨rp,0,none⟩),.agg #[.slice (some ⟨g,0,none⟩) xs.length c]] w fun e w'=>(∃ g' c',e = .returned (.agg #[.slice (some ⟨g',0,none⟩) (zA2 xs bs p).length c']) /\ (g' = g \/ w.heap.size <= g') /\ zf w' g' (zA2 xs bs p) (zA2 xs bs p).length) /\ Hid (RdS w' rp a cap bs (zBN xs bs p)) /\ Hid (zY w w' rp g):=by
 have hrpw:=h.lt
 have hgw:=hx.1
 have H:=zB h
 clear h
 go_enter Tryz.func62,Tryz.ntmps62
 go_wp2_with fail
 refine (Z9 rp cap p a bs _ (((zA H).below (zC _ _)).below (zC _ _)) hl).mono ?_
 rintro e w1 ⟨⟨k,rfl,hk,HK⟩,H1,HP1⟩
 go_wp2_with fail
 refine (Z9 rp cap _ a bs _ (zA H1) hl).mono ?_
 rintro e w2 ⟨⟨v,rfl,hv,HV⟩,H2,HP2⟩
 have HP:=zB ((zA HP1).trans (zA HP2))
 have z2:w.heap.size + 2 <= w2.heap.size:=by have:=(zA HP).size; simpa using this
 have b0:w2.cell? ⟨w.heap.size,0,none⟩ = some (.slice (some ⟨g,0,none⟩) xs.length c):=((zA HP).cell (b:=w.heap.size) (by simp; omega) (by omega) 0).trans (by simp [go_sem])
 have r0:w2.cell? ⟨w.heap.size + 1,0,none⟩ = some (.slice none 0 0):=((zA HP).cell (b:=w.heap.size + 1) (by simp) (by omega) 0).trans (by simp [go_sem])
 have r1:w2.frozen? ⟨w.heap.size + 1,0,none⟩ = false:=((zA HP).frozen (b:=w.heap.size + 1) (by simp) (by omega) 0).trans (by simp [go_sem])
 have HW:=zB (show zE w w2 rp from ((zE.of_below ((zC _ _).alloc (by simp) _))).trans (zA HP))
 have HX:=zB ((zA HW).filled hx (by omega))
 clear H H1 HP1 HP2 HP hx
 have hlen:1 <= xs.length:=by omega
 have hk7:k % 8 ≠ 7:=by have:=zA HK; omega
 have HB:=zB hb
 clear hb
 obtain ⟨i,HI⟩:∃ i,Hid (i = v % xs.length):=⟨_,zB rfl⟩
 have hi:i < xs.length:=by rw [zA HI]; exact Nat.mod_lt _ (by omega)
 have hiI:(i:Int) < (xs.length:Int):=by omega
 have hsi:=hsx i hi
 clear hsx
 have emod:(v:Int) % (xs.length:Int) = (i:Int):=by rw [zA HI]; exact (Int.natCast_emod v xs.length).symm
 have hl0:¬ (xs.length:Int) = 0:=by omega
 have hl0':((xs.length:Int) == 0) = false:=by simpa using hl0
 have e7:((k:Int) % 8 == 7) = false:=by simp; omega
 obtain ⟨x0,x1,x2,x3⟩:=(zA HX).ops i hi
 simp only [Nat.zero_add] at x0 x1 x2 x3
 have hgw2:g < w2.heap.size:=(zA HX).1
 obtain ⟨y0,y1,y2,y3⟩:w2.frozen? ⟨g,i * 4,none⟩ = false /\ w2.frozen? ⟨g,i * 4 + 1,none⟩ = false /\ w2.frozen? ⟨g,i * 4 + 2,none⟩ = false /\ w2.frozen? ⟨g,i * 4 + 3,none⟩ = false:=by
  have h:=(zA HX).2.1
  have f:∀ j,j < 4 -> w2.frozen? ⟨g,i * 4 + j,none⟩ = false:=fun j hj=>by
   have:=(h (i * 4 + j) (by omega)).2
   simpa using this
  exact ⟨f 0 (by omega),f 1 (by omega),f 2 (by omega),f 3 (by omega)⟩
 have hT:w.heap.size < w2.heap.size:=by omega
 have hR:w.heap.size + 1 < w2.heap.size:=by omega
 have n1:¬ g = w.heap.size:=by omega
 have n2:¬ w.heap.size = g:=by omega
 have n3:¬ g = w.heap.size + 1:=by omega
 have n4:¬ w.heap.size + 1 = g:=by omega
 have n5:¬ w2.heap.size = g:=by omega
 have n6:¬ g = w2.heap.size:=by omega
 have hcase:k % 8 = 0 \/ k % 8 = 1 \/ k % 8 = 2 \/ k % 8 = 3 \/ k % 8 = 4 \/ k % 8 = 5 \/ k % 8 = 6:=by omega
 have HIX:=zB (show zA2 xs bs p = xs.set i (zAR k (atO xs i) (Zt (nxt bs (adv bs (adv bs p))) (nxt bs (adv bs (adv bs (adv bs p)))) false)) by
  unfold zA2
  rw [if_neg (zA HB),<- zA HV,<- zA HI,<- zA HK])
 rcases hcase with hc | hc | hc | hc | hc | hc | hc
 ·have e8:(k:Int) % 8 = 0:=by omega
  clear hk7 e7
  have HO:=zB (show zAR k (atO xs i) (Zt (nxt bs (adv bs (adv bs p))) (nxt bs (adv bs (adv bs (adv bs p)))) false) = ⟨(⟨#[43,45,43,45,43,45,43,45,43,45,43,45,43,45,43,45,43]⟩:ByteArray).extract 0 (16 + k / 8 % 2),(atO xs i).k,(atO xs i).l,(atO xs i).sd⟩ by simp [zAR,hc])
  have HPP:=zB (show zBN xs bs p = adv bs (adv bs p) by
   unfold zBN
   rw [if_neg (zA HB),if_neg (by rw [<- zA HK]; omega)])
  go_wp2_with fail
  rw [zA HIX,zA HPP,List.length_set,zA HO]
  have hF:=(zA HX).put hi ⟨(⟨#[43,45,43,45,43,45,43,45,43,45,43,45,43,45,43,45,43]⟩:ByteArray).extract 0 (16 + k / 8 % 2),(atO xs i).k,(atO xs i).l,(atO xs i).sd⟩
  rw [List.length_set] at hF
  refine bodyPost_ret (v:=.agg #[.slice (some ⟨g,0,none⟩) xs.length c]) ?res rfl ⟨⟨g,c,rfl,Or.inl rfl,?_⟩,zB ?_,zB ?_⟩
  case res=>simp [results,Tryz.results62,go_sem,r0,n3,n4,hR]
  ·exact (hF.setCell ⟨w.heap.size + 1,0,none⟩ _ (by simp; omega)).below (zC _ _) (by simpa [World.setCells,World.setCell] using hgw2)
  ·exact ((((((zA H2).set g _ _ hne).set g _ _ hne).set g _ _ hne).set g _ _ hne).set (w.heap.size + 1) _ _ (by omega)).below (zC _ _)
  ·exact ((((((zY.of1 (zA HW)).setG _ _).setG _ _).setG _ _).setG _ _).setNew (b:=w.heap.size + 1) _ _ (by omega)).below (zC _ _)
 ·have e8:(k:Int) % 8 = 1:=by omega
  clear hk7 e7
  have HO:=zB (show zAR k (atO xs i) (Zt (nxt bs (adv bs (adv bs p))) (nxt bs (adv bs (adv bs (adv bs p)))) false) = ⟨(atO xs i).s ++ ⟨#[UInt8.ofNat k]⟩,(atO xs i).k,(atO xs i).l,(atO xs i).sd⟩ by simp [zAR,hc])
  have HPP:=zB (show zBN xs bs p = adv bs (adv bs p) by
   unfold zBN
   rw [if_neg (zA HB),if_neg (by rw [<- zA HK]; omega)])
  have hcv:(convert 22 9 (.slice (some ⟨w2.heap.size + 1,0,none⟩) 1 1)).run Tryz.prog ((w2.alloc (.cells #[.string (atO xs i).s,.int .i64 (atO xs i).k,.int .i64 (atO xs i).l,.int .i64 (atO xs i).sd] 123)).alloc (.cells #[.int .u8 (k:Int)] 5)) = .ok (.string ⟨#[UInt8.ofNat k]⟩) ((w2.alloc (.cells #[.string (atO xs i).s,.int .i64 (atO xs i).k,.int .i64 (atO xs i).l,.int .i64 (atO xs i).sd] 123)).alloc (.cells #[.int .u8 (k:Int)] 5)):=by
   have:=zM4 (w2.alloc (.cells #[.string (atO xs i).s,.int .i64 (atO xs i).k,.int .i64 (atO xs i).l,.int .i64 (atO xs i).sd] 123)) (k:Int)
   simpa using this
  go_wp2_with fail
  rw [zA HIX,zA HPP,List.length_set,zA HO]
  have hF:=(zA HX).put hi ⟨(atO xs i).s ++ ⟨#[UInt8.ofNat k]⟩,(atO xs i).k,(atO xs i).l,(atO xs i).sd⟩
  rw [List.length_set] at hF
  refine bodyPost_ret (v:=.agg #[.slice (some ⟨g,0,none⟩) xs.length c]) ?res rfl ⟨⟨g,c,rfl,Or.inl rfl,?_⟩,zB ?_,zB ?_⟩
  case res=>
   have hR2:w.heap.size + 1 < w2.heap.size + 1:=by omega
   have hR3:w.heap.size < w2.heap.size:=by omega
   simp [results,Tryz.results62,go_sem,r0,n3,n4,hR,hR2,hR3]
  ·exact (hF.setCell ⟨w.heap.size + 1,0,none⟩ _ (by simp; omega)).below ((zC _ _).alloc (by simp) _) (by simpa [World.setCells,World.setCell] using hgw2)
  ·exact ((((((zA H2).set g _ _ hne).set g _ _ hne).set g _ _ hne).set g _ _ hne).set (w.heap.size + 1) _ _ (by omega)).below ((zC _ _).alloc (by simp) _)
  ·exact ((((((zY.of1 (zA HW)).setG _ _).setG _ _).setG _ _).setG _ _).setNew (b:=w.heap.size + 1) _ _ (by omega)).below ((zC _ _).alloc (by simp) _)
 ·have e8:(k:Int) % 8 = 2:=by omega
  clear hk7 e7
  have HO:=zB (show zAR k (atO xs i) (Zt (nxt bs (adv bs (adv bs p))) (nxt bs (adv bs (adv bs (adv bs p)))) false) = ⟨⟨#[]⟩,(atO xs i).k,(atO xs i).l,(atO xs i).sd⟩ by simp [zAR,hc])
  have HPP:=zB (show zBN xs bs p = adv bs (adv bs p) by
   unfold zBN
   rw [if_neg (zA HB),if_neg (by rw [<- zA HK]; omega)])
  go_wp2_with fail
  rw [zA HIX,zA HPP,List.length_set,zA HO]
  have hF:=(zA HX).put hi ⟨⟨#[]⟩,(atO xs i).k,(atO xs i).l,(atO xs i).sd⟩
  rw [List.length_set] at hF
  refine bodyPost_ret (v:=.agg #[.slice (some ⟨g,0,none⟩) xs.length c]) ?res rfl ⟨⟨g,c,rfl,Or.inl rfl,?_⟩,zB ?_,zB ?_⟩
  case res=>simp [results,Tryz.results62,go_sem,r0,n3,n4,hR]
  ·exact (hF.setCell ⟨w.heap.size + 1,0,none⟩ _ (by simp; omega)).below (zC _ _) (by simpa [World.setCells,World.setCell] using hgw2)
  ·exact ((((((zA H2).set g _ _ hne).set g _ _ hne).set g _ _ hne).set g _ _ hne).set (w.heap.size + 1) _ _ (by omega)).below (zC _ _)
  ·exact ((((((zY.of1 (zA HW)).setG _ _).setG _ _).setG _ _).setG _ _).setNew (b:=w.heap.size + 1) _ _ (by omega)).below (zC _ _)
 ·have e8:(k:Int) % 8 = 3:=by omega
  clear hk7 e7
  have HO:=zB (show zAR k (atO xs i) (Zt (nxt bs (adv bs (adv bs p))) (nxt bs (adv bs (adv bs (adv bs p)))) false) = ⟨(atO xs i).s,(atO xs i).k,1001 * ((k / 8 % 2:Nat):Int),(atO xs i).sd⟩ by simp [zAR,hc])
  have HPP:=zB (show zBN xs bs p = adv bs (adv bs p) by
   unfold zBN
   rw [if_neg (zA HB),if_neg (by rw [<- zA HK]; omega)])
  go_wp2_with fail
  rw [zA HIX,zA HPP,List.length_set,zA HO]
  have hF:=(zA HX).put hi ⟨(atO xs i).s,(atO xs i).k,1001 * ((k / 8 % 2:Nat):Int),(atO xs i).sd⟩
  rw [List.length_set] at hF
  refine bodyPost_ret (v:=.agg #[.slice (some ⟨g,0,none⟩) xs.length c]) ?res rfl ⟨⟨g,c,rfl,Or.inl rfl,?_⟩,zB ?_,zB ?_⟩
  case res=>simp [results,Tryz.results62,go_sem,r0,n3,n4,hR]
  ·exact (hF.setCell ⟨w.heap.size + 1,0,none⟩ _ (by simp; omega)).below (zC _ _) (by simpa [World.setCells,World.setCell] using hgw2)
  ·exact ((((((zA H2).set g _ _ hne).set g _ _ hne).set g _ _ hne).set g _ _ hne).set (w.heap.size + 1) _ _ (by omega)).below (zC _ _)
  ·exact ((((((zY.of1 (zA HW)).setG _ _).setG _ _).setG _ _).setG _ _).setNew (b:=w.heap.size + 1) _ _ (by omega)).below (zC _ _)
 ·have e8:(k:Int) % 8 = 4:=by omega
  clear hk7 e7
  have HO:=zB (show zAR k (atO xs i) (Zt (nxt bs (adv bs (adv bs p))) (nxt bs (adv bs (adv bs (adv bs p)))) false) = ⟨(atO xs i).s,((k / 8 % 5:Nat):Int),(atO xs i).l,(atO xs i).sd⟩ by simp [zAR,hc])
  have HPP:=zB (show zBN xs bs p = adv bs (adv bs p) by
   unfold zBN
   rw [if_neg (zA HB),if_neg (by rw [<- zA HK]; omega)])
  go_wp2_with fail
  rw [zA HIX,zA HPP,List.length_set,zA HO]
  have hF:=(zA HX).put hi ⟨(atO xs i).s,((k / 8 % 5:Nat):Int),(atO xs i).l,(atO xs i).sd⟩
  rw [List.length_set] at hF
  refine bodyPost_ret (v:=.agg #[.slice (some ⟨g,0,none⟩) xs.length c]) ?res rfl ⟨⟨g,c,rfl,Or.inl rfl,?_⟩,zB ?_,zB ?_⟩
  case res=>simp [results,Tryz.results62,go_sem,r0,n3,n4,hR]
  ·exact (hF.setCell ⟨w.heap.size + 1,0,none⟩ _ (by simp; omega)).below (zC _ _) (by simpa [World.setCells,World.setCell] using hgw2)
  ·exact ((((((zA H2).set g _ _ hne).set g _ _ hne).set g _ _ hne).set g _ _ hne).set (w.heap.size + 1) _ _ (by omega)).below (zC _ _)
  ·exact ((((((zY.of1 (zA HW)).setG _ _).setG _ _).setG _ _).setG _ _).setNew (b:=w.heap.size + 1) _ _ (by omega)).below (zC _ _)
 ·have e8:(k:Int) % 8 = 5:=by omega
  clear hk7 e7
  have HO:=zB (show zAR k (atO xs i) (Zt (nxt bs (adv bs (adv bs p))) (nxt bs (adv bs (adv bs (adv bs p)))) false) = ⟨(atO xs i).s,(atO xs i).k,(atO xs i).l,((k / 8 % 5:Nat):Int) - 1⟩ by simp [zAR,hc])
  have HPP:=zB (show zBN xs bs p = adv bs (adv bs p) by
   unfold zBN
   rw [if_neg (zA HB),if_neg (by rw [<- zA HK]; omega)])
  go_wp2_with fail
  rw [zA HIX,zA HPP,List.length_set,zA HO]
  have hF:=(zA HX).put hi ⟨(atO xs i).s,(atO xs i).k,(atO xs i).l,((k / 8 % 5:Nat):Int) - 1⟩
  rw [List.length_set] at hF
  refine bodyPost_ret (v:=.agg #[.slice (some ⟨g,0,none⟩) xs.length c]) ?res rfl ⟨⟨g,c,rfl,Or.inl rfl,?_⟩,zB ?_,zB ?_⟩
  case res=>simp [results,Tryz.results62,go_sem,r0,n3,n4,hR]
  ·exact (hF.setCell ⟨w.heap.size + 1,0,none⟩ _ (by simp; omega)).below (zC _ _) (by simpa [World.setCells,World.setCell] using hgw2)
  ·exact ((((((zA H2).set g _ _ hne).set g _ _ hne).set g _ _ hne).set g _ _ hne).set (w.heap.size + 1) _ _ (by omega)).below (zC _ _)
  ·exact ((((((zY.of1 (zA HW)).setG _ _).setG _ _).setG _ _).setG _ _).setNew (b:=w.heap.size + 1) _ _ (by omega)).below (zC _ _)
 ·have e8:(k:Int) % 8 = 6:=by omega
  clear hk7 e7
  have HPP:=zB (show zBN xs bs p = adv bs (adv bs (adv bs (adv bs p))) by
   unfold zBN
   rw [if_neg (zA HB),if_pos (by rw [<- zA HK]; omega)])
  go_wp2_with fail
  refine (zDX rp cap _ false a bs _ ((zA H2).below (zC _ _)) hl).mono ?_
  rintro e w4 ⟨⟨o,rfl,ho⟩,H4,HK4⟩
  have HO:=zB (show zAR k (atO xs i) (Zt (nxt bs (adv bs (adv bs p))) (nxt bs (adv bs (adv bs (adv bs p)))) false) = o by rw [zA ho]; simp [zAR,hc])
  have z4:w2.heap.size + 1 <= w4.heap.size:=by have:=(zA HK4).size; simpa using this
  have kc:∀ b j,b < w2.heap.size -> b ≠ rp -> w4.cell? ⟨b,j,none⟩ = w2.cell? ⟨b,j,none⟩:=fun b j hb hr=>((zA HK4).cell (b:=b) (by simp; omega) hr j).trans ((zC _ _).cell (p:=⟨b,j,none⟩) hb)
  have kf:∀ b j,b < w2.heap.size -> b ≠ rp -> w4.frozen? ⟨b,j,none⟩ = w2.frozen? ⟨b,j,none⟩:=fun b j hb hr=>((zA HK4).frozen (b:=b) (by simp; omega) hr j).trans ((zC _ _).frozen (p:=⟨b,j,none⟩) hb)
  have X0:=(kc g (i * 4) hgw2 (by omega)).trans x0
  have X1:=(kc g (i * 4 + 1) hgw2 (by omega)).trans x1
  have X2:=(kc g (i * 4 + 2) hgw2 (by omega)).trans x2
  have X3:=(kc g (i * 4 + 3) hgw2 (by omega)).trans x3
  have Y0:=(kf g (i * 4) hgw2 (by omega)).trans y0
  have Y1:=(kf g (i * 4 + 1) hgw2 (by omega)).trans y1
  have Y2:=(kf g (i * 4 + 2) hgw2 (by omega)).trans y2
  have Y3:=(kf g (i * 4 + 3) hgw2 (by omega)).trans y3
  have B0:=(kc w.heap.size 0 (by omega) (by omega)).trans b0
  have R0:=(kc (w.heap.size + 1) 0 (by omega) (by omega)).trans r0
  have R1:=(kf (w.heap.size + 1) 0 (by omega) (by omega)).trans r1
  have o0:w4.cell? ⟨w2.heap.size,0,none⟩ = some (.string (atO xs i).s):=((zA HK4).cell (b:=w2.heap.size) (by simp) (by omega) 0).trans (by simp [go_sem])
  have o1:w4.cell? ⟨w2.heap.size,1,none⟩ = some (.int .i64 (atO xs i).k):=((zA HK4).cell (b:=w2.heap.size) (by simp) (by omega) 1).trans (by simp [go_sem])
  have o2:w4.cell? ⟨w2.heap.size,2,none⟩ = some (.int .i64 (atO xs i).l):=((zA HK4).cell (b:=w2.heap.size) (by simp) (by omega) 2).trans (by simp [go_sem])
  have o3:w4.cell? ⟨w2.heap.size,3,none⟩ = some (.int .i64 (atO xs i).sd):=((zA HK4).cell (b:=w2.heap.size) (by simp) (by omega) 3).trans (by simp [go_sem])
  have f0:w4.frozen? ⟨w2.heap.size,0,none⟩ = false:=((zA HK4).frozen (b:=w2.heap.size) (by simp) (by omega) 0).trans (by simp [go_sem])
  have f1:w4.frozen? ⟨w2.heap.size,1,none⟩ = false:=((zA HK4).frozen (b:=w2.heap.size) (by simp) (by omega) 1).trans (by simp [go_sem])
  have f2:w4.frozen? ⟨w2.heap.size,2,none⟩ = false:=((zA HK4).frozen (b:=w2.heap.size) (by simp) (by omega) 2).trans (by simp [go_sem])
  have f3:w4.frozen? ⟨w2.heap.size,3,none⟩ = false:=((zA HK4).frozen (b:=w2.heap.size) (by simp) (by omega) 3).trans (by simp [go_sem])
  have n7:¬ w2.heap.size = w.heap.size:=by omega
  have n8:¬ w.heap.size = w2.heap.size:=by omega
  have n9:¬ w2.heap.size = w.heap.size + 1:=by omega
  have n10:¬ w.heap.size + 1 = w2.heap.size:=by omega
  clear kc kf
  go_wp2_with fail
  rw [zA HIX,zA HPP,List.length_set,zA HO]
  have hX4:zf w4 g xs xs.length:=(zA HK4).filled ((zA HX).below (zC _ _) hgw2) (by omega)
  have hF:=((((hX4.setCell ⟨w2.heap.size,0,none⟩ (.string o.s) (by simp; omega)).setCell ⟨w2.heap.size,1,none⟩ (.int .i64 o.k) (by simp; omega)).setCell ⟨w2.heap.size,2,none⟩ (.int .i64 o.l) (by simp; omega)).setCell ⟨w2.heap.size,3,none⟩ (.int .i64 o.sd) (by simp; omega)).put hi o
  rw [List.length_set] at hF
  refine bodyPost_ret (v:=.agg #[.slice (some ⟨g,0,none⟩) xs.length c]) ?res rfl ⟨⟨g,c,rfl,Or.inl rfl,?_⟩,zB ?_,zB ?_⟩
  case res=>simp [results,Tryz.results62,go_sem,R0,n3,n4,n9,n10]
  ·exact hF.setCell ⟨w.heap.size + 1,0,none⟩ _ (by simp; omega)
  ·exact (((((((((zA H4).set w2.heap.size _ _ (by omega)).set w2.heap.size _ _ (by omega)).set w2.heap.size _ _ (by omega)).set w2.heap.size _ _ (by omega)).set g _ _ hne).set g _ _ hne).set g _ _ hne).set g _ _ hne).set (w.heap.size + 1) _ _ (by omega)
  ·exact (((((((((((zY.of1 (zA HW)).below (zC _ _)).step (zA HK4)).setNew (b:=w2.heap.size) _ _ (by omega)).setNew (b:=w2.heap.size) _ _ (by omega)).setNew (b:=w2.heap.size) _ _ (by omega)).setNew (b:=w2.heap.size) _ _ (by omega)).setG _ _).setG _ _).setG _ _).setG _ _).setNew (b:=w.heap.size + 1) _ _ (by omega)
theorem zBL.len {bs:List UInt8} {p0:Nat}:∀ {k:Nat} {xs:List OpR} {p:Nat},zBL bs p0 k xs p -> xs.length <= k /\ ∀ i,i < xs.length -> (atO xs i).s.size <= 16
 | 0,xs,p,h=>by
  obtain ⟨rfl,_⟩:=h
  exact ⟨Nat.zero_le _,fun i hi=>by simp at hi⟩
 | k + 1,xs,p,h=>by
  obtain ⟨ys,q,ht,_,hc⟩:=h
  obtain ⟨h1,h2⟩:=ht.len
  rcases hc with ⟨_,rfl⟩ | ⟨_,rfl⟩
  ·refine ⟨by simp; omega,fun i hi=>?_⟩
   by_cases e:i < ys.length
   ·have:atO (ys ++ [Zt (nxt bs q) (nxt bs (adv bs q)) true]) i = atO ys i:=by unfold atO; simp [List.getD,List.getElem?_append,e]
    rw [this]; exact h2 i e
   ·have e2:i = ys.length:=by simp at hi; omega
    have:atO (ys ++ [Zt (nxt bs q) (nxt bs (adv bs q)) true]) i = Zt (nxt bs q) (nxt bs (adv bs q)) true:=by unfold atO; simp [List.getD,e2]
    rw [this]
    show (txN _).size <= 16
    have:=zFC (nxt bs (adv bs q))
    omega
  ·exact ⟨by omega,h2⟩
theorem zHm (rp cap p g c:Nat) (a:Option Addr) (bs:List UInt8) (xs:List OpR) (w:World) (h:RdS w rp a cap bs p) (hl:bs.length <= 1200) (hm:xs.length <= 10) (hx:zf w g xs xs.length) (hne:rp < g) (hsx:∀ i,i < xs.length -> (atO xs i).s.size <= 1000) :
  Calls Tryz.prog 62 #[.pointer (some ⟨rp,0,none⟩),.agg #[.slice (some ⟨g,0,none⟩) xs.length c]] w fun e w'=>(∃ g' c',e = .returned (.agg #[.slice (some ⟨g',0,none⟩) (zA2 xs bs p).length c']) /\ (g' = g \/ w.heap.size <= g') /\ zf w' g' (zA2 xs bs p) (zA2 xs bs p).length) /\ Hid (RdS w' rp a cap bs (zBN xs bs p)) /\ Hid (zY w w' rp g):=by
 by_cases hb:nxt bs p % 8 = 7 \/ xs.length = 0
 ·exact zFF rp cap p g c a bs xs w h hl hm hx hne hb
 ·exact zFG rp cap p g c a bs xs w h hl hm hx hne hb hsx
theorem zGG {xs:List OpR} (hx:∀ i,i < xs.length -> (atO xs i).s.size <= 16) (bs:List UInt8) (p:Nat):(zA2 xs bs p).length <= 501 + xs.length /\ ∀ i,i < (zA2 xs bs p).length -> (atO (zA2 xs bs p) i).s.size <= 1001:=by
 unfold zA2
 split
 ·rw [zCr]
  refine ⟨by omega,fun i hi=>?_⟩
  have:atO (ZO (nxt bs (adv bs p)) (500 + nxt bs (adv bs p) % 2)) i = zER (nxt bs (adv bs p)) i:=by
   unfold atO ZO; simp [List.getD,hi]
  rw [this]
  show 3 <= 1001
  omega
 ·rw [List.length_set]
  refine ⟨by omega,fun i hi=>?_⟩
  by_cases e:i = nxt bs (adv bs p) % xs.length
  ·have:∀ o,atO (xs.set (nxt bs (adv bs p) % xs.length) o) i = o:=fun o=>by subst e; unfold atO; simp [List.getD,hi]
   rw [this]
   have hi':=hx i hi
   rw [e] at hi'
   unfold zAR
   split
   ·show (ByteArray.extract _ _ _).size <= 1001
    rw [ByteArray.size_extract]; omega
   ·split
    ·show (_ ++ _:ByteArray).size <= 1001
     rw [ByteArray.size_append]
     show _ + 1 <= 1001
     omega
    ·split
     ·show 0 <= 1001; omega
     ·split
      ·show (atO xs _).s.size <= 1001; omega
      ·split
       ·show (atO xs _).s.size <= 1001; omega
       ·split
        ·show (atO xs _).s.size <= 1001; omega
        ·show (txN _).size <= 1001
         have:=zFC (nxt bs (adv bs (adv bs (adv bs p))))
         omega
  ·have:∀ o,atO (xs.set (nxt bs (adv bs p) % xs.length) o) i = atO xs i:=fun o=>by unfold atO; simp [List.getD,List.getElem?_set,Ne.symm e]
   rw [this]
   have:=hx i hi
   omega
def zNf:Value -> Nat
 | .slice _ n _=>n
 | _=>0
theorem zHn (l:List UInt8):(zC6 l).length <= 1200:=by unfold zC6; simp; omega
end Go.Proofs.YtfboipappaonhaaGreat
