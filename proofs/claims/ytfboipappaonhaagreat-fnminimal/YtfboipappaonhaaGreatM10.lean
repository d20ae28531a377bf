import Derived.Deep.RegionHeld3
import Derived.Test.YtfboipappaonhaaGreatM00
import Derived.Test.YtfboipappaonhaaGreatM01
import Derived.Test.YtfboipappaonhaaGreatM05
import Derived.Test.YtfboipappaonhaaGreatM06
import Derived.Test.YtfboipappaonhaaGreatM09
namespace Go.Proofs.YtfboipappaonhaaGreat
set_option linter.unusedSimpArgs false
set_option linter.unusedVariables false
set_option maxHeartbeats 16000000
set_option maxRecDepth 100000
open Go.RowKit
theorem zM.put {w:World} {g i:Nat} {xs:List zD} (h:zM w g xs xs.length) (hi:i < xs.length) (o:zD) :
  zM (w.setCells g (i * 4) [.int .i64 o.k,.string o.t,.int .i64 o.a,.int .i64 o.b]) g (xs.set i o) (xs.set i o).length:=by
 obtain ⟨h1,h2,h3⟩:=h
 have hin:=World.cell?_setCells_in g [.int .i64 o.k,.string o.t,.int .i64 o.a,.int .i64 o.b] (i * 4) w (fun j hj=>by
  have:=(h2 (i * 4 + j) (by simp at hj; omega)).1
  simpa using this)
 refine ⟨?_,?_,fun j hj=>?_⟩
 ·simpa [World.setCells,World.setCell] using h1
 ·rw [List.length_set]; exact World.there_setCells h2 _ _ _
 ·rw [List.length_set] at hj
  by_cases e:j = i
  ·subst e
   have a0:=hin 0 (by simp)
   have a1:=hin 1 (by simp)
   have a2:=hin 2 (by simp)
   have a3:=hin 3 (by simp)
   have ea:atN (xs.set j o) j = o:=by unfold atN; simp [List.getD,hj]
   unfold zCb
   rw [ea]
   exact ⟨by simpa using a0,by simpa using a1,by simpa using a2,by simpa using a3⟩
  ·obtain ⟨c0,c1,c2,c3⟩:=h3 j hj
   have ea:atN (xs.set i o) j = atN xs j:=by unfold atN; simp [List.getD,List.getElem?_set,Ne.symm e]
   have out:∀ t,t < 4 -> (w.setCells g (i * 4) [.int .i64 o.k,.string o.t,.int .i64 o.a,.int .i64 o.b]).cell? ⟨g,0 + j * 4 + t,none⟩ = w.cell? ⟨g,0 + j * 4 + t,none⟩:=fun t ht=>by
    simp only [World.setCells]
    rw [World.cell?_setCell_other _ _ _ _ (fun x=>by injection x with _ x; omega),World.cell?_setCell_other _ _ _ _ (fun x=>by injection x with _ x; omega),World.cell?_setCell_other _ _ _ _ (fun x=>by injection x with _ x; omega),World.cell?_setCell_other _ _ _ _ (fun x=>by injection x with _ x; omega)]
   unfold zCb
   rw [ea]
   exact ⟨(out 0 (by omega)).trans c0,(out 1 (by omega)).trans c1,(out 2 (by omega)).trans c2,(out 3 (by omega)).trans c3⟩
theorem zE.filledN {w w':World} {g b k:Nat} {xs:List zD} (h:zE w w' g) (ho:zM w b xs k) (hne:b ≠ g):zM w' b xs k:=
 ho.grown (zX h) (fun e=>by injection e with e; exact hne e)
theorem RdF.set {w:World} {rp cap p:Nat} {a:Option Addr} {bs:List UInt8} (h:RdF w rp a cap bs p) (b o:Nat) (v:Value) (hb:rp < b):RdF (w.setCell ⟨b,o,none⟩ v) rp a cap bs p:=
 h.kept (fun i hi=>(zAQ _ _ _ _).block i (by have:=h.lt; omega) (by omega))
theorem zM.take {w:World} {g i:Nat} {xs:List zD} (h:zM w g xs xs.length) (hi:i < xs.length):zM w g (xs.take i) (xs.take i).length:=by
 have hil:(xs.take i).length = i:=by rw [List.length_take]; omega
 rw [hil]
 refine ⟨h.1,fun j hj=>h.2.1 j (by rw [hil] at hj; omega),fun j hj=>?_⟩
 have e:atN (xs.take i) j = atN xs j:=by unfold atN; simp [List.getD,List.getElem?_take,hj]
 have hc:=h.2.2 j (by omega)
 unfold zCb at hc ⊢
 rw [e]
 exact hc
def spN (k:Nat) (n:zD):zD:=
 if k % 8 = 0 then ⟨((k / 8 % 8:Nat):Int),n.t,n.a,n.b⟩
 else if k % 8 = 1 then ⟨n.k,(⟨#[43,45,49,97,40]⟩:ByteArray).extract (k / 8 % 5) (k / 8 % 5 + 1),n.a,n.b⟩
 else if k % 8 = 2 then ⟨n.k,n.t,((k / 8 % 9:Nat):Int) - 1,n.b⟩
 else if k % 8 = 3 then ⟨n.k,n.t,n.a,((k / 8 % 9:Nat):Int) - 1⟩
 else if k % 8 = 5 then ⟨n.k,n.t ++ ⟨#[95]⟩,n.a,n.b⟩
 else ⟨n.k,⟨#[]⟩,n.a,n.b⟩
def gpT:Nat -> List zD
 | 0=>[⟨2,⟨#[97]⟩,0,0⟩]
 | n + 1=>gpT n ++ [⟨6,⟨#[]⟩,(n:Int),0⟩]
theorem zEk:∀ n,(gpT n).length = n + 1
 | 0=>rfl
 | n + 1=>by simp [gpT,zEk n]
def spT (us:List zD) (k v:Nat):List zD:=
 if k % 8 = 4 then us.take (v % us.length) else if k % 8 = 6 then gpT (19998 + k / 8 % 3) else us.set (v % us.length) (spN k (atN us (v % us.length)))
theorem zEc (rp cap p g c:Nat) (a:Option Addr) (bs:List UInt8) (us:List zD) (w:World) (h:RdF w rp a cap bs p) (hl:bs.length <= 1200) (h1:1 <= us.length) (hm:us.length <= 1000) (hc:us.length <= c) (hx:zM w g us us.length) (hne:rp < g) (hsx:∀ i,i < us.length -> (atN us i).t.size <= 1000) :
  Calls Tryz.prog 95 #[.pointer (some ⟨rp,0,none⟩),.agg #[.slice (some ⟨g,0,none⟩) us.length c]] w fun e w'=>(∃ g' c',e = .returned (.agg #[.slice (some ⟨g',0,none⟩) (spT us (nxt bs p) (nxt bs (adv bs p))).length c']) /\ (g' = g \/ w.heap.size <= g') /\ zM w' g' (spT us (nxt bs p) (nxt bs (adv bs p))) (spT us (nxt bs p) (nxt bs (adv bs p))).length) /\ Hid (RdF w' rp a cap bs (adv bs (adv bs p))) /\ Hid (zY w w' rp g):=by
 have hrpw:=h.lt
 have hgw:=hx.1
 have H:=zB h
 clear h
 obtain ⟨T,HT0⟩:∃ T,Hid (spT us (nxt bs p) (nxt bs (adv bs p)) = T):=⟨_,zB rfl⟩
 rw [zA HT0]
 go_enter Tryz.func95,Tryz.ntmps95
 go_wp2_with fail
 refine (zCq rp cap p a bs _ (((zA H).below (zC _ _)).below (zC _ _)) hl).mono ?_
 rintro e w1 ⟨⟨k,rfl,hk,HK⟩,H1,HP1⟩
 have z1:w.heap.size + 2 <= w1.heap.size:=by have:=(zA HP1).size; simpa using this
 have b1:w1.cell? ⟨w.heap.size,0,none⟩ = some (.slice (some ⟨g,0,none⟩) us.length c):=((zA HP1).cell (b:=w.heap.size) (by simp; omega) (by omega) 0).trans (by simp [go_sem])
 have HX2:=zB (zCq rp cap _ a bs w1.drew ((zA H1).drewN 1) hl)
 have hwr:w.heap.size ≠ rp:=by omega
 have hz1:w.heap.size < w1.drew.heap.size:=by show w.heap.size < w1.heap.size; omega
 have hl0:¬ (us.length:Int) = 0:=by omega
 have hl0':((us.length:Int) == 0) = false:=beq_eq_false_iff_ne.2 hl0
 have h0n:us.length ≠ 0:=by omega
 have hnil:¬ us = []:=fun e=>h0n (by rw [e]; rfl)
 go_wp2_with fail
 go_region_held3 (fun W=>W.cell? ⟨w.heap.size,0,none⟩ = some (.slice (some ⟨g,0,none⟩) us.length c)) (go_keep) (first | (go_at_call 48; (with_reducible refine (zA HX2).mono ?_); rintro e w2 ⟨⟨v,rfl,hv,HV⟩,H2,HP2⟩; have b2:=((zA HP2).cell (b:=w.heap.size) hz1 hwr 0).trans b1; obtain ⟨i,HI⟩:∃ i,Hid (i = v % us.length):=⟨_,zB rfl⟩; have emod:(v:Int) % (us.length:Int) = (i:Int):=(by rw [zA HI]; exact (Int.natCast_emod v us.length).symm); have etm:(v:Int).tmod (us.length:Int) = (i:Int):=(by rw [Int.tmod_eq_emod_of_nonneg (by omega)]; exact emod)))
 have HTT:=zB (show T = spT us k v by rw [<- zA HT0,<- zA HK,<- zA HV])
 have HP:=zB (((zA HP1).trans (zAt w1 1 rp)).trans (zA HP2))
 have z2:w.heap.size + 2 <= w2.heap.size:=by have:=(zA HP).size; simpa using this
 have b0:w2.cell? ⟨w.heap.size,0,none⟩ = some (.slice (some ⟨g,0,none⟩) us.length c):=((zA HP).cell (b:=w.heap.size) (by simp; omega) (by omega) 0).trans (by simp [go_sem])
 have r0:w2.cell? ⟨w.heap.size + 1,0,none⟩ = some (.slice none 0 0):=((zA HP).cell (b:=w.heap.size + 1) (by simp) (by omega) 0).trans (by simp [go_sem])
 have r1:w2.frozen? ⟨w.heap.size + 1,0,none⟩ = false:=((zA HP).frozen (b:=w.heap.size + 1) (by simp) (by omega) 0).trans (by simp [go_sem])
 have HW:=zB (show zE w w2 rp from ((zE.of_below ((zC _ _).alloc (by simp) _))).trans (zA HP))
 have HX:=zB ((zA HW).filledN hx (by omega))
 clear H H1 HP1 HP2 HP hx HK HV HX2 b1 b2 hz1 z1 etm HT0
 have hi:i < us.length:=by rw [zA HI]; exact Nat.mod_lt _ (by omega)
 have hiI:(i:Int) < (us.length:Int):=by omega
 have hsi:=hsx i hi
 clear hsx
 obtain ⟨x0,x1,x2,x3⟩:=(zA HX).ops i hi
 simp only [Nat.zero_add] at x0 x1 x2 x3
 obtain ⟨n,HN⟩:∃ n,Hid (n = atN us i):=⟨_,zB rfl⟩
 rw [<- zA HN] at x0 x1 x2 x3 hsi
 have hgw2:g < w2.heap.size:=(zA HX).1
 obtain ⟨y0,y1,y2,y3⟩:w2.frozen? ⟨g,i * 4,none⟩ = false /\ w2.frozen? ⟨g,i * 4 + 1,none⟩ = false /\ w2.frozen? ⟨g,i * 4 + 2,none⟩ = false /\ w2.frozen? ⟨g,i * 4 + 3,none⟩ = false:=by
  have h:=(zA HX).2.1
  have f:∀ j,j < 4 -> w2.frozen? ⟨g,i * 4 + j,none⟩ = false:=fun j hj=>by
   have:=(h (i * 4 + j) (by omega)).2
   simpa using this
  exact ⟨f 0 (by omega),f 1 (by omega),f 2 (by omega),f 3 (by omega)⟩
 have hT:w.heap.size < w2.heap.size:=by omega
 have hR:w.heap.size + 1 < w2.heap.size:=by omega
 have n1:¬ g = w.heap.size:=by omega
 have n2:¬ w.heap.size = g:=by omega
 have n3:¬ g = w.heap.size + 1:=by omega
 have n4:¬ w.heap.size + 1 = g:=by omega
 have n5:¬ w2.heap.size = g:=by omega
 have n6:¬ g = w2.heap.size:=by omega
 have hcI:(i:Int) <= (c:Int):=by omega
 have hi1000:i <= 1000:=by omega
 have hcase:k % 8 = 0 \/ k % 8 = 1 \/ k % 8 = 2 \/ k % 8 = 3 \/ k % 8 = 5 \/ k % 8 = 7 \/ k % 8 = 4 \/ k % 8 = 6:=by omega
 have HIX:=zB (show ¬ k % 8 = 4 -> ¬ k % 8 = 6 -> T = us.set i (spN k n) by
  intro h4 h6
  rw [zA HTT]
  unfold spT
  rw [if_neg h4,if_neg h6,<- zA HI,<- zA HN])
 rename_i hHeld
 rcases hcase with hc8 | hc8 | hc8 | hc8 | hc8 | hc8 | hc8 | hc8
 ·have e8:(k:Int) % 8 = 0:=by omega
  have HO:=zB (show spN k n = ⟨((k / 8 % 8:Nat):Int),n.t,n.a,n.b⟩ by simp [spN,hc8])
  have HT:=zB ((zA HIX) (by omega) (by omega))
  go_wp2_with fail
  rw [zA HT,List.length_set,zA HO]
  have hF:=(zA HX).put hi ⟨((k / 8 % 8:Nat):Int),n.t,n.a,n.b⟩
  rw [List.length_set] at hF
  refine bodyPost_ret (v:=.agg #[.slice (some ⟨g,0,none⟩) us.length c]) ?res rfl ⟨⟨g,c,rfl,Or.inl rfl,?_⟩,zB ?_,zB ?_⟩
  case res=>simp [results,Tryz.results95,go_sem,r0,n3,n4,hR]
  ·exact (hF.setCell (w.heap.size + 1) 0 _ (by omega)).below (zC _ _) (by simpa [World.setCells,World.setCell] using hgw2)
  ·exact ((((((zA H2).set g _ _ hne).set g _ _ hne).set g _ _ hne).set g _ _ hne).set (w.heap.size + 1) _ _ (by omega)).below (zC _ _)
  ·exact ((((((zY.of1 (zA HW)).setG _ _).setG _ _).setG _ _).setG _ _).setNew (b:=w.heap.size + 1) _ _ (by omega)).below (zC _ _)
 ·have e8:(k:Int) % 8 = 1:=by omega
  have HO:=zB (show spN k n = ⟨n.k,(⟨#[43,45,49,97,40]⟩:ByteArray).extract (k / 8 % 5) (k / 8 % 5 + 1),n.a,n.b⟩ by simp [spN,hc8])
  have HT:=zB ((zA HIX) (by omega) (by omega))
  have f1:(0:Int) <= (k:Int) / 8 % 5:=by omega
  have f2:(k:Int) / 8 % 5 <= (k:Int) / 8 % 5 + 1:=by omega
  have f3:(k:Int) / 8 % 5 + 1 <= 5:=by omega
  go_wp2_with fail
  rw [zA HT,List.length_set,zA HO]
  have hF:=(zA HX).put hi ⟨n.k,(⟨#[43,45,49,97,40]⟩:ByteArray).extract (k / 8 % 5) (k / 8 % 5 + 1),n.a,n.b⟩
  rw [List.length_set] at hF
  refine bodyPost_ret (v:=.agg #[.slice (some ⟨g,0,none⟩) us.length c]) ?res rfl ⟨⟨g,c,rfl,Or.inl rfl,?_⟩,zB ?_,zB ?_⟩
  case res=>simp [results,Tryz.results95,go_sem,r0,n3,n4,hR]
  ·exact (hF.setCell (w.heap.size + 1) 0 _ (by omega)).below (zC _ _) (by simpa [World.setCells,World.setCell] using hgw2)
  ·exact ((((((zA H2).set g _ _ hne).set g _ _ hne).set g _ _ hne).set g _ _ hne).set (w.heap.size + 1) _ _ (by omega)).below (zC _ _)
  ·exact ((((((zY.of1 (zA HW)).setG _ _).setG _ _).setG _ _).setG _ _).setNew (b:=w.heap.size + 1) _ _ (by omega)).below (zC _ _)
 ·have e8:(k:Int) % 8 = 2:=by omega
  have HO:=zB (show spN k n = ⟨n.k,n.t,((k / 8 % 9:Nat):Int) - 1,n.b⟩ by simp [spN,hc8])
  have HT:=zB ((zA HIX) (by omega) (by omega))
  go_wp2_with fail
  rw [zA HT,List.length_set,zA HO]
  have hF:=(zA HX).put hi ⟨n.k,n.t,((k / 8 % 9:Nat):Int) - 1,n.b⟩
  rw [List.length_set] at hF
  refine bodyPost_ret (v:=.agg #[.slice (some ⟨g,0,none⟩) us.length c]) ?res rfl ⟨⟨g,c,rfl,Or.inl rfl,?_⟩,zB ?_,zB ?_⟩
  case res=>simp [results,Tryz.results95,go_sem,r0,n3,n4,hR]
  ·exact (hF.setCell (w.heap.size + 1) 0 _ (by omega)).below (zC _ _) (by simpa [World.setCells,World.setCell] using hgw2)
  ·exact ((((((zA H2).set g _ _ hne).set g _ _ hne).set g _ _ hne).set g _ _ hne).set (w.heap.size + 1) _ _ (by omega)).below (zC _ _)
  ·exact ((((((zY.of1 (zA HW)).setG _ _).setG _ _).setG _ _).setG _ _).setNew (b:=w.heap.size + 1) _ _ (by omega)).below (zC _ _)
 ·have e8:(k:Int) % 8 = 3:=by omega
  have HO:=zB (show spN k n = ⟨n.k,n.t,n.a,((k / 8 % 9:Nat):Int) - 1⟩ by simp [spN,hc8])
  have HT:=zB ((zA HIX) (by omega) (by omega))
  go_wp2_with fail
  rw [zA HT,List.length_set,zA HO]
  have hF:=(zA HX).put hi ⟨n.k,n.t,n.a,((k / 8 % 9:Nat):Int) - 1⟩
  rw [List.length_set] at hF
  refine bodyPost_ret (v:=.agg #[.slice (some ⟨g,0,none⟩) us.length c]) ?res rfl ⟨⟨g,c,rfl,Or.inl rfl,?_⟩,zB ?_,zB ?_⟩
  case res=>simp [results,Tryz.results95,go_sem,r0,n3,n4,hR]
  ·exact (hF.setCell (w.heap.size + 1) 0 _ (by omega)).below (zC _ _) (by simpa [World.setCells,World.setCell] using hgw2)
  ·exact ((((((zA H2).set g _ _ hne).set g _ _ hne).set g _ _ hne).set g _ _ hne).set (w.heap.size + 1) _ _ (by omega)).below (zC _ _)
  ·exact ((((((zY.of1 (zA HW)).setG _ _).setG _ _).setG _ _).setG _ _).setNew (b:=w.heap.size + 1) _ _ (by omega)).below (zC _ _)
 ·have e8:(k:Int) % 8 = 5:=by omega
  have HO:=zB (show spN k n = ⟨n.k,n.t ++ ⟨#[95]⟩,n.a,n.b⟩ by simp [spN,hc8])
  have HT:=zB ((zA HIX) (by omega) (by omega))
  go_wp2_with fail
  rw [zA HT,List.length_set,zA HO]
  have hF:=(zA HX).put hi ⟨n.k,n.t ++ ⟨#[95]⟩,n.a,n.b⟩
  rw [List.length_set] at hF
  refine bodyPost_ret (v:=.agg #[.slice (some ⟨g,0,none⟩) us.length c]) ?res rfl ⟨⟨g,c,rfl,Or.inl rfl,?_⟩,zB ?_,zB ?_⟩
  case res=>simp [results,Tryz.results95,go_sem,r0,n3,n4,hR]
  ·exact (hF.setCell (w.heap.size + 1) 0 _ (by omega)).below (zC _ _) (by simpa [World.setCells,World.setCell] using hgw2)
  ·exact ((((((zA H2).set g _ _ hne).set g _ _ hne).set g _ _ hne).set g _ _ hne).set (w.heap.size + 1) _ _ (by omega)).below (zC _ _)
  ·exact ((((((zY.of1 (zA HW)).setG _ _).setG _ _).setG _ _).setG _ _).setNew (b:=w.heap.size + 1) _ _ (by omega)).below (zC _ _)
 ·have e8:(k:Int) % 8 = 7:=by omega
  have HO:=zB (show spN k n = ⟨n.k,⟨#[]⟩,n.a,n.b⟩ by simp [spN,hc8])
  have HT:=zB ((zA HIX) (by omega) (by omega))
  go_wp2_with fail
  rw [zA HT,List.length_set,zA HO]
  have hF:=(zA HX).put hi ⟨n.k,⟨#[]⟩,n.a,n.b⟩
  rw [List.length_set] at hF
  refine bodyPost_ret (v:=.agg #[.slice (some ⟨g,0,none⟩) us.length c]) ?res rfl ⟨⟨g,c,rfl,Or.inl rfl,?_⟩,zB ?_,zB ?_⟩
  case res=>simp [results,Tryz.results95,go_sem,r0,n3,n4,hR]
  ·exact (hF.setCell (w.heap.size + 1) 0 _ (by omega)).below (zC _ _) (by simpa [World.setCells,World.setCell] using hgw2)
  ·exact ((((((zA H2).set g _ _ hne).set g _ _ hne).set g _ _ hne).set g _ _ hne).set (w.heap.size + 1) _ _ (by omega)).below (zC _ _)
  ·exact ((((((zY.of1 (zA HW)).setG _ _).setG _ _).setG _ _).setG _ _).setNew (b:=w.heap.size + 1) _ _ (by omega)).below (zC _ _)
 ·have e8:(k:Int) % 8 = 4:=by omega
  have HT:=zB (show T = us.take i by rw [zA HTT]; unfold spT; rw [if_pos hc8,<- zA HI])
  go_wp2_with fail
  have hil:(us.take i).length = i:=by rw [List.length_take]; omega
  have hF:=(zA HX).take hi
  rw [zA HT,hil]
  rw [hil] at hF
  refine bodyPost_ret (v:=.agg #[.slice (some ⟨g,0,none⟩) i c]) ?res rfl ⟨⟨g,c,rfl,Or.inl rfl,?_⟩,zB ?_,zB ?_⟩
  case res=>simp [results,Tryz.results95,go_sem,r0,n3,n4,hR]
  ·exact (hF.setCell (w.heap.size + 1) 0 _ (by omega)).below (zC _ _) (by simpa [World.setCells,World.setCell] using hgw2)
  ·exact (((zA H2)).set (w.heap.size + 1) _ _ (by omega)).below (zC _ _)
  ·exact (((zY.of1 (zA HW))).setNew (b:=w.heap.size + 1) _ _ (by omega)).below (zC _ _)
 ·have e8:(k:Int) % 8 = 6:=by omega
  obtain ⟨m,HM⟩:∃ m,Hid (m = 19998 + k / 8 % 3):=⟨_,zB rfl⟩
  have HT:=zB (show T = gpT m by rw [zA HTT,zA HM]; unfold spT; rw [if_neg (by omega),if_pos hc8])
  have em:(19999:Int) + (k:Int) / 8 % 3 = (m:Int) + 1:=by have:=zA HM; omega
  have hm2:m <= 20000:=by have:=zA HM; omega
  have HB2:=zB (zC w2 (.cells #[.int .i64 n.k,.string n.t,.int .i64 n.a,.int .i64 n.b] 81))
  obtain ⟨i0,hi0,hz0,hz1,hz2⟩:=ZJ zBh
  have HI0:=zB hi0
  have HZ:=zB (And.intro hz0 (And.intro hz1 hz2))
  clear hi0 hz0 hz1 hz2 hHeld
  go_wp2_with fail
  clear e8 emod hc8
  have HO0:=zB (show zi ((w2.alloc (.cells #[.int .i64 n.k,.string n.t,.int .i64 n.a,.int .i64 n.b] 81)).alloc (.cells #[.int .i64 2,.string ⟨#[97]⟩,.int .i64 0,.int .i64 0] 81)) (w2.heap.size + 1) (w2.heap.size + 1) 1 (gpT 0) by
   have:=(World.ownsRow_lit (base:=w2.heap.size + 1) (e:=81) (size:=4) (w2.alloc (.cells #[.int .i64 n.k,.string n.t,.int .i64 n.a,.int .i64 n.b] 81)) #[.int .i64 2,.string ⟨#[97]⟩,.int .i64 0,.int .i64 0] 1 (by simp) (by decide) rfl)
   simpa [zi,zH,gpT] using this)
  have hb0:Below w2.heap.size w2 ((w2.alloc (.cells #[.int .i64 n.k,.string n.t,.int .i64 n.a,.int .i64 n.b] 81)).alloc (.cells #[.int .i64 2,.string ⟨#[97]⟩,.int .i64 0,.int .i64 0] 81)):=(zC _ _).alloc (by simp) _
  go_loopw [8] (fun v wr=>∃ (j g c:Nat),j <= m /\ v = .slice (some ⟨g,0,none⟩) (gpT j).length c /\ Hid (zi wr (w2.heap.size + 1) g c (gpT j)) /\ w2.heap.size < wr.heap.size /\ Hid (Below w2.heap.size w2 wr)) (fun v _=>m + 1 - zNf v)
  case atStart=>exact ⟨0,w2.heap.size + 1,1,Nat.zero_le _,rfl,HO0,by simp; omega,zB hb0⟩
  case round=>
   clear HO0 hb0
   obtain ⟨j,gg,cc,hj,rfl,HO,zr,hbel⟩:=hrel
   have hcl:(gpT j).length = j + 1:=zEk j
   by_cases hlt:j < m
   ·have e1:(j:Int) < (m:Int):=by omega
    have hgo:=(zA HO).lt
    go_wp2_with (at_builtin; refine wpList_append_own_at _ rfl (.tmp 84) (.tmp 89) 26 rfl (w2.heap.size + 1) 81 i0 _ 4 40 Tryz.underlying26 (zA HI0) (zA HZ).1 (zA HZ).2.1 (zA HZ).2.2 rfl (by decide) _ (gpT j).length (zH (gpT j)) rfl ((zA HO).below (zC _ _)) ⟨wr.heap.size,0,none⟩ 1 1 (zH [⟨6,⟨#[]⟩,(j:Int),0⟩]) rfl rfl (zZ wr ⟨6,⟨#[]⟩,(j:Int),0⟩) (zL _) ?b1 ?b2 ?b3 ?next)
    case b1=>unfold maxLen; omega
    case b2=>omega
    case b3=>simp; omega
    case next=>
     intro v4 w4 hown4 hgrow4 hnil4 hat4
     rw [show j + 1 + 1 = (gpT j).length + 1 by omega] at hown4
     obtain ⟨g4,c4,rfl,hr4⟩:=zi.snoc hown4 (by simp [hnil4]) (show gpT (j + 1) = gpT j ++ [⟨6,⟨#[]⟩,(j:Int),0⟩] from rfl)
     have HR4:=zB hr4
     have hb4:Below w2.heap.size w2 w4:=(((zA hbel).alloc (zA hbel).size _)).grown hgrow4 (by have:=(zA hbel).size; simp; omega) (fun q hq=>by simp [Value.ownBlock] at hq; omega)
     have z4:w2.heap.size < w4.heap.size:=by have:=hgrow4.size; simp at this; omega
     have HB4:=zB hb4
     clear hown4 hgrow4 hnil4 hr4 hat4 HO hb4
     go_wp2_with fail
     refine ⟨⟨j + 1,g4,c4,by omega,rfl,HR4,z4,HB4⟩,?_⟩
     have:=zEk (j + 1)
     simp only [zNf]
     omega
   ·have hjn:j = m:=by omega
    subst hjn
    obtain ⟨hgB,hF⟩:=ZF (zA HO)
    have HF:=zB hF
    have R0:=((zA hbel).cell (p:=⟨w.heap.size + 1,0,none⟩) hR).trans r0
    have R1:=((zA hbel).frozen (p:=⟨w.heap.size + 1,0,none⟩) hR).trans r1
    clear hF HO
    go_wp2_with fail
    rw [zA HT]
    refine bodyPost_ret (v:=.agg #[.slice (some ⟨gg,0,none⟩) (gpT j).length cc]) ?res rfl ⟨⟨gg,cc,rfl,Or.inr (by omega),?_⟩,zB ?_,zB ?_⟩
    case res=>simp [results,Tryz.results95,go_sem,R0,hcl]
    ·exact (zA HF).setCell (w.heap.size + 1) 0 _ (by omega)
    ·exact (((zA H2)).below (zA hbel)).set (w.heap.size + 1) _ _ (by omega)
    ·exact (((zY.of1 (zA HW))).below (zA hbel)).setNew (b:=w.heap.size + 1) _ _ (by omega)
end Go.Proofs.YtfboipappaonhaaGreat
namespace Go.Proofs.YtfboipappaonhaaGreat
set_option maxHeartbeats 16000000
set_option maxRecDepth 100000
open Go.RowKit
theorem zAA (s:ByteArray) (k l sd:Int) (b:Bool) (w:World) (hs:s.size <= maxLen) :
  Calls Tryz.prog 99 #[.agg #[.string s,.int .i64 k,.int .i64 l,.int .i64 sd],.bool b] w fun e w'=>e = .returned (.int .i64 (zm s k l sd b)) /\ Below w.heap.size w w':=by
 cases ht:okB s k l sd
 ·have hf:=zB (zHc s k l sd b ht)
  go_enter Tryz.func99,Tryz.ntmps99
  go_wp2_with (go_at_call 101; refine (zCI _ _ _ _ _ hs).mono ?_; rintro e w' ⟨rfl,hb⟩)
  go_ret
  exact ⟨zJ (zA hf).symm,(zC _ _).trans (hb.mono (by simp))⟩
 ·obtain ⟨⟨hl1,hl2⟩,h⟩:=zAX s k l sd ht
  rcases h with ⟨rfl,rfl⟩ | ⟨rfl,rfl⟩ | ⟨rfl,rfl⟩ | ⟨rfl,rfl⟩ | ⟨rfl,rfl⟩ <;> cases b
  all_goals
   have hf:=zB (ht)
   go_enter Tryz.func99,Tryz.ntmps99
   go_wp2_with (go_at_call 101; refine (zCI _ _ _ _ _ hs).mono ?_; rintro e w' ⟨rfl,hb⟩; obtain ⟨hc,hz⟩:=zEN hb)
   go_ret
   exact ⟨zJ (by simp [zm,zHb,zA hf]),(zC _ _).trans (hb.mono (by simp))⟩
theorem zFw (s:ByteArray) (k l sd:Int) (b:Bool) (w:World) (hl1:1 <= l) (hl2:l <= 1000) :
  Calls Tryz.prog 138 #[.agg #[.string s,.int .i64 k,.int .i64 l,.int .i64 sd],.bool b] w fun e w'=>e = .returned (.int .i64 (zHb l sd b)) /\ Below w.heap.size w w':=by
 cases b
 ·by_cases h:sd = 1
  ·have h':(sd == 1) = true:=by simpa using h
   have H:=zB h
   clear h
   go_enter Tryz.func138,Tryz.ntmps138
   go_wp2
   go_ret
   exact ⟨zJ (by simp [zHb,zA H]),zC _ _⟩
  ·have h':(sd == 1) = false:=by simpa using h
   go_enter Tryz.func138,Tryz.ntmps138
   go_wp2
   go_ret
   exact ⟨zJ (by simp [zHb,h]),zC _ _⟩
 ·by_cases h:sd = 2
  ·have h':(sd == 2) = true:=by simpa using h
   have H:=zB h
   clear h
   go_enter Tryz.func138,Tryz.ntmps138
   go_wp2
   go_ret
   exact ⟨zJ (by simp [zHb,zA H]),zC _ _⟩
  ·have h':(sd == 2) = false:=by simpa using h
   go_enter Tryz.func138,Tryz.ntmps138
   go_wp2
   go_ret
   exact ⟨zJ (by simp [zHb,h]),zC _ _⟩
theorem ZD (s:ByteArray) (k l sd:Int) (b:Bool) (w:World) (hs:s.size <= maxLen) :
  Calls Tryz.prog 90 #[.agg #[.string s,.int .i64 k,.int .i64 l,.int .i64 sd],.bool b] w fun e w'=>e = .returned (.int .i64 (zm s k l sd b)) /\ Below w.heap.size w w':=by
 cases ht:okB s k l sd
 ·have hf:=zB (zHc s k l sd b ht)
  go_enter Tryz.func90,Tryz.ntmps90
  go_wp2_with (go_at_call 122; refine (Z5 _ _ _ _ _ hs).mono ?_; rintro e w' ⟨rfl,hb⟩)
  go_ret
  exact ⟨zJ (zA hf).symm,(zC _ _).trans (hb.mono (by simp))⟩
 ·obtain ⟨⟨hl1,hl2⟩,h⟩:=zAX s k l sd ht
  have hf:=zB ht
  by_cases h2:k = 2
  ·subst h2
   clear h
   go_enter Tryz.func90,Tryz.ntmps90
   go_wp2_with (first | (go_at_call 122; refine (Z5 _ _ _ _ _ hs).mono ?_; rintro e w' ⟨rfl,hb⟩; obtain ⟨hc,hz⟩:=zEN hb) | (go_at_call 138; refine (zFw _ _ _ _ _ _ hl1 hl2).mono ?_; rintro e w1 ⟨rfl,hb1⟩))
   go_ret
   exact ⟨zJ (by simp [zm,zA hf]),(zC _ _).trans ((hb.mono (by simp)).trans (hb1.mono (by have:=hb.size; simp at this; omega)))⟩
  ·have h2':(k == 2) = false:=by simpa using h2
   clear h
   cases b
   all_goals
    go_enter Tryz.func90,Tryz.ntmps90
    go_wp2_with (first | (go_at_call 122; refine (Z5 _ _ _ _ _ hs).mono ?_; rintro e w' ⟨rfl,hb⟩; obtain ⟨hc,hz⟩:=zEN hb))
    go_ret
    exact ⟨zJ (by simp [zm,zA hf,h2]),(zC _ _).trans (hb.mono (by simp))⟩
def zBC (xs:List OpR) (t:ByteArray) (kd:Int):Nat -> Nat -> Option Nat
 | 0,_=>none
 | m + 1,i=>if (atO xs i).s = t /\ (atO xs i).k = kd then some i else zBC xs t kd m (i + 1)
def fnd (xs:List OpR) (t:ByteArray) (kd:Int):Option Nat:=zBC xs t kd xs.length 0
theorem zDY {xs:List OpR} {t:ByteArray} {kd:Int}:∀ {m i j:Nat},zBC xs t kd m i = some j -> i <= j /\ j < i + m /\ (atO xs j).s = t /\ (atO xs j).k = kd
 | 0,_,_,h=>by cases h
 | m + 1,i,j,h=>by
  unfold zBC at h
  split at h
  ·rename_i hc
   injection h with h
   subst h
   exact ⟨Nat.le_refl _,by omega,hc.1,hc.2⟩
  ·have:=zDY h
   exact ⟨by omega,by omega,this.2.2⟩
theorem zDZ {xs:List OpR} {t:ByteArray} {kd:Int}:∀ {m i:Nat},zBC xs t kd m i = none -> ∀ j,i <= j -> j < i + m -> ¬ ((atO xs j).s = t /\ (atO xs j).k = kd)
 | 0,_,_,_,h1,h2=>by omega
 | m + 1,i,h,j,h1,h2=>by
  unfold zBC at h
  split at h
  ·cases h
  ·rename_i hc
   by_cases e:j = i
   ·subst e; exact hc
   ·exact zDZ h j (by omega) (by omega)
theorem Ze {xs:List OpR} {t:ByteArray} {kd:Int} {j:Nat} (h:fnd xs t kd = some j):j < xs.length /\ (atO xs j).s = t /\ (atO xs j).k = kd:=by
 have:=zDY h
 exact ⟨by omega,this.2.2⟩
theorem zHo {xs:List OpR} {t:ByteArray} {kd:Int} (h:fnd xs t kd = none) {j:Nat} (hj:j < xs.length):¬ ((atO xs j).s = t /\ (atO xs j).k = kd):=
 zDZ h j (Nat.zero_le _) (by omega)
theorem zDa {xs:List OpR} {t:ByteArray} {kd:Int}:∀ (k m i:Nat),(∀ j,i <= j -> j < i + k -> ¬ ((atO xs j).s = t /\ (atO xs j).k = kd)) -> zBC xs t kd (k + m) i = zBC xs t kd m (i + k)
 | 0,m,i,_=>by rw [Nat.zero_add,Nat.add_zero]
 | k + 1,m,i,h=>by
  have e:k + 1 + m = (k + m) + 1:=by omega
  rw [e]
  show (if (atO xs i).s = t /\ (atO xs i).k = kd then some i else zBC xs t kd (k + m) (i + 1)) = _
  rw [if_neg (h i (Nat.le_refl _) (by omega)),zDa k m (i + 1) (fun j h1 h2=>h j (by omega) (by omega))]
  congr 1
  omega
theorem zJ8 {xs:List OpR} {t:ByteArray} {kd:Int} {k:Nat} (hk:k < xs.length) (h:∀ j,j < k -> ¬ ((atO xs j).s = t /\ (atO xs j).k = kd)) (hk2:(atO xs k).s = t /\ (atO xs k).k = kd):fnd xs t kd = some k:=by
 have e:xs.length = k + ((xs.length - k - 1) + 1):=by omega
 unfold fnd
 rw [e,zDa k _ 0 (fun j _ h2=>h j (by omega))]
 show (if (atO xs (0 + k)).s = t /\ (atO xs (0 + k)).k = kd then some (0 + k) else _) = _
 rw [Nat.zero_add,if_pos hk2]
theorem zJM {xs:List OpR} {t:ByteArray} {kd:Int} (h:∀ j,j < xs.length -> ¬ ((atO xs j).s = t /\ (atO xs j).k = kd)):fnd xs t kd = none:=by
 cases e:fnd xs t kd with
 | none=>rfl
 | some j=>exact absurd (Ze e).2 (h j (Ze e).1)
theorem zJN {xs:List OpR} (hv:zO xs 0) {t:ByteArray} {kd:Int} {j:Nat} (hj:j < xs.length) (h:(atO xs j).s = t /\ (atO xs j).k = kd):fnd xs t kd = some j:=by
 cases e:fnd xs t kd with
 | none=>exact absurd h (zHo e hj)
 | some i=>
  obtain ⟨hi,h1,h2⟩:=Ze e
  by_cases hij:i = j
  ·rw [hij]
  ·exfalso
   have hpr:¬ Pr 3 xs:=by
    rcases hv with ⟨h,_⟩ | ⟨_,⟨h,_⟩ | ⟨_,⟨h,_⟩ | ⟨h,_⟩⟩⟩
    ·exact absurd h (by decide)
    ·exact absurd h (by decide)
    ·exact absurd h (by decide)
    ·exact h
   apply hpr
   rcases Nat.lt_trichotomy i j with e | e | e
   ·exact ⟨j,i,e,hj,by simp [cl]; exact ⟨by rw [h1,h.1],by omega⟩⟩
   ·exact absurd e hij
   ·exact ⟨i,j,e,hi,by simp [cl]; exact ⟨by rw [h1,h.1],by omega⟩⟩
def zq (o:zD):Prop:=3 <= o.k /\ o.k <= 5
def ZI (xs:List OpR) (o:zD):Int:=if 3 <= o.k /\ o.k <= 5 then (match fnd xs o.t (o.k - 2) with
 | some j=>(atO xs j).l
 | none=>1001) else 1001
def zAe (xs:List OpR) (j:Nat) (b:Bool):Int:=zm (atO xs j).s (atO xs j).k (atO xs j).l (atO xs j).sd b
def zAY (xs:List OpR) (ns:List zD):Prop:=∀ i,i < ns.length -> zq (atN ns i) -> fnd xs (atN ns i).t ((atN ns i).k - 2) ≠ none
def zAx (xs:List OpR) (ns:List zD) (i:Nat):Prop:=∀ j,zq (atN ns i) -> fnd xs (atN ns i).t ((atN ns i).k - 2) = some j ->
 zAe xs j false <= ZI xs (atN ns (atN ns i).a.toNat) /\ (zR (atN ns i).k = 1 \/ zAe xs j true <= ZI xs (atN ns (atN ns i).b.toNat))
def zAy (xs:List OpR) (ns:List zD) (c:Int):Prop:=
 (¬ zO xs 0 /\ c = 1) \/ (zO xs 0 /\ ((¬ (zu ns /\ zAY xs ns) /\ c = 2) \/ ((zu ns /\ zAY xs ns) /\ ((¬ (∀ i,i < ns.length -> zAx xs ns i) /\ c = 3) \/ ((∀ i,i < ns.length -> zAx xs ns i) /\ c = 0)))))
theorem zAy.one {xs:List OpR} {ns:List zD} {c c':Int} (h:zAy xs ns c) (h':zAy xs ns c'):c = c':=by
 rcases h with ⟨a,rfl⟩ | ⟨a,⟨b,rfl⟩ | ⟨b,⟨d,rfl⟩ | ⟨d,rfl⟩⟩⟩ <;> rcases h' with ⟨a',rfl⟩ | ⟨a',⟨b',rfl⟩ | ⟨b',⟨d',rfl⟩ | ⟨d',rfl⟩⟩⟩ <;> first | rfl | exact absurd a a' | exact absurd a' a | exact absurd b b' | exact absurd b' b | exact absurd d d' | exact absurd d' d
end Go.Proofs.YtfboipappaonhaaGreat
