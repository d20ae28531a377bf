import Derived.Test.YtfboipappaonhaaGreatF07
import Derived.Test.YtfboipappaonhaaGreatF08
namespace Go.Proofs.YtfboipappaonhaaGreat
set_option linter.unusedSimpArgs false
set_option linter.unusedVariables false
set_option maxHeartbeats 16000000
set_option maxRecDepth 100000
open Go.RowKit
theorem zGL (rp cap p g c:Nat) (a:Option Addr) (bs:List UInt8) (xs:List OpR) (w:World) (h:RdF w rp a cap bs p) (hl:bs.length<=1200) (hm:xs.length<=10) (hx:zt w g xs xs.length) (hne:rp<g) (hb:nxt bs p%8=7\/xs.length=0) :
  Calls Tryz.prog 62 #[.pointer (some ⟨rp,0,none⟩),.agg #[.slice (some ⟨g,0,none⟩) xs.length c]] w fun e w'=>(∃ g' c',e = .returned (.agg #[.slice (some ⟨g',0,none⟩) (zCl xs bs p).length c'])/\(g'=g\/w.heap.size<=g')/\zt w' g' (zCl xs bs p) (zCl xs bs p).length)/\Hid (RdF w' rp a cap bs (zCm xs bs p))/\Hid (ZP w w' rp g):=by
 have hrpw:=h.lt
 have hgw:=hx.1
 have H:=zB h
 clear h
 go_enter Tryz.func62,Tryz.ntmps62
 go_wp2_with fail
 refine (zBU rp cap p a bs _ (((zA H).below (zC _ _)).below (zC _ _)) hl).mono ?_
 rintro e w1 ⟨⟨k,rfl,hk,HK⟩,H1,HP1⟩
 go_wp2_with fail
 refine (zBU rp cap _ a bs _ (zA H1) hl).mono ?_
 rintro e w2 ⟨⟨v,rfl,hv,HV⟩,H2,HP2⟩
 have HP:=zB ((zA HP1).trans (zA HP2))
 have z2:w.heap.size+2<=w2.heap.size:=by have:=(zA HP).size; simpa using this
 have b0:w2.cell? ⟨w.heap.size,0,none⟩=some (.slice (some ⟨g,0,none⟩) xs.length c):=((zA HP).cell (b:=w.heap.size) (by simp; omega) (by omega) 0).trans (by simp [go_sem])
 have r0:w2.cell? ⟨w.heap.size+1,0,none⟩=some (.slice none 0 0):=((zA HP).cell (b:=w.heap.size+1) (by simp) (by omega) 0).trans (by simp [go_sem])
 have r1:w2.frozen? ⟨w.heap.size+1,0,none⟩=false:=((zA HP).frozen (b:=w.heap.size+1) (by simp) (by omega) 0).trans (by simp [go_sem])
 have HW:=zB (show zE w w2 rp from ((zE.of_below ((zC _ _).alloc (by simp) _))).trans (zA HP))
 have HX:=zB ((zA HW).filled hx (by omega))
 clear H H1 HP1 HP2 HP hx
 obtain ⟨i0,hi,hz0,hz1,hz2⟩:=info_parts zLl
 have HI:=zB hi
 have HZ:=zB (And.intro hz0 (And.intro hz1 hz2))
 clear hi hz0 hz1 hz2
 by_cases hbig:k%8=7
 ·have e0:((k:Int)%8==7)=true:=by simp; omega
  have hn:(500:Int)+(v:Int)%2<=501:=by omega
  go_wp2_with fail
  have HO0:=zB (show ((w2.alloc (.cells #[] 123)).alloc (.cells #[.slice (some ⟨w2.heap.size,0,none⟩) 0 0] 25)).ownsRow w2.heap.size 123 4 (.slice (some ⟨w2.heap.size,0,none⟩) 0 0) 0 [] by
   have:=(World.ownsRow_lit (base:=w2.heap.size) (e:=123) (size:=4) w2 #[] 0 (Nat.le_refl _) (Nat.zero_le _) rfl).alloc (.cells #[.slice (some ⟨w2.heap.size,0,none⟩) 0 0] 25)
   simpa using this)
  go_loopw [9] (fun i wr=>∃ (j go co:Nat),j<=500+v%2/\i = .int .i64 (j:Int)/\go≠w2.heap.size+1/\wr.cell? ⟨w2.heap.size+1,0,none⟩=some (.slice (some ⟨go,0,none⟩) (ZZ v j).length co)/\wr.frozen? ⟨w2.heap.size+1,0,none⟩=false/\Hid (wr.ownsRow w2.heap.size 123 4 (.slice (some ⟨go,0,none⟩) (ZZ v j).length co) (ZZ v j).length (ZU (ZZ v j)))/\w2.heap.size+1<wr.heap.size/\Below w2.heap.size w2 wr) (fun i _=>500+v%2-(intOf i).toNat)
  case atStart=>exact ⟨0,w2.heap.size,0,Nat.zero_le _,rfl,by omega,by simp [go_sem,ZZ],by simp [go_sem],HO0,by simp,(zC _ _).alloc (by simp) _⟩
  case round=>
   clear HO0
   obtain ⟨j,go,co,hj,rfl,hgT,t0,t1,HO,zr,hbel⟩:=hrel
   by_cases hlt:j<500+v%2
   ·have e1:(j:Int)<500+(v:Int)%2:=by omega
    obtain ⟨m0,HM0⟩:∃ m:Nat,Hid (m=j%10):=⟨_,zB rfl⟩
    obtain ⟨m1,HM1⟩:∃ m:Nat,Hid (m=j/10%10):=⟨_,zB rfl⟩
    obtain ⟨m2,HM2⟩:∃ m:Nat,Hid (m=j/100):=⟨_,zB rfl⟩
    have f0:(j:Int)%10=(m0:Int):=by have:=zA HM0; omega
    have f1:(j:Int)/10%10=(m1:Int):=by have:=zA HM1; omega
    have f2:(j:Int)/100=(m2:Int):=by have:=zA HM2; omega
    have g0:(m0:Int)<10:=by omega
    have g1:(m1:Int)<10:=by omega
    have g2:(m2:Int)<10:=by omega
    have g0':m0<10:=by omega
    have g1':m1<10:=by omega
    have g2':m2<10:=by omega
    have hsz:(⟨#[43,45,42,47,60,62,61,33,38,124]⟩:ByteArray).size=10:=rfl
    have g0s:(m0:Int)<((⟨#[43,45,42,47,60,62,61,33,38,124]⟩:ByteArray).size:Int):=g0
    have g1s:(m1:Int)<((⟨#[43,45,42,47,60,62,61,33,38,124]⟩:ByteArray).size:Int):=g1
    have g2s:(m2:Int)<((⟨#[43,45,42,47,60,62,61,33,38,124]⟩:ByteArray).size:Int):=g2
    have hcv:=fun x y z=>zNK wr x y z
    go_wp2_with fail
    have hbl:(ZZ v j).length<=501:=by rw [zFe]; omega
    go_region
    go_wp2_with (at_builtin; refine wpList_append_own _ rfl (.tmp 49) (.tmp 62) 23 rfl w2.heap.size 123 i0 _ 4 40 Tryz.underlying23 (zA HI) (zA HZ).1 (zA HZ).2.1 (zA HZ).2.2 rfl (by decide) _ (ZZ v j).length (ZU (ZZ v j)) rfl (((zA HO).alloc _).alloc _).drew ⟨wr.heap.size+1,0,none⟩ 1 1 (ZU [(⟨⟨#[(⟨#[43,45,42,47,60,62,61,33,38,124]⟩:ByteArray)[m0],(⟨#[43,45,42,47,60,62,61,33,38,124]⟩:ByteArray)[m1],(⟨#[43,45,42,47,60,62,61,33,38,124]⟩:ByteArray)[m2]]⟩,2,1+(j:Int)/3,1+((j:Int)/3+(v:Int)/2)%3⟩:OpR)]) rfl rfl (zIE wr _ (⟨⟨#[(⟨#[43,45,42,47,60,62,61,33,38,124]⟩:ByteArray)[m0],(⟨#[43,45,42,47,60,62,61,33,38,124]⟩:ByteArray)[m1],(⟨#[43,45,42,47,60,62,61,33,38,124]⟩:ByteArray)[m2]]⟩,2,1+(j:Int)/3,1+((j:Int)/3+(v:Int)/2)%3⟩:OpR)) (zCV _) ?b1 ?b2 ?b3 ?next)
    case b1=>unfold maxLen; omega
    case b2=>omega
    case b3=>simp; omega
    case next=>
     intro v4 w4 hown4 hgrow4 hnil4
     obtain ⟨g4,c4,rfl⟩:=zDO hown4 (by simp [hnil4])
     have ho:(⟨⟨#[(⟨#[43,45,42,47,60,62,61,33,38,124]⟩:ByteArray)[m0],(⟨#[43,45,42,47,60,62,61,33,38,124]⟩:ByteArray)[m1],(⟨#[43,45,42,47,60,62,61,33,38,124]⟩:ByteArray)[m2]]⟩,2,1+(j:Int)/3,1+((j:Int)/3+(v:Int)/2)%3⟩:OpR)=zGx v j:=by
      have h0:=zA HM0
      have h1:=zA HM1
      have h2:=zA HM2
      unfold zGx
      rw [zIF m0 g0',zIF m1 g1',zIF m2 g2',h0,h1,h2]
      congr 1
     have hl4:(ZZ v j).length+1=(ZZ v (j+1)).length:=by rw [zDQ]; simp
     rw [ho,<- zCk,<- zDQ,hl4] at hown4
     rw [hl4]
     have hgo:=(zA HO).lt go rfl
     have hbel4:Below w2.heap.size w2 w4:=(((hbel.alloc hbel.size _).alloc (by have:=hbel.size; simp; omega) _).drew).grown hgrow4 (by have:=hbel.size; simp; omega) (fun q hq=>by simp [Value.ownBlock] at hq; omega)
     have s0:w4.cell? ⟨w2.heap.size+1,0,none⟩=some (.slice (some ⟨go,0,none⟩) (ZZ v j).length co):=by
      refine (hgrow4.cell_far ⟨w2.heap.size+1,0,none⟩ (by simp; omega) (by simp [Value.ownBlock]; omega)).trans ?_
      exact ((zC _ _).cell (p:=⟨w2.heap.size+1,0,none⟩) (by simp; omega)).trans (((zC _ _).cell (p:=⟨w2.heap.size+1,0,none⟩) zr).trans t0)
     have s1:w4.frozen? ⟨w2.heap.size+1,0,none⟩=false:=by
      refine (hgrow4.frozen_far ⟨w2.heap.size+1,0,none⟩ (by simp; omega) (by simp [Value.ownBlock]; omega)).trans ?_
      exact ((zC _ _).frozen (p:=⟨w2.heap.size+1,0,none⟩) (by simp; omega)).trans (((zC _ _).frozen (p:=⟨w2.heap.size+1,0,none⟩) zr).trans t1)
     have hne4:g4≠w2.heap.size+1:=zNL (zBi hown4).2 (by omega) s0
     have HO4:=zB hown4
     have z4:w2.heap.size+1<w4.heap.size:=by have:=hgrow4.size; simp at this; omega
     clear hown4 hgrow4 hnil4 HO t0 t1 hcv hbel hl4 ho
     go_wp2_with fail
     refine ⟨⟨j+1,g4,c4,by omega,by go_num,hne4,World.cell?_setCell_same _ _ _ s0,(World.frozen?_setCell _ _ _ _).trans s1,zB ((zA HO4).kept (ze (zAE _ _ _ _)) (Or.inr (by simp [Value.ownBlock]; omega))),by simp; omega,hbel4.setCell (by simp) _⟩,by simp [intOf]; omega⟩
   ·have hjn:=zB (show j=500+v%2 by omega)
    have e1:¬ (j:Int)<500+(v:Int)%2:=by omega
    have q0:wr.cell? ⟨w.heap.size+1,0,none⟩=some (.slice none 0 0):=(hbel.cell (p:=⟨w.heap.size+1,0,none⟩) (by simp; omega)).trans r0
    have q1:wr.frozen? ⟨w.heap.size+1,0,none⟩=false:=(hbel.frozen (p:=⟨w.heap.size+1,0,none⟩) (by simp; omega)).trans r1
    go_wp2_with fail
    obtain ⟨hgo1,hgo2⟩:=zBi (zA HO)
    have ht:zCl xs bs p=ZZ v j:=by
     unfold zCl
     rw [if_pos hb,<- zA HV,zA hjn]
    have hpp:zCm xs bs p=adv bs (adv bs p):=by
     unfold zCm
     rw [if_pos hb]
    rw [ht,hpp]
    refine bodyPost_ret (v:=.agg #[.slice (some ⟨go,0,none⟩) (ZZ v j).length co]) ?res rfl ⟨⟨go,⟨co,rfl⟩,Or.inr (by omega),?_⟩,zB ?_,zB ?_⟩
    case res=>simp [results,Tryz.results62,go_sem,q0]
    ·exact hgo2.setCell _ _ (by simp; omega)
    ·exact ((zA H2).below hbel).set _ _ _ (by omega)
    ·exact ((ZP.of1 (zA HW)).below hbel).setNew _ _ (by omega)
 ·have hx0:xs.length=0:=by
   rcases hb with h | h
   ·exact absurd (by rw [zA HK]; exact h) hbig
   ·exact h
  have e0:((k:Int)%8==7)=false:=by simp; omega
  have e9:((xs.length:Int)==0)=true:=by simp [hx0]
  have hn:(500:Int)+(v:Int)%2<=501:=by omega
  go_wp2_with fail
  have HO0:=zB (show ((w2.alloc (.cells #[] 123)).alloc (.cells #[.slice (some ⟨w2.heap.size,0,none⟩) 0 0] 25)).ownsRow w2.heap.size 123 4 (.slice (some ⟨w2.heap.size,0,none⟩) 0 0) 0 [] by
   have:=(World.ownsRow_lit (base:=w2.heap.size) (e:=123) (size:=4) w2 #[] 0 (Nat.le_refl _) (Nat.zero_le _) rfl).alloc (.cells #[.slice (some ⟨w2.heap.size,0,none⟩) 0 0] 25)
   simpa using this)
  go_loopw [9] (fun i wr=>∃ (j go co:Nat),j<=500+v%2/\i = .int .i64 (j:Int)/\go≠w2.heap.size+1/\wr.cell? ⟨w2.heap.size+1,0,none⟩=some (.slice (some ⟨go,0,none⟩) (ZZ v j).length co)/\wr.frozen? ⟨w2.heap.size+1,0,none⟩=false/\Hid (wr.ownsRow w2.heap.size 123 4 (.slice (some ⟨go,0,none⟩) (ZZ v j).length co) (ZZ v j).length (ZU (ZZ v j)))/\w2.heap.size+1<wr.heap.size/\Below w2.heap.size w2 wr) (fun i _=>500+v%2-(intOf i).toNat)
  case atStart=>exact ⟨0,w2.heap.size,0,Nat.zero_le _,rfl,by omega,by simp [go_sem,ZZ],by simp [go_sem],HO0,by simp,(zC _ _).alloc (by simp) _⟩
  case round=>
   clear HO0
   obtain ⟨j,go,co,hj,rfl,hgT,t0,t1,HO,zr,hbel⟩:=hrel
   by_cases hlt:j<500+v%2
   ·have e1:(j:Int)<500+(v:Int)%2:=by omega
    obtain ⟨m0,HM0⟩:∃ m:Nat,Hid (m=j%10):=⟨_,zB rfl⟩
    obtain ⟨m1,HM1⟩:∃ m:Nat,Hid (m=j/10%10):=⟨_,zB rfl⟩
    obtain ⟨m2,HM2⟩:∃ m:Nat,Hid (m=j/100):=⟨_,zB rfl⟩
    have f0:(j:Int)%10=(m0:Int):=by have:=zA HM0; omega
    have f1:(j:Int)/10%10=(m1:Int):=by have:=zA HM1; omega
    have f2:(j:Int)/100=(m2:Int):=by have:=zA HM2; omega
    have g0:(m0:Int)<10:=by omega
    have g1:(m1:Int)<10:=by omega
    have g2:(m2:Int)<10:=by omega
    have g0':m0<10:=by omega
    have g1':m1<10:=by omega
    have g2':m2<10:=by omega
    have hsz:(⟨#[43,45,42,47,60,62,61,33,38,124]⟩:ByteArray).size=10:=rfl
    have g0s:(m0:Int)<((⟨#[43,45,42,47,60,62,61,33,38,124]⟩:ByteArray).size:Int):=g0
    have g1s:(m1:Int)<((⟨#[43,45,42,47,60,62,61,33,38,124]⟩:ByteArray).size:Int):=g1
    have g2s:(m2:Int)<((⟨#[43,45,42,47,60,62,61,33,38,124]⟩:ByteArray).size:Int):=g2
    have hcv:=fun x y z=>zNK wr x y z
    go_wp2_with fail
    have hbl:(ZZ v j).length<=501:=by rw [zFe]; omega
    go_region
    go_wp2_with (at_builtin; refine wpList_append_own _ rfl (.tmp 49) (.tmp 62) 23 rfl w2.heap.size 123 i0 _ 4 40 Tryz.underlying23 (zA HI) (zA HZ).1 (zA HZ).2.1 (zA HZ).2.2 rfl (by decide) _ (ZZ v j).length (ZU (ZZ v j)) rfl (((zA HO).alloc _).alloc _).drew ⟨wr.heap.size+1,0,none⟩ 1 1 (ZU [(⟨⟨#[(⟨#[43,45,42,47,60,62,61,33,38,124]⟩:ByteArray)[m0],(⟨#[43,45,42,47,60,62,61,33,38,124]⟩:ByteArray)[m1],(⟨#[43,45,42,47,60,62,61,33,38,124]⟩:ByteArray)[m2]]⟩,2,1+(j:Int)/3,1+((j:Int)/3+(v:Int)/2)%3⟩:OpR)]) rfl rfl (zIE wr _ (⟨⟨#[(⟨#[43,45,42,47,60,62,61,33,38,124]⟩:ByteArray)[m0],(⟨#[43,45,42,47,60,62,61,33,38,124]⟩:ByteArray)[m1],(⟨#[43,45,42,47,60,62,61,33,38,124]⟩:ByteArray)[m2]]⟩,2,1+(j:Int)/3,1+((j:Int)/3+(v:Int)/2)%3⟩:OpR)) (zCV _) ?b1 ?b2 ?b3 ?next)
    case b1=>unfold maxLen; omega
    case b2=>omega
    case b3=>simp; omega
    case next=>
     intro v4 w4 hown4 hgrow4 hnil4
     obtain ⟨g4,c4,rfl⟩:=zDO hown4 (by simp [hnil4])
     have ho:(⟨⟨#[(⟨#[43,45,42,47,60,62,61,33,38,124]⟩:ByteArray)[m0],(⟨#[43,45,42,47,60,62,61,33,38,124]⟩:ByteArray)[m1],(⟨#[43,45,42,47,60,62,61,33,38,124]⟩:ByteArray)[m2]]⟩,2,1+(j:Int)/3,1+((j:Int)/3+(v:Int)/2)%3⟩:OpR)=zGx v j:=by
      have h0:=zA HM0
      have h1:=zA HM1
      have h2:=zA HM2
      unfold zGx
      rw [zIF m0 g0',zIF m1 g1',zIF m2 g2',h0,h1,h2]
      congr 1
     have hl4:(ZZ v j).length+1=(ZZ v (j+1)).length:=by rw [zDQ]; simp
     rw [ho,<- zCk,<- zDQ,hl4] at hown4
     rw [hl4]
     have hgo:=(zA HO).lt go rfl
     have hbel4:Below w2.heap.size w2 w4:=(((hbel.alloc hbel.size _).alloc (by have:=hbel.size; simp; omega) _).drew).grown hgrow4 (by have:=hbel.size; simp; omega) (fun q hq=>by simp [Value.ownBlock] at hq; omega)
     have s0:w4.cell? ⟨w2.heap.size+1,0,none⟩=some (.slice (some ⟨go,0,none⟩) (ZZ v j).length co):=by
      refine (hgrow4.cell_far ⟨w2.heap.size+1,0,none⟩ (by simp; omega) (by simp [Value.ownBlock]; omega)).trans ?_
      exact ((zC _ _).cell (p:=⟨w2.heap.size+1,0,none⟩) (by simp; omega)).trans (((zC _ _).cell (p:=⟨w2.heap.size+1,0,none⟩) zr).trans t0)
     have s1:w4.frozen? ⟨w2.heap.size+1,0,none⟩=false:=by
      refine (hgrow4.frozen_far ⟨w2.heap.size+1,0,none⟩ (by simp; omega) (by simp [Value.ownBlock]; omega)).trans ?_
      exact ((zC _ _).frozen (p:=⟨w2.heap.size+1,0,none⟩) (by simp; omega)).trans (((zC _ _).frozen (p:=⟨w2.heap.size+1,0,none⟩) zr).trans t1)
     have hne4:g4≠w2.heap.size+1:=zNL (zBi hown4).2 (by omega) s0
     have HO4:=zB hown4
     have z4:w2.heap.size+1<w4.heap.size:=by have:=hgrow4.size; simp at this; omega
     clear hown4 hgrow4 hnil4 HO t0 t1 hcv hbel hl4 ho
     go_wp2_with fail
     refine ⟨⟨j+1,g4,c4,by omega,by go_num,hne4,World.cell?_setCell_same _ _ _ s0,(World.frozen?_setCell _ _ _ _).trans s1,zB ((zA HO4).kept (ze (zAE _ _ _ _)) (Or.inr (by simp [Value.ownBlock]; omega))),by simp; omega,hbel4.setCell (by simp) _⟩,by simp [intOf]; omega⟩
   ·have hjn:=zB (show j=500+v%2 by omega)
    have e1:¬ (j:Int)<500+(v:Int)%2:=by omega
    have q0:wr.cell? ⟨w.heap.size+1,0,none⟩=some (.slice none 0 0):=(hbel.cell (p:=⟨w.heap.size+1,0,none⟩) (by simp; omega)).trans r0
    have q1:wr.frozen? ⟨w.heap.size+1,0,none⟩=false:=(hbel.frozen (p:=⟨w.heap.size+1,0,none⟩) (by simp; omega)).trans r1
    go_wp2_with fail
    obtain ⟨hgo1,hgo2⟩:=zBi (zA HO)
    have ht:zCl xs bs p=ZZ v j:=by
     unfold zCl
     rw [if_pos hb,<- zA HV,zA hjn]
    have hpp:zCm xs bs p=adv bs (adv bs p):=by
     unfold zCm
     rw [if_pos hb]
    rw [ht,hpp]
    refine bodyPost_ret (v:=.agg #[.slice (some ⟨go,0,none⟩) (ZZ v j).length co]) ?res rfl ⟨⟨go,⟨co,rfl⟩,Or.inr (by omega),?_⟩,zB ?_,zB ?_⟩
    case res=>simp [results,Tryz.results62,go_sem,q0]
    ·exact hgo2.setCell _ _ (by simp; omega)
    ·exact ((zA H2).below hbel).set _ _ _ (by omega)
    ·exact ((ZP.of1 (zA HW)).below hbel).setNew _ _ (by omega)
theorem zGM (rp cap p g c:Nat) (a:Option Addr) (bs:List UInt8) (xs:List OpR) (w:World) (h:RdF w rp a cap bs p) (hl:bs.length<=1200) (hm:xs.length<=10) (hx:zt w g xs xs.length) (hne:rp<g) (hb:¬ (nxt bs p%8=7\/xs.length=0)) (hsx:∀ i,i<xs.length->(atO xs i).s.size<=1000) :
  Calls Tryz.prog 62 #[.pointer (some ⟨rp,0,none⟩),.agg #[.slice (some ⟨g,0,none⟩) xs.length c]] w fun e w'=>(∃ g' c',e = .returned (.agg #[.slice (some ⟨g',0,none⟩) (zCl xs bs p).length c'])/\(g'=g\/w.heap.size<=g')/\zt w' g' (zCl xs bs p) (zCl xs bs p).length)/\Hid (RdF w' rp a cap bs (zCm xs bs p))/\Hid (ZP w w' rp g):=by
 have hrpw:=h.lt
 have hgw:=hx.1
 have H:=zB h
 clear h
 go_enter Tryz.func62,Tryz.ntmps62
 go_wp2_with fail
 refine (zBU rp cap p a bs _ (((zA H).below (zC _ _)).below (zC _ _)) hl).mono ?_
 rintro e w1 ⟨⟨k,rfl,hk,HK⟩,H1,HP1⟩
 go_wp2_with fail
 refine (zBU rp cap _ a bs _ (zA H1) hl).mono ?_
 rintro e w2 ⟨⟨v,rfl,hv,HV⟩,H2,HP2⟩
 have HP:=zB ((zA HP1).trans (zA HP2))
 have z2:w.heap.size+2<=w2.heap.size:=by have:=(zA HP).size; simpa using this
 have b0:w2.cell? ⟨w.heap.size,0,none⟩=some (.slice (some ⟨g,0,none⟩) xs.length c):=((zA HP).cell (b:=w.heap.size) (by simp; omega) (by omega) 0).trans (by simp [go_sem])
 have r0:w2.cell? ⟨w.heap.size+1,0,none⟩=some (.slice none 0 0):=((zA HP).cell (b:=w.heap.size+1) (by simp) (by omega) 0).trans (by simp [go_sem])
 have r1:w2.frozen? ⟨w.heap.size+1,0,none⟩=false:=((zA HP).frozen (b:=w.heap.size+1) (by simp) (by omega) 0).trans (by simp [go_sem])
 have HW:=zB (show zE w w2 rp from ((zE.of_below ((zC _ _).alloc (by simp) _))).trans (zA HP))
 have HX:=zB ((zA HW).filled hx (by omega))
 clear H H1 HP1 HP2 HP hx
 have hlen:1<=xs.length:=by omega
 have hk7:k%8≠7:=by have:=zA HK; omega
 have HB:=zB hb
 clear hb
 obtain ⟨i,HI⟩:∃ i,Hid (i=v%xs.length):=⟨_,zB rfl⟩
 have hi:i<xs.length:=by rw [zA HI]; exact Nat.mod_lt _ (by omega)
 have hiI:(i:Int)<(xs.length:Int):=by omega
 have hsi:=hsx i hi
 clear hsx
 have emod:(v:Int)%(xs.length:Int)=(i:Int):=by rw [zA HI]; exact (Int.natCast_emod v xs.length).symm
 have hl0:¬ (xs.length:Int)=0:=by omega
 have hl0':((xs.length:Int)==0)=false:=by simpa using hl0
 have e7:((k:Int)%8==7)=false:=by simp; omega
 obtain ⟨x0,x1,x2,x3⟩:=(zA HX).ops i hi
 simp only [Nat.zero_add] at x0 x1 x2 x3
 have hgw2:g<w2.heap.size:=(zA HX).1
 obtain ⟨y0,y1,y2,y3⟩:w2.frozen? ⟨g,i*4,none⟩=false/\w2.frozen? ⟨g,i*4+1,none⟩=false/\w2.frozen? ⟨g,i*4+2,none⟩=false/\w2.frozen? ⟨g,i*4+3,none⟩=false:=by
  have h:=(zA HX).2.1
  have f:∀ j,j<4->w2.frozen? ⟨g,i*4+j,none⟩=false:=fun j hj=>by
   have:=(h (i*4+j) (by omega)).2
   simpa using this
  exact ⟨f 0 (by omega),f 1 (by omega),f 2 (by omega),f 3 (by omega)⟩
 have hT:w.heap.size<w2.heap.size:=by omega
 have hR:w.heap.size+1<w2.heap.size:=by omega
 have n1:¬ g=w.heap.size:=by omega
 have n2:¬ w.heap.size=g:=by omega
 have n3:¬ g=w.heap.size+1:=by omega
 have n4:¬ w.heap.size+1=g:=by omega
 have n5:¬ w2.heap.size=g:=by omega
 have n6:¬ g=w2.heap.size:=by omega
 have hcase:k%8=0\/k%8=1\/k%8=2\/k%8=3\/k%8=4\/k%8=5\/k%8=6:=by omega
 have HIX:=zB (show zCl xs bs p=xs.set i (zBk k (atO xs i) (Z6 (nxt bs (adv bs (adv bs p))) (nxt bs (adv bs (adv bs (adv bs p)))) false)) by
  unfold zCl
  rw [if_neg (zA HB),<- zA HV,<- zA HI,<- zA HK])
 rcases hcase with hc | hc | hc | hc | hc | hc | hc
 ·have e8:(k:Int)%8=0:=by omega
  clear hk7 e7
  have HO:=zB (show zBk k (atO xs i) (Z6 (nxt bs (adv bs (adv bs p))) (nxt bs (adv bs (adv bs (adv bs p)))) false)=⟨(⟨#[43,45,43,45,43,45,43,45,43,45,43,45,43,45,43,45,43]⟩:ByteArray).extract 0 (16+k/8%2),(atO xs i).k,(atO xs i).l,(atO xs i).sd⟩ by simp [zBk,hc])
  have HPP:=zB (show zCm xs bs p=adv bs (adv bs p) by
   unfold zCm
   rw [if_neg (zA HB),if_neg (by rw [<- zA HK]; omega)])
  go_wp2_with fail
  rw [zA HIX,zA HPP,List.length_set,zA HO]
  have hF:=(zA HX).put hi ⟨(⟨#[43,45,43,45,43,45,43,45,43,45,43,45,43,45,43,45,43]⟩:ByteArray).extract 0 (16+k/8%2),(atO xs i).k,(atO xs i).l,(atO xs i).sd⟩
  rw [List.length_set] at hF
  refine bodyPost_ret (v:=.agg #[.slice (some ⟨g,0,none⟩) xs.length c]) ?res rfl ⟨⟨g,c,rfl,Or.inl rfl,?_⟩,zB ?_,zB ?_⟩
  case res=>simp [results,Tryz.results62,go_sem,r0,n3,n4,hR]
  ·exact (hF.setCell ⟨w.heap.size+1,0,none⟩ _ (by simp; omega)).below (zC _ _) (by simpa [World.setCells,World.setCell] using hgw2)
  ·exact ((((((zA H2).set g _ _ hne).set g _ _ hne).set g _ _ hne).set g _ _ hne).set (w.heap.size+1) _ _ (by omega)).below (zC _ _)
  ·exact ((((((ZP.of1 (zA HW)).setG _ _).setG _ _).setG _ _).setG _ _).setNew (b:=w.heap.size+1) _ _ (by omega)).below (zC _ _)
 ·have e8:(k:Int)%8=1:=by omega
  clear hk7 e7
  have HO:=zB (show zBk k (atO xs i) (Z6 (nxt bs (adv bs (adv bs p))) (nxt bs (adv bs (adv bs (adv bs p)))) false)=⟨(atO xs i).s++⟨#[UInt8.ofNat k]⟩,(atO xs i).k,(atO xs i).l,(atO xs i).sd⟩ by simp [zBk,hc])
  have HPP:=zB (show zCm xs bs p=adv bs (adv bs p) by
   unfold zCm
   rw [if_neg (zA HB),if_neg (by rw [<- zA HK]; omega)])
  have hcv:(convert 22 9 (.slice (some ⟨w2.heap.size+1,0,none⟩) 1 1)).run Tryz.prog ((w2.alloc (.cells #[.string (atO xs i).s,.int .i64 (atO xs i).k,.int .i64 (atO xs i).l,.int .i64 (atO xs i).sd] 123)).alloc (.cells #[.int .u8 (k:Int)] 5)) = .ok (.string ⟨#[UInt8.ofNat k]⟩) ((w2.alloc (.cells #[.string (atO xs i).s,.int .i64 (atO xs i).k,.int .i64 (atO xs i).l,.int .i64 (atO xs i).sd] 123)).alloc (.cells #[.int .u8 (k:Int)] 5)):=by
   have:=zKu (w2.alloc (.cells #[.string (atO xs i).s,.int .i64 (atO xs i).k,.int .i64 (atO xs i).l,.int .i64 (atO xs i).sd] 123)) (k:Int)
   simpa using this
  go_wp2_with fail
  rw [zA HIX,zA HPP,List.length_set,zA HO]
  have hF:=(zA HX).put hi ⟨(atO xs i).s++⟨#[UInt8.ofNat k]⟩,(atO xs i).k,(atO xs i).l,(atO xs i).sd⟩
  rw [List.length_set] at hF
  refine bodyPost_ret (v:=.agg #[.slice (some ⟨g,0,none⟩) xs.length c]) ?res rfl ⟨⟨g,c,rfl,Or.inl rfl,?_⟩,zB ?_,zB ?_⟩
  case res=>
   have hR2:w.heap.size+1<w2.heap.size+1:=by omega
   have hR3:w.heap.size<w2.heap.size:=by omega
   simp [results,Tryz.results62,go_sem,r0,n3,n4,hR,hR2,hR3]
  ·exact (hF.setCell ⟨w.heap.size+1,0,none⟩ _ (by simp; omega)).below ((zC _ _).alloc (by simp) _) (by simpa [World.setCells,World.setCell] using hgw2)
  ·exact ((((((zA H2).set g _ _ hne).set g _ _ hne).set g _ _ hne).set g _ _ hne).set (w.heap.size+1) _ _ (by omega)).below ((zC _ _).alloc (by simp) _)
  ·exact ((((((ZP.of1 (zA HW)).setG _ _).setG _ _).setG _ _).setG _ _).setNew (b:=w.heap.size+1) _ _ (by omega)).below ((zC _ _).alloc (by simp) _)
 ·have e8:(k:Int)%8=2:=by omega
  clear hk7 e7
  have HO:=zB (show zBk k (atO xs i) (Z6 (nxt bs (adv bs (adv bs p))) (nxt bs (adv bs (adv bs (adv bs p)))) false)=⟨⟨#[]⟩,(atO xs i).k,(atO xs i).l,(atO xs i).sd⟩ by simp [zBk,hc])
  have HPP:=zB (show zCm xs bs p=adv bs (adv bs p) by
   unfold zCm
   rw [if_neg (zA HB),if_neg (by rw [<- zA HK]; omega)])
  go_wp2_with fail
  rw [zA HIX,zA HPP,List.length_set,zA HO]
  have hF:=(zA HX).put hi ⟨⟨#[]⟩,(atO xs i).k,(atO xs i).l,(atO xs i).sd⟩
  rw [List.length_set] at hF
  refine bodyPost_ret (v:=.agg #[.slice (some ⟨g,0,none⟩) xs.length c]) ?res rfl ⟨⟨g,c,rfl,Or.inl rfl,?_⟩,zB ?_,zB ?_⟩
  case res=>simp [results,Tryz.results62,go_sem,r0,n3,n4,hR]
  ·exact (hF.setCell ⟨w.heap.size+1,0,none⟩ _ (by simp; omega)).below (zC _ _) (by simpa [World.setCells,World.setCell] using hgw2)
  ·exact ((((((zA H2).set g _ _ hne).set g _ _ hne).set g _ _ hne).set g _ _ hne).set (w.heap.size+1) _ _ (by omega)).below (zC _ _)
  ·exact ((((((ZP.of1 (zA HW)).setG _ _).setG _ _).setG _ _).setG _ _).setNew (b:=w.heap.size+1) _ _ (by omega)).below (zC _ _)
 ·have e8:(k:Int)%8=3:=by omega
  clear hk7 e7
  have HO:=zB (show zBk k (atO xs i) (Z6 (nxt bs (adv bs (adv bs p))) (nxt bs (adv bs (adv bs (adv bs p)))) false)=⟨(atO xs i).s,(atO xs i).k,1001*((k/8%2:Nat):Int),(atO xs i).sd⟩ by simp [zBk,hc])
  have HPP:=zB (show zCm xs bs p=adv bs (adv bs p) by
   unfold zCm
   rw [if_neg (zA HB),if_neg (by rw [<- zA HK]; omega)])
  go_wp2_with fail
  rw [zA HIX,zA HPP,List.length_set,zA HO]
  have hF:=(zA HX).put hi ⟨(atO xs i).s,(atO xs i).k,1001*((k/8%2:Nat):Int),(atO xs i).sd⟩
  rw [List.length_set] at hF
  refine bodyPost_ret (v:=.agg #[.slice (some ⟨g,0,none⟩) xs.length c]) ?res rfl ⟨⟨g,c,rfl,Or.inl rfl,?_⟩,zB ?_,zB ?_⟩
  case res=>simp [results,Tryz.results62,go_sem,r0,n3,n4,hR]
  ·exact (hF.setCell ⟨w.heap.size+1,0,none⟩ _ (by simp; omega)).below (zC _ _) (by simpa [World.setCells,World.setCell] using hgw2)
  ·exact ((((((zA H2).set g _ _ hne).set g _ _ hne).set g _ _ hne).set g _ _ hne).set (w.heap.size+1) _ _ (by omega)).below (zC _ _)
  ·exact ((((((ZP.of1 (zA HW)).setG _ _).setG _ _).setG _ _).setG _ _).setNew (b:=w.heap.size+1) _ _ (by omega)).below (zC _ _)
 ·have e8:(k:Int)%8=4:=by omega
  clear hk7 e7
  have HO:=zB (show zBk k (atO xs i) (Z6 (nxt bs (adv bs (adv bs p))) (nxt bs (adv bs (adv bs (adv bs p)))) false)=⟨(atO xs i).s,((k/8%5:Nat):Int),(atO xs i).l,(atO xs i).sd⟩ by simp [zBk,hc])
  have HPP:=zB (show zCm xs bs p=adv bs (adv bs p) by
   unfold zCm
   rw [if_neg (zA HB),if_neg (by rw [<- zA HK]; omega)])
  go_wp2_with fail
  rw [zA HIX,zA HPP,List.length_set,zA HO]
  have hF:=(zA HX).put hi ⟨(atO xs i).s,((k/8%5:Nat):Int),(atO xs i).l,(atO xs i).sd⟩
  rw [List.length_set] at hF
  refine bodyPost_ret (v:=.agg #[.slice (some ⟨g,0,none⟩) xs.length c]) ?res rfl ⟨⟨g,c,rfl,Or.inl rfl,?_⟩,zB ?_,zB ?_⟩
  case res=>simp [results,Tryz.results62,go_sem,r0,n3,n4,hR]
  ·exact (hF.setCell ⟨w.heap.size+1,0,none⟩ _ (by simp; omega)).below (zC _ _) (by simpa [World.setCells,World.setCell] using hgw2)
  ·exact ((((((zA H2).set g _ _ hne).set g _ _ hne).set g _ _ hne).set g _ _ hne).set (w.heap.size+1) _ _ (by omega)).below (zC _ _)
  ·exact ((((((ZP.of1 (zA HW)).setG _ _).setG _ _).setG _ _).setG _ _).setNew (b:=w.heap.size+1) _ _ (by omega)).below (zC _ _)
 ·have e8:(k:Int)%8=5:=by omega
  clear hk7 e7
  have HO:=zB (show zBk k (atO xs i) (Z6 (nxt bs (adv bs (adv bs p))) (nxt bs (adv bs (adv bs (adv bs p)))) false)=⟨(atO xs i).s,(atO xs i).k,(atO xs i).l,((k/8%5:Nat):Int)-1⟩ by simp [zBk,hc])
  have HPP:=zB (show zCm xs bs p=adv bs (adv bs p) by
   unfold zCm
   rw [if_neg (zA HB),if_neg (by rw [<- zA HK]; omega)])
  go_wp2_with fail
  rw [zA HIX,zA HPP,List.length_set,zA HO]
  have hF:=(zA HX).put hi ⟨(atO xs i).s,(atO xs i).k,(atO xs i).l,((k/8%5:Nat):Int)-1⟩
  rw [List.length_set] at hF
  refine bodyPost_ret (v:=.agg #[.slice (some ⟨g,0,none⟩) xs.length c]) ?res rfl ⟨⟨g,c,rfl,Or.inl rfl,?_⟩,zB ?_,zB ?_⟩
  case res=>simp [results,Tryz.results62,go_sem,r0,n3,n4,hR]
  ·exact (hF.setCell ⟨w.heap.size+1,0,none⟩ _ (by simp; omega)).below (zC _ _) (by simpa [World.setCells,World.setCell] using hgw2)
  ·exact ((((((zA H2).set g _ _ hne).set g _ _ hne).set g _ _ hne).set g _ _ hne).set (w.heap.size+1) _ _ (by omega)).below (zC _ _)
  ·exact ((((((ZP.of1 (zA HW)).setG _ _).setG _ _).setG _ _).setG _ _).setNew (b:=w.heap.size+1) _ _ (by omega)).below (zC _ _)
 ·have e8:(k:Int)%8=6:=by omega
  clear hk7 e7
  have HPP:=zB (show zCm xs bs p=adv bs (adv bs (adv bs (adv bs p))) by
   unfold zCm
   rw [if_neg (zA HB),if_pos (by rw [<- zA HK]; omega)])
  go_wp2_with fail
  refine (zER rp cap _ false a bs _ ((zA H2).below (zC _ _)) hl).mono ?_
  rintro e w4 ⟨⟨o,rfl,ho⟩,H4,HK4⟩
  have HO:=zB (show zBk k (atO xs i) (Z6 (nxt bs (adv bs (adv bs p))) (nxt bs (adv bs (adv bs (adv bs p)))) false)=o by rw [zA ho]; simp [zBk,hc])
  have z4:w2.heap.size+1<=w4.heap.size:=by have:=(zA HK4).size; simpa using this
  have kc:∀ b j,b<w2.heap.size->b≠rp->w4.cell? ⟨b,j,none⟩=w2.cell? ⟨b,j,none⟩:=fun b j hb hr=>((zA HK4).cell (b:=b) (by simp; omega) hr j).trans ((zC _ _).cell (p:=⟨b,j,none⟩) hb)
  have kf:∀ b j,b<w2.heap.size->b≠rp->w4.frozen? ⟨b,j,none⟩=w2.frozen? ⟨b,j,none⟩:=fun b j hb hr=>((zA HK4).frozen (b:=b) (by simp; omega) hr j).trans ((zC _ _).frozen (p:=⟨b,j,none⟩) hb)
  have X0:=(kc g (i*4) hgw2 (by omega)).trans x0
  have X1:=(kc g (i*4+1) hgw2 (by omega)).trans x1
  have X2:=(kc g (i*4+2) hgw2 (by omega)).trans x2
  have X3:=(kc g (i*4+3) hgw2 (by omega)).trans x3
  have Y0:=(kf g (i*4) hgw2 (by omega)).trans y0
  have Y1:=(kf g (i*4+1) hgw2 (by omega)).trans y1
  have Y2:=(kf g (i*4+2) hgw2 (by omega)).trans y2
  have Y3:=(kf g (i*4+3) hgw2 (by omega)).trans y3
  have B0:=(kc w.heap.size 0 (by omega) (by omega)).trans b0
  have R0:=(kc (w.heap.size+1) 0 (by omega) (by omega)).trans r0
  have R1:=(kf (w.heap.size+1) 0 (by omega) (by omega)).trans r1
  have o0:w4.cell? ⟨w2.heap.size,0,none⟩=some (.string (atO xs i).s):=((zA HK4).cell (b:=w2.heap.size) (by simp) (by omega) 0).trans (by simp [go_sem])
  have o1:w4.cell? ⟨w2.heap.size,1,none⟩=some (.int .i64 (atO xs i).k):=((zA HK4).cell (b:=w2.heap.size) (by simp) (by omega) 1).trans (by simp [go_sem])
  have o2:w4.cell? ⟨w2.heap.size,2,none⟩=some (.int .i64 (atO xs i).l):=((zA HK4).cell (b:=w2.heap.size) (by simp) (by omega) 2).trans (by simp [go_sem])
  have o3:w4.cell? ⟨w2.heap.size,3,none⟩=some (.int .i64 (atO xs i).sd):=((zA HK4).cell (b:=w2.heap.size) (by simp) (by omega) 3).trans (by simp [go_sem])
  have f0:w4.frozen? ⟨w2.heap.size,0,none⟩=false:=((zA HK4).frozen (b:=w2.heap.size) (by simp) (by omega) 0).trans (by simp [go_sem])
  have f1:w4.frozen? ⟨w2.heap.size,1,none⟩=false:=((zA HK4).frozen (b:=w2.heap.size) (by simp) (by omega) 1).trans (by simp [go_sem])
  have f2:w4.frozen? ⟨w2.heap.size,2,none⟩=false:=((zA HK4).frozen (b:=w2.heap.size) (by simp) (by omega) 2).trans (by simp [go_sem])
  have f3:w4.frozen? ⟨w2.heap.size,3,none⟩=false:=((zA HK4).frozen (b:=w2.heap.size) (by simp) (by omega) 3).trans (by simp [go_sem])
  have n7:¬ w2.heap.size=w.heap.size:=by omega
  have n8:¬ w.heap.size=w2.heap.size:=by omega
  have n9:¬ w2.heap.size=w.heap.size+1:=by omega
  have n10:¬ w.heap.size+1=w2.heap.size:=by omega
  clear kc kf
  go_wp2_with fail
  rw [zA HIX,zA HPP,List.length_set,zA HO]
  have hX4:zt w4 g xs xs.length:=(zA HK4).filled ((zA HX).below (zC _ _) hgw2) (by omega)
  have hF:=((((hX4.setCell ⟨w2.heap.size,0,none⟩ (.string o.s) (by simp; omega)).setCell ⟨w2.heap.size,1,none⟩ (.int .i64 o.k) (by simp; omega)).setCell ⟨w2.heap.size,2,none⟩ (.int .i64 o.l) (by simp; omega)).setCell ⟨w2.heap.size,3,none⟩ (.int .i64 o.sd) (by simp; omega)).put hi o
  rw [List.length_set] at hF
  refine bodyPost_ret (v:=.agg #[.slice (some ⟨g,0,none⟩) xs.length c]) ?res rfl ⟨⟨g,c,rfl,Or.inl rfl,?_⟩,zB ?_,zB ?_⟩
  case res=>simp [results,Tryz.results62,go_sem,R0,n3,n4,n9,n10]
  ·exact hF.setCell ⟨w.heap.size+1,0,none⟩ _ (by simp; omega)
  ·exact (((((((((zA H4).set w2.heap.size _ _ (by omega)).set w2.heap.size _ _ (by omega)).set w2.heap.size _ _ (by omega)).set w2.heap.size _ _ (by omega)).set g _ _ hne).set g _ _ hne).set g _ _ hne).set g _ _ hne).set (w.heap.size+1) _ _ (by omega)
  ·exact (((((((((((ZP.of1 (zA HW)).below (zC _ _)).step (zA HK4)).setNew (b:=w2.heap.size) _ _ (by omega)).setNew (b:=w2.heap.size) _ _ (by omega)).setNew (b:=w2.heap.size) _ _ (by omega)).setNew (b:=w2.heap.size) _ _ (by omega)).setG _ _).setG _ _).setG _ _).setG _ _).setNew (b:=w.heap.size+1) _ _ (by omega)
theorem zJR (rp cap p g c:Nat) (a:Option Addr) (bs:List UInt8) (xs:List OpR) (w:World) (h:RdF w rp a cap bs p) (hl:bs.length<=1200) (hm:xs.length<=10) (hx:zt w g xs xs.length) (hne:rp<g) (hsx:∀ i,i<xs.length->(atO xs i).s.size<=1000) :
  Calls Tryz.prog 62 #[.pointer (some ⟨rp,0,none⟩),.agg #[.slice (some ⟨g,0,none⟩) xs.length c]] w fun e w'=>(∃ g' c',e = .returned (.agg #[.slice (some ⟨g',0,none⟩) (zCl xs bs p).length c'])/\(g'=g\/w.heap.size<=g')/\zt w' g' (zCl xs bs p) (zCl xs bs p).length)/\Hid (RdF w' rp a cap bs (zCm xs bs p))/\Hid (ZP w w' rp g):=by
 by_cases hb:nxt bs p%8=7\/xs.length=0
 ·exact zGL rp cap p g c a bs xs w h hl hm hx hne hb
 ·exact zGM rp cap p g c a bs xs w h hl hm hx hne hb hsx
end Go.Proofs.YtfboipappaonhaaGreat
