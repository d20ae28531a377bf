import Derived.Test.YtokabkhnidlcnacGreatDoorM03
import Derived.Test.YtokabkhnidlcnacGreatDoorM04
import Derived.Test.YtokabkhnidlcnacGreatDoorM10
import Derived.Test.YtokabkhnidlcnacGreatDoorM40
import Derived.Test.YtokabkhnidlcnacGreatDoorM41
namespace Go.Proofs.YtokabkhnidlcnacGreatDoor
set_option linter.unusedSimpArgs false
set_option linter.unusedVariables false
set_option maxHeartbeats 16000000
set_option maxRecDepth 100000
open Go.RowKit
def zNw:Value -> Value -> Nat
 | .string r,.bool true=>r.size + 1
 | _,_=>0
theorem zPP {s:ByteArray} (h:20000 < s.size):zq s [] [] ByteArray.empty 1 0:=Or.inl ⟨h,rfl,rfl,rfl,rfl,rfl⟩
theorem zEz (s:ByteArray) (w:World) (hs:s.size <= maxLen) (hm:zEy w) :
  Calls Tryz.prog 138 #[.string s] w (zD7 w s):=by
 by_cases hlong:20000 < s.size
 ·have hlI:(20000:Int) < (s.size:Int):=by omega
  have HP:=zB (fun w'=>Zs (w:=w) (w':=w') (zPP hlong))
  unfold maxLen at hs
  clear hlong
  go_enter Tryz.func138,Tryz.ntmps138
  go_wp2
  refine bodyPost_ret (v:=.tuple #[.agg #[.slice none 0 0,.slice none 0 0,.string ⟨#[]⟩],.int .i64 1,.int .i64 0]) ?res rfl ((zA HP) _ ?_)
  case res=>simp [results,Tryz.results138,go_sem]
  first
   | exact zC _ _
   | exact zH (Nat.le_refl _) [.slice none 0 0,.slice none 0 0,.string ⟨#[]⟩] 0 _ (zC _ _)
 have hs2:s.size <= 20000:=by omega
 have hlI:¬ (20000:Int) < (s.size:Int):=by omega
 have HM:=zB hm
 have hmg:=hm.lt
 clear hm hlong hs
 go_enter Tryz.func138,Tryz.ntmps138
 go_wp2_with fail
 obtain ⟨W0,hW0⟩:∃ W0,W0 = (w.alloc (.cells #[.slice none 0 0,.slice none 0 0,.string ⟨#[]⟩] 64)).alloc (.cells #[.slice none 0 0,.slice none 0 0,.string ⟨#[]⟩] 64):=⟨_,rfl⟩
 have HW0:=zB (show Below w.heap.size w W0 by rw [hW0]; exact (zC _ _).alloc (by simp) _)
 have hz0:w.heap.size + 2 <= W0.heap.size:=by rw [hW0]; simp
 have HZ0:=zB (show zC8 W0 w.heap.size by rw [hW0]; exact ⟨by simp [go_sem],by simp [go_sem],by simp [go_sem],fun o=>by simp [go_sem]⟩)
 have HU0:=zB (show UnM W0 (w.heap.size + 1) (w.heap.size + 1) (.slice none 0 0) (.slice none 0 0) [] [] ⟨#[]⟩ by rw [hW0]; exact ⟨by simp [go_sem],by simp [go_sem],by simp [go_sem],fun o=>by simp [go_sem],Nat.le_refl _,World.ownsRow_nil _ _ _ _,World.ownsRow_nil _ _ _ _,by simp [Value.ownBlock],by simp [Value.ownBlock],fun g e=>by cases e⟩)
 rw [<- hW0]
 clear hW0
 go_loopw [6,7,8] (fun rest more num wr=>∃ (r:ByteArray) (m:Bool) (n:Nat),rest = .string r /\ more = .bool m /\ num = .int .i64 (n:Int) /\ n <= 20002 /\ Below (w.heap.size + 1) W0 wr /\ ((m = false /\ Hid (zq s [] [] ByteArray.empty 3 0)) \/ (m = true /\ ∃ (a:Nat) (us:List ByteArray) (os:List OpR) (vu vo:Value),a <= s.size /\ n <= a + 1 /\ us.length <= a /\ os.length <= a /\ Hid (r = s.extract a s.size) /\ Hid (zCk s (pcs 10 s a) n us os) /\ Hid (UnM wr (w.heap.size + 1) (w.heap.size + 1) vu vo us os ⟨#[]⟩)))) (fun rest more _ _=>zNw rest more)
 case atStart=>exact ⟨s,true,1,rfl,rfl,rfl,by omega,Below.refl _ _,Or.inr ⟨rfl,0,[],[],_,_,Nat.zero_le _,by omega,Nat.le_refl _,Nat.le_refl _,zB (zI1 s).symm,zB (zCk.start hs2),HU0⟩⟩
 case round=>
  clear HU0
  obtain ⟨r,m,n,rfl,rfl,rfl,hn,hbel,hcase⟩:=hrel
  have HBW:=zB (show Below w.heap.size w wr from (zA HW0).trans (hbel.mono (by omega)))
  have hzr:w.heap.size + 2 <= wr.heap.size:=Nat.le_trans hz0 hbel.size
  obtain ⟨y0,y1,y2,y3⟩:=(zA HZ0).below hbel (by omega)
  have HMr:=zB ((zA HM).below (zA HBW))
  rcases hcase with ⟨rfl,HE⟩ | ⟨rfl,a,us,os,vu,vo,ha,hna,hua,hoa,HR,HT,HU⟩
  ·have HP:=zB (fun w'=>Zs (w:=w) (w':=w') (zA HE))
   have y30:=y3 0
   have y31:=y3 1
   have y32:=y3 2
   go_wp2
   refine bodyPost_ret (v:=.tuple #[.agg #[.slice none 0 0,.slice none 0 0,.string ⟨#[]⟩],.int .i64 3,.int .i64 0]) ?res rfl ((zA HP) _ ?_)
   case res=>simp [results,Tryz.results138,go_sem,y0,y1,y2]
   first
    | exact zA HBW
    | exact zH (Nat.le_refl _) [.slice none 0 0,.slice none 0 0,.string ⟨#[]⟩] 0 _ (zA HBW)
  ·obtain ⟨z,hz⟩:∃ z,z = nx 10 s a:=⟨_,rfl⟩
   obtain ⟨g1,g2,g3,g4⟩:=zAJ 10 s a ha
   rw [<- hz] at g1 g2
   have HST:=zA8 10 s a ha
   rw [<- hz] at HST
   obtain ⟨t,ht⟩:∃ t,t = s.extract a z:=⟨_,rfl⟩
   have hts:t.size <= 20000:=by rw [ht,Zp]; omega
   have HCUT:=zB (zQN s r a (zA HR) ha hs2 wr (zA HMr))
   rw [<- hz,<- ht] at HCUT
   have HTT:=zB (HST ▸ zA HT)
   have hrs:r.size = s.size - a:=by rw [zA HR,Zp,Nat.min_self]
   have HRS:=zB hrs
   have HTE:=zB ht
   obtain ⟨mo,hmo⟩:∃ mo,mo = decide (z < s.size):=⟨_,rfl⟩
   rw [<- hmo] at HCUT
   have HMO:=zB hmo
   have HUL:=(zA HU).lt
   have HY3:=zB y3
   have y30:=y3 0
   have y31:=y3 1
   have y32:=y3 2
   clear hz g3 g4 HST ht hrs HT hmo HM HZ0 HR y3
   go_wp2_with fail
   (with_reducible refine (zA HCUT).mono ?_)
   rintro e w1 ⟨rfl,hb1⟩
   have HB1:=zB hb1
   have z1:=hb1.size
   have HWO:=zB (zJz t w1 hts ((zA HMr).below hb1))
   clear hb1 HCUT HMr
   go_wp2_with fail
   (with_reducible refine (zA HWO).mono ?_)
   rintro e w2 ⟨v,rfl,hr2,hl2,hb2⟩
   obtain ⟨ws,hws⟩:∃ ws,ws = wds t:=⟨_,rfl⟩
   rw [<- hws] at hr2 hl2
   have HWS:=zB hws
   have HB2:=zB ((zA HB1).trans (hb2.mono z1))
   have z2:wr.heap.size <= w2.heap.size:=Nat.le_trans z1 hb2.size
   have HU2:=zB ((zA HU).below (zA HB2))
   have HBW2:=zB ((zA HBW).trans ((zA HB2).mono (by omega)))
   have HB02:=zB (show Below (w.heap.size + 1) W0 w2 from hbel.trans ((zA HB2).mono (by omega)))
   have HST:=zB hr2.strs
   have HNE:=zB (show ∀ q,v.ownBlock = some q -> q ≠ w.heap.size + 1 /\ vu.ownBlock ≠ some q from fun q e=>by
    have:=(hr2.lt q e).1
    exact ⟨by omega,fun e2=>by have:=((zA HU).ru.lt q e2).2; omega⟩)
   have HSZ:=zB (show ∀ x ∈ ws,x.size <= maxLen from fun x hx=>by
    have:=zF5 (l:=t) (by rw [<- zA HWS]; exact hx)
    unfold maxLen
    omega)
   obtain ⟨x0,x1,x2,x3⟩:zC8 w2 w.heap.size:=zC8.below ⟨y0,y1,y2,fun o=>(zA HY3) o⟩ (zA HB2) (by omega)
   have x30:=x3 0
   have x31:=x3 1
   have x32:=x3 2
   have hwl:ws.length <= 20001:=by omega
   by_cases hbeg:ws = [Z7]
   ·have HI:=zB (show zq s us os (zAb s z) 0 0 from (zA HTT).begin (by show wds (s.extract a z) = _; rw [<- zA HTE,<- zA HWS]; exact hbeg))
    obtain ⟨gw,c,rfl,hgw,hc⟩:=(zA HST).lt (by rw [hbeg]; simp)
    have k0:w2.cell? ⟨gw,0,none⟩ = some (.string ⟨#[98,101,103,105,110]⟩):=hc 0 _ (by rw [hbeg]; rfl)
    have hl1:ws.length = 1:=by rw [hbeg]; rfl
    rw [hl1]
    obtain ⟨au,cu,rfl⟩:=zM (zA HU2).ru
    obtain ⟨ao,co,rfl⟩:∃ a c,vo = .slice a os.length c:=zM (zA HU2).ro
    have u0:=(zA HU2).c0
    have u1:=(zA HU2).c1
    have u2:=(zA HU2).c2
    have f2:=(zA HU2).fz 2
    obtain ⟨ans,_⟩:=zD8 (b':=zAb s z) (by omega) (zA HU2) (zA HBW2) (zA HI) (by omega) (by omega)
    have HANS:=zB ans
    have e1:w.heap.size + 1 ≠ w.heap.size:=by omega
    have e2:w.heap.size ≠ w.heap.size + 1:=by omega
    clear ans hc hbeg hws hr2 hl2 hb2 x3 HST HNE HSZ HWO HWS hl1
    go_wp2_with fail
    refine bodyPost_ret (v:=.tuple #[.agg #[.slice au us.length cu,.slice ao os.length co,.string (zAb s z)],.int .i64 0,.int .i64 0]) ?res rfl (zA HANS)
    case res=>simp [results,Tryz.results138,go_sem,x0,x1,x2,e1,e2,u0,u1,u2]
   ·have hnb:wds (s.extract a z) ≠ [Z7]:=by rw [<- zA HTE,<- zA HWS]; exact hbeg
    have HTK:=zB (zMJ (w.heap.size + 1) (w.heap.size + 1) vu vo v us os ⟨#[]⟩ ws w2 (zA HU2) (zA HST) (zA HSZ) (zA HNE) (by omega) (by omega) hwl)
    have HBAD:=zB (fun (hl:∀ us' os',¬ Z8 ws us os us' os')=>(zA HTT).bad hnb (by show ∀ us' os',¬ Z8 (wds (s.extract a z)) us os us' os'; rw [<- zA HTE,<- zA HWS]; exact hl))
    have HNXT:=zB (fun us' os' (hl:Z8 ws us os us' os')=>(zA HTT).next hnb (us':=us') (os':=os') (by show Z8 (wds (s.extract a z)) us os us' os'; rw [<- zA HTE,<- zA HWS]; exact hl))
    have hcond:((ws.length:Int) == 1) = false \/ (((ws.length:Int) == 1) = true /\ ∃ gw c k,v = .slice (some ⟨gw,0,none⟩) ws.length c /\ w2.cell? ⟨gw,0,none⟩ = some (.string k) /\ (k.toList == [98,101,103,105,110]) = false):=by
     by_cases e:ws.length = 1
     ·right
      obtain ⟨gw,c,hv,hgw,hc⟩:=(zA HST).lt (by omega)
      match ws,e with
      | [k],_=>exact ⟨rfl,gw,c,k,hv,hc 0 k rfl,zC5 (fun ek=>hbeg (by rw [ek]; rfl))⟩
     ·left; simp; omega
    obtain ⟨av,cv,hv⟩:=zM hr2
    clear hbeg hnb hws hr2 hl2 hb2 x3 HNE HSZ HWO HWS HST
    rcases hcond with hc1 | ⟨hc1,gw,c,k,hv2,k0,hk⟩
    all_goals
     first
      | (subst hv2; clear hv; have hg00:(0:Int) < (ws.length:Int):=(by have:=beq_iff_eq.1 hc1; omega))
      | subst hv
     go_wp2_with fail
     (with_reducible refine (zA HTK).mono ?_)
     rintro e w3 ⟨ok,rfl,hcase,hb3⟩
     have HBW3:=zB ((zA HBW2).trans (hb3.mono (by omega)))
     have HB03:=zB (show Below (w.heap.size + 1) W0 w3 from (zA HB02).trans hb3)
     have q0:=(hb3.cell (p:=⟨w.heap.size,0,none⟩) (Nat.lt_succ_self _)).trans x0
     have q1:=(hb3.cell (p:=⟨w.heap.size,1,none⟩) (Nat.lt_succ_self _)).trans x1
     have q2:=(hb3.cell (p:=⟨w.heap.size,2,none⟩) (Nat.lt_succ_self _)).trans x2
     have q30:=(hb3.frozen (p:=⟨w.heap.size,0,none⟩) (Nat.lt_succ_self _)).trans x30
     have q31:=(hb3.frozen (p:=⟨w.heap.size,1,none⟩) (Nat.lt_succ_self _)).trans x31
     have q32:=(hb3.frozen (p:=⟨w.heap.size,2,none⟩) (Nat.lt_succ_self _)).trans x32
     clear hb3 HTK
     rcases hcase with ⟨rfl,us',os',vu',vo',hline,hun,hlu,hlo⟩ | ⟨rfl,hline⟩
     ·have HTH:=zB ((zA HNXT) us' os' hline)
      have HUN:=zB hun
      clear hline hun HBAD HNXT
      go_wp2_with fail
      refine ⟨⟨zAb s z,mo,n + 1,rfl,rfl,by go_num,by omega,zA HB03,?_⟩,?_⟩
      ·have hmo:=zA HMO
       by_cases hzs:z < s.size
       ·right
        refine ⟨by rw [hmo]; simpa using hzs,z + 1,us',os',vu',vo',by omega,by omega,by omega,by omega,zB ?_,zB ?_,HUN⟩
        ·unfold zAb; rw [if_pos hzs]
        ·have:=zA HTH; rw [if_pos hzs] at this; exact this
       ·left
        refine ⟨by rw [hmo]; simpa using hzs,zB ?_⟩
        have:=zA HTH
        rw [if_neg hzs] at this
        exact this.fin
      ·have hmo:=zA HMO
       have hrs:=zA HRS
       by_cases hzs:z < s.size
       ·have:mo = true:=by rw [hmo]; simpa using hzs
        subst this
        simp only [zNw]
        unfold zAb
        rw [if_pos hzs,Zp]
        omega
       ·have:mo = false:=by rw [hmo]; simpa using hzs
        subst this
        simp only [zNw]
        omega
     ·have HI:=zB ((zA HBAD) hline)
      have HP:=zB (fun w'=>Zs (w:=w) (w':=w') (zA HI))
      clear hline HBAD HNXT
      go_wp2_with fail
      refine bodyPost_ret (v:=.tuple #[.agg #[.slice none 0 0,.slice none 0 0,.string ⟨#[]⟩],.int .i64 2,.int .i64 (n:Int)]) ?res rfl ((zA HP) _ ?_)
      case res=>simp [results,Tryz.results138,go_sem,q0,q1,q2]
      first
       | exact zA HBW3
       | exact zH (Nat.le_refl _) [.slice none 0 0,.slice none 0 0,.string ⟨#[]⟩] 0 _ (zA HBW3)
end Go.Proofs.YtokabkhnidlcnacGreatDoor
namespace Go.Proofs.YtokabkhnidlcnacGreatDoor
set_option linter.unusedSimpArgs false
set_option linter.unusedVariables false
set_option maxHeartbeats 16000000
set_option maxRecDepth 100000
open Go.RowKit Go.Maps
def zNx (B:Nat) (vs:List UvR):Prop:=∀ i,i < vs.length -> (∀ g,(atV vs i).vu.ownBlock = some g -> B <= g) /\ (∀ g,(atV vs i).vo.ownBlock = some g -> B <= g)
theorem zNx.step {B:Nat} {vs:List UvR} {x:UvR} (h:zNx B vs) (hu:∀ g,x.vu.ownBlock = some g -> B <= g) (ho:∀ g,x.vo.ownBlock = some g -> B <= g):zNx B (vs ++ [x]):=fun i hi=>by
 by_cases e:i < vs.length
 ·rw [zI9 e]; exact h i e
 ·have e1:i = vs.length:=by simp at hi; omega
  subst e1
  rw [zJA]
  exact ⟨hu,ho⟩
structure PgA (w:World) (B P bs:Nat) (am:Option Addr) (cm n:Nat) (v1:Value) (vs:List UvR) (U:List UnR):Prop where
 hP:P < B
 hbs:bs < B
 hne:bs ≠ P
 c0:w.cell? ⟨P,0,none⟩ = some (.slice am n cm)
 c1:w.cell? ⟨P,1,none⟩ = some v1
 c2:w.cell? ⟨P,2,none⟩ = some (.slice none 0 0)
 c3:w.cell? ⟨P,3,none⟩ = some (.map none)
 c4:w.cell? ⟨P,4,none⟩ = some (.map (some bs))
 fz:∀ o,w.frozen? ⟨P,o,none⟩ = false
 row:zAc w B v1 vs
 uns:zFD w v1 vs U
 lo:zNx B vs
 sm:ZQ w bs 0 (fun _=>none)
theorem PgA.lt {w:World} {B P bs:Nat} {am:Option Addr} {cm n:Nat} {v1:Value} {vs:List UvR} {U:List UnR} (h:PgA w B P bs am cm n v1 vs U):P < w.heap.size:=World.block_lt_of_cell? _ _ h.c0
theorem PgA.step {w w1 w4:World} {B P bs:Nat} {am:Option Addr} {cm n:Nat} {v1 v4:Value} {vs:List UvR} {U:List UnR} {x:UvR} {y:UnR} (h:PgA w B P bs am cm n v1 vs U) (hB:B <= w.heap.size) (hb:Below w.heap.size w w1)
  (h1:zj w1 x.vu y.us) (h2:ZC w1 x.vo y.os) (h3:x.b = y.b) (hu:∀ g,x.vu.ownBlock = some g -> w.heap.size <= g /\ g < w1.heap.size) (ho:∀ g,x.vo.ownBlock = some g -> w.heap.size <= g /\ g < w1.heap.size)
  (hg:w1.grownBy w4 v1.ownBlock) (hr:zAc w4 B v4 (vs ++ [x])) (hat:v4.ownBlock = v1.ownBlock \/ ∃ k,v4.ownBlock = some k /\ w1.heap.size <= k) :
  PgA (w4.setCell ⟨P,1,none⟩ v4) B P bs am cm n v4 (vs ++ [x]) (U ++ [y]):=by
 have hPl:=h.lt
 have hz:=hb.size
 have hz4:=hg.size
 have hPB:=h.hP
 have hbsB:=h.hbs
 have hv1:∀ g,v1.ownBlock = some g -> B <= g /\ g < w.heap.size:=h.row.lt
 have nP:v1.ownBlock ≠ some P:=fun e=>by have:=(hv1 P e).1; omega
 have nb:v1.ownBlock ≠ some bs:=fun e=>by have:=(hv1 bs e).1; omega
 have kc:=fun q=>(zE hg (b:=P) (by omega) nP q).trans (hb.cell (p:=⟨P,q,none⟩) hPl)
 have kf:=fun q=>(zU hg (b:=P) (by omega) nP q).trans (hb.frozen (p:=⟨P,q,none⟩) hPl)
 have n4:v4.ownBlock ≠ some P:=fun e=>by
  rcases hat with h | ⟨k,h,hk⟩
  ·exact nP (h.symm.trans e)
  ·rw [h] at e; injection e with e; omega
 have hU:=h.uns.step hb (fun g e=>(hv1 g e).2) h1 h2 h3 hu ho hg hat
 have oth:∀ (q:Nat),q ≠ 1 -> (w4.setCell ⟨P,1,none⟩ v4).cell? ⟨P,q,none⟩ = w.cell? ⟨P,q,none⟩:=fun q hq=>(World.cell?_setCell_other _ _ _ _ (by first | (simp; omega) | (intro x; injection x with _ x; omega))).trans (kc q)
 have sg:=ze w4 P 1 v4
 have hlo:=h.lo.step (x:=x) (fun g e=>by have:=(hu g e).1; omega) (fun g e=>by have:=(ho g e).1; omega)
 refine ⟨h.hP,h.hbs,h.hne,(oth 0 (by omega)).trans h.c0,World.cell?_setCell_same _ _ _ ((kc 1).trans h.c1),(oth 2 (by omega)).trans h.c2,(oth 3 (by omega)).trans h.c3,(oth 4 (by omega)).trans h.c4,fun o=>(World.frozen?_setCell _ _ _ _).trans ((kf o).trans (h.fz o)),hr.grown sg (fun k e x=>n4 (e.trans x.symm)),⟨hU.1,fun i hi=>?_⟩,hlo,((h.sm.kept (zF hb none) (by simp)).kept hg (fun e=>nb e.symm)).kept sg (fun e=>h.hne (by injection e))⟩
 obtain ⟨⟨q1,q2,q3⟩,q4,q5⟩:=hU.2 i hi
 exact ⟨⟨q1.grown sg (fun g e x=>by injection x with x; have:=(hlo i hi).1 g e; omega),q2.grown sg (fun g e x=>by injection x with x; have:=(hlo i hi).2 g e; omega),q3⟩,fun g e=>⟨(q4 g e).1,by simpa [World.setCell] using (q4 g e).2⟩,fun g e=>⟨(q5 g e).1,by simpa [World.setCell] using (q5 g e).2⟩⟩
theorem zBJ {w w':World} {B e s:Nat} {v:Value} {n:Nat} {xs:List Value} (h:w.ownsRow B e s v n xs) (hs:∀ g,v.ownBlock = some g -> w'.heap[g]? = w.heap[g]?):w'.ownsRow B e s v n xs:=by
 obtain ⟨a,h1 | ⟨g,cap,cur,h1,h2,h3,h4⟩⟩:=h
 ·exact ⟨a,Or.inl h1⟩
 ·exact ⟨a,Or.inr ⟨g,cap,cur,h1,h2,(hs g (by rw [h1]; rfl)).trans h3,h4⟩⟩
theorem zj.same {w w':World} {v:Value} {us:List ByteArray} (h:zj w v us) (hz:w.heap.size <= w'.heap.size) (hs:∀ g,v.ownBlock = some g -> w'.heap[g]? = w.heap[g]?):zj w' v us:=by
 obtain ⟨a,c,rfl,h0 | ⟨g,rfl,hg,hc⟩⟩:=h
 ·exact ⟨a,c,rfl,Or.inl h0⟩
 ·exact ⟨_,c,rfl,Or.inr ⟨g,rfl,Nat.lt_of_lt_of_le hg hz,fun j x hj=>(World.cell?_of_block (hs g rfl)).trans (hc j x hj)⟩⟩
theorem ZC.same {w w':World} {v:Value} {us:List OpR} (h:ZC w v us) (hz:w.heap.size <= w'.heap.size) (hs:∀ g,v.ownBlock = some g -> w'.heap[g]? = w.heap[g]?):ZC w' v us:=by
 obtain ⟨a,c,rfl,h0 | ⟨g,rfl,hg,hc⟩⟩:=h
 ·exact ⟨a,c,rfl,Or.inl h0⟩
 ·refine ⟨_,c,rfl,Or.inr ⟨g,rfl,Nat.lt_of_lt_of_le hg hz,fun i hi=>?_⟩⟩
  have hk:=fun q=>(World.cell?_of_block (w:=w) (w':=w') (a:=⟨g,q,none⟩) (hs g rfl))
  obtain ⟨h1,h2,h3,h4⟩:=hc i hi
  exact ⟨(hk _).trans h1,(hk _).trans h2,(hk _).trans h3,(hk _).trans h4⟩
structure PgC (w:World) (B C P:Nat) (am:Option Addr) (cm n:Nat) (v1:Value) (vs:List UvR) (U:List UnR):Prop where
 c0:w.cell? ⟨P,0,none⟩ = some (.slice am n cm)
 c1:w.cell? ⟨P,1,none⟩ = some v1
 row:zAc w B v1 vs
 hv:∀ g,v1.ownBlock = some g -> g < C
 uns:zBg w C vs U
 lo:zNx B vs
 ln:vs.length <= n /\ n <= vs.length
theorem PgC.lt {w:World} {B C P:Nat} {am:Option Addr} {cm n:Nat} {v1:Value} {vs:List UvR} {U:List UnR} (h:PgC w B C P am cm n v1 vs U):P < w.heap.size:=World.block_lt_of_cell? _ _ h.c0
theorem PgC.keep {w w':World} {B C P:Nat} {am:Option Addr} {cm n:Nat} {v1:Value} {vs:List UvR} {U:List UnR} (h:PgC w B C P am cm n v1 vs U) (hz:w.heap.size <= w'.heap.size) (hs:∀ i,B <= i -> i < C -> w'.heap[i]? = w.heap[i]?) (h0:w'.cell? ⟨P,0,none⟩ = w.cell? ⟨P,0,none⟩) (h1:w'.cell? ⟨P,1,none⟩ = w.cell? ⟨P,1,none⟩):PgC w' B C P am cm n v1 vs U:=by
 refine ⟨h0.trans h.c0,h1.trans h.c1,zBJ h.row (fun g e=>hs g (h.row.lt g e).1 (h.hv g e)),h.hv,⟨h.uns.1,fun i hi=>?_⟩,h.lo,h.ln⟩
 obtain ⟨⟨q1,q2,q3⟩,q4,q5⟩:=h.uns.2 i hi
 exact ⟨⟨q1.same hz (fun g e=>hs g ((h.lo i hi).1 g e) (q4 g e)),q2.same hz (fun g e=>hs g ((h.lo i hi).2 g e) (q5 g e)),q3⟩,q4,q5⟩
theorem PgC.below {w w':World} {B C P:Nat} {am:Option Addr} {cm n:Nat} {v1:Value} {vs:List UvR} {U:List UnR} (h:PgC w B C P am cm n v1 vs U) (hC:C <= w.heap.size) (hb:Below w.heap.size w w'):PgC w' B C P am cm n v1 vs U:=
 h.keep hb.size (fun i _ hi=>hb.block i (by omega)) (hb.cell (p:=⟨P,0,none⟩) h.lt) (hb.cell (p:=⟨P,1,none⟩) h.lt)
theorem PgC.eff {w w':World} {B C P:Nat} {am:Option Addr} {cm n:Nat} {v1:Value} {vs:List UvR} {U:List UnR} {kv:Value} {pv:Option Nat} (h:PgC w B C P am cm n v1 vs U) (hP:P < B) (hC:C <= w.heap.size) (he:Eff w w' P 2 kv pv) (hk:∀ g,kv.ownBlock = some g -> C <= g) (hp:∀ g,pv = some g -> C <= g):PgC w' B C P am cm n v1 vs U:=
 h.keep he.size (fun i hB hi=>he.blk i (by omega) (by omega) (fun e=>by have:=hk i e; omega) (fun e=>by have:=hp i e; omega)) (he.cel 0 (by omega) (by omega)).1 (he.cel 1 (by omega) (by omega)).1
theorem PgC.at {w:World} {B C P:Nat} {am:Option Addr} {cm n:Nat} {v1:Value} {vs:List UvR} {U:List UnR} (h:PgC w B C P am cm n v1 vs U) {i:Nat} (hi:i < n) :
  ∃ g c,v1 = .slice (some ⟨g,0,none⟩) vs.length c /\ w.cell? ⟨g,i * 3,none⟩ = some (atV vs i).vu /\ w.cell? ⟨g,i * 3 + 1,none⟩ = some (atV vs i).vo /\ w.cell? ⟨g,i * 3 + 2,none⟩ = some (.string (atV vs i).b):=by
 have hl:=h.ln
 have hr:=h.row
 obtain ⟨a,h1 | ⟨g,cap,cur,h1,h2,h3,h4⟩⟩:=h.row
 ·have:=h1.2; simp at this; omega
 ·subst h1
  obtain ⟨x,y,z⟩:=hr.ops i (by omega)
  exact ⟨g,cap,rfl,x,y,z⟩
theorem ZR.undrew {w w':World} {b o B:Nat} {kv:Value} {pv:Option Nat} {ks:List ByteArray} (h:ZR w.drew b o B kv pv ks w'):ZR w b o B kv pv ks w':=by
 obtain ⟨kv',pv',h1,h2,h3,h4⟩:=h
 exact ⟨kv',pv',h1,⟨h2.os,h2.tape,h2.output,h2.size,h2.blk,h2.cel⟩,h3,h4⟩
theorem ZQ.get {w:World} {b n:Nat} {G:ByteArray -> Option Value} {ty e:TypeId} (h:ZQ w b n G) (ht:Tryz.prog.underlying ty = some (.map 9 e)) {z:Value} (hz:(zeroValue e).run Tryz.prog w = .ok z w) {t:ByteArray} (hs:t.size <= maxLen) :
  (Instr.lookup ty (.map (some b)) (.string t) false).run Tryz.prog w = .ok ((G t).getD z) w:=by
 obtain ⟨D,hD,h⟩:=h
 obtain ⟨v,ps,hrun,hv⟩:=hD.lookup (string_keyed Tryz.underlying9) ht hz (zd:=.held z) (zp:=[]) rfl (zNX hs)
 have e:v = (G t).getD z:=by
  cases hg:G t with
  | none=>
   rw [(h t hs).2.2 hg] at hv
   simp only [zA6,Option.some.injEq,Prod.mk.injEq,DataW.held.injEq] at hv
   exact hv.1
  | some u=>
   rw [(h t hs).2.1 u hg] at hv
   simp only [zA6,Option.some.injEq,Prod.mk.injEq,DataW.held.injEq] at hv
   exact hv.1
 rw [<- e]
 exact hrun
theorem zHC (P C:Nat) (am:Option Addr) (cm:Nat) (ms:List zJ) (kv:Value) (pv:Option Nat) (ks:List ByteArray) (k:Nat) (w:World) (hc0:w.cell? ⟨P,0,none⟩ = some (.slice am ms.length cm)) (hM:zBz w am ms) (hk:k < ms.length) (hS:zBN w P 2 C kv pv ks) (hC:C <= w.heap.size) (hl:ks.length <= 1048576) (hs':(atM ms k).n.size <= maxLen) :
  Calls Tryz.prog 91 #[.pointer (some ⟨P,0,none⟩),.int .i64 (k:Int)] w fun e w'=>zB0 e ((atM ms k).n ∉ ks) /\ ZR w P 2 C kv pv (Z9 ks (atM ms k).n) w':=by
 have hkI:(k:Int) < (ms.length:Int):=by omega
 rcases hM with hM | ⟨bA,off,rfl,hops,hbl⟩
 ·omega
 obtain ⟨m0,m1⟩:=hops k hk
 have HX:=zB (zJs P 2 C kv pv ks (atM ms k).n w.drew (hS.below (Below.refl _ _).drew) hs' hl hC)
 clear hS hops
 go_enter Tryz.func91,Tryz.ntmps91
 go_wp2_with fail
 go_region_with (first | (go_at_call 141; (with_reducible refine (zA HX).mono ?_); rintro e w1 ⟨⟨v,rfl,hv⟩,hpo⟩; have HV:=zB hv; have HP:=zB hpo.undrew; clear hv hpo))
 go_wp2_with fail
 go_ret
 exact ⟨⟨v,rfl,zA HV⟩,zA HP⟩
theorem zHD (P B C:Nat) (am:Option Addr) (cm n:Nat) (v1:Value) (vs:List UvR) (U:List UnR) (kv:Value) (pv:Option Nat) (ks:List ByteArray) (k:Nat) (w:World) (h:PgC w B C P am cm n v1 vs U) (hk:k < n) (hS:zBN w P 2 C kv pv ks) (hs:∀ u ∈ (atU U k).us,u.size <= maxLen) (hn:n <= 1048576) (hul:(atU U k).us.length <= 1048576) :
  Calls Tryz.prog 92 #[.pointer (some ⟨P,0,none⟩),.int .i64 (k:Int)] w fun e w'=>zB0 e (∀ u ∈ (atU U k).us,u ∈ ks) /\ w' = w:=by
 obtain ⟨g,c,rfl,q0,q1,q2⟩:=h.at hk
 have hkv:k < vs.length:=by have:=h.ln; omega
 have hkI:(k:Int) < (vs.length:Int):=by omega
 have d1:=h.c1
 obtain ⟨⟨hst,_,_⟩,_,_⟩:=h.uns.2 k hkv
 obtain ⟨us,hus⟩:∃ us,us = (atU U k).us:=⟨_,rfl⟩
 rw [<- hus] at hst hs hul ⊢
 have HST:=zB hst
 have HH:=zB (fun t (ht:t.size <= maxLen)=>zGr P 2 C kv pv ks t w hS ht)
 have HS:=zB hs
 obtain ⟨a,cc,hv,_⟩:=hst
 rw [hv] at q0 HST
 clear h hS hs hus hv
 go_enter Tryz.func92,Tryz.ntmps92
 go_wp2_with fail
 go_loop [16] (fun i=>∃ j:Nat,j <= us.length /\ i = .int .i64 (j:Int) /\ Hid (∀ q u,q < j -> us[q]? = some u -> u ∈ ks)) (fun i=>us.length - (intOf i).toNat)
 case atStart=>exact ⟨0,Nat.zero_le _,rfl,zB (fun q u h=>by omega)⟩
 case round=>
  obtain ⟨j,hj,rfl,HJ⟩:=hrel
  by_cases hlt:j < us.length
  ·have hltI:(j:Int) < (us.length:Int):=by omega
   obtain ⟨p,hp⟩:∃ p,us[j]? = some p:=⟨_,List.getElem?_eq_getElem hlt⟩
   obtain ⟨g',c',hge,hgl,hgc⟩:=(zA HST).lt (by omega)
   obtain ⟨rfl,rfl⟩:a = some ⟨g',0,none⟩ /\ cc = c':=by injection hge with x _ y; exact ⟨x,y⟩
   have hc:=hgc j p hp
   have HX:=zB ((zA HH) p ((zA HS) p (List.mem_of_getElem? hp)))
   by_cases hin:p ∈ ks
   ·have HN:=zB (show ∀ q u,q < j + 1 -> us[q]? = some u -> u ∈ ks from fun q u hq hu=>by
     by_cases e:q = j
     ·subst e; rw [hp] at hu; injection hu with hu; rw [<- hu]; exact hin
     ·exact (zA HJ) q u (by omega) hu)
    have HIN:=zB hin
    clear hge hp hgc hin
    go_wp2_with (first | (go_at_call 142; (with_reducible refine (zA HX).mono ?_); rintro e w1 ⟨⟨v,rfl,hv⟩,hx⟩; obtain rfl:=hx.symm; obtain rfl:v = true:=hv.2 (zA HIN); clear hv hx))
    exact ⟨⟨j + 1,by omega,by go_num,HN⟩,by simp [intOf]; omega⟩
   ·have HNO:=zB (show ¬ ∀ u ∈ us,u ∈ ks from fun h=>hin (h p (List.mem_of_getElem? hp)))
    have HIN:=zB hin
    clear hge hp hgc hin
    go_wp2_with (first | (go_at_call 142; (with_reducible refine (zA HX).mono ?_); rintro e w1 ⟨⟨v,rfl,hv⟩,hx⟩; obtain rfl:=hx.symm; obtain rfl:v = false:=(by cases v; rfl; exact absurd (hv.1 rfl) (zA HIN)); clear hv hx))
    go_ret
    exact ⟨⟨false,rfl,ZA (zA HNO)⟩,rfl⟩
  ·have HALL:=zB (show ∀ u ∈ us,u ∈ ks from fun u hu=>by
    obtain ⟨q,hq,e⟩:=List.getElem_of_mem hu
    exact (zA HJ) q u (by omega) (by rw [List.getElem?_eq_getElem hq,e]))
   go_wp2
   go_ret
   exact ⟨⟨true,rfl,zA0 (zA HALL)⟩,rfl⟩
theorem zGu (P B C:Nat) (am:Option Addr) (cm n:Nat) (v1:Value) (vs:List UvR) (U:List UnR) (kv:Value) (pv:Option Nat) (ks:List ByteArray) (t:ByteArray) (k:Nat) (w:World) (h:PgC w B C P am cm n v1 vs U) (hk:k < n) (hS:zBN w P 2 C kv pv ks) (ht:t.size <= maxLen) (hi:zDv ks t = some k) :
  Calls Tryz.prog 103 #[.pointer (some ⟨P,0,none⟩),.string t] w fun e w'=>e = .returned (.agg #[(atV vs k).vu,(atV vs k).vo,.string (atV vs k).b]) /\ Below w.heap.size w w':=by
 obtain ⟨g,c,rfl,q0,q1,q2⟩:=h.at hk
 have hkv:k < vs.length:=by have:=h.ln; omega
 have hkI:(k:Int) < (vs.length:Int):=by omega
 have d1:=h.c1
 have s1:=hS.c1
 have hPl:=h.lt
 obtain ⟨bm,rfl,hbm,hm⟩:∃ bm,pv = some bm /\ C <= bm /\ ZQ w bm ks.length (gSS ks):=by
  rcases hS.mp with ⟨_,e⟩ | h
  ·rw [e] at hi; cases hi
  ·exact h
 obtain ⟨W,hW⟩:∃ W,W = w.alloc (.cells #[.slice none 0 0,.slice none 0 0,.string ⟨#[]⟩] 64):=⟨_,rfl⟩
 have hb:Below w.heap.size w W:=by rw [hW]; exact zC _ _
 have hrun:=((hm.kept (zF hb none) (by simp)).kept (zF (show Below W.heap.size W W.drew from (Below.refl _ _).drew) none) (by simp)).get (ty:=70) Tryz.underlying70 (zJr W.drew) ht
 rw [show gSS ks t = some (.int .i64 (k:Int)) by unfold gSS; rw [hi]; rfl] at hrun
 have hrun':(Instr.lookup 70 (.map (some bm)) (.string t) false).run Tryz.prog W.drew = .ok (.int .i64 (k:Int)) W.drew:=hrun
 have hgl:g < w.heap.size:=World.block_lt_of_cell? _ _ q0
 have e1:=(hb.cell (p:=⟨P,1,none⟩) hPl).trans d1
 have e3:=(hb.cell (p:=⟨P,2 + 1,none⟩) hPl).trans s1
 have x0:=(hb.cell (p:=⟨g,k * 3,none⟩) hgl).trans q0
 have x1:=(hb.cell (p:=⟨g,k * 3 + 1,none⟩) hgl).trans q1
 have x2:=(hb.cell (p:=⟨g,k * 3 + 2,none⟩) hgl).trans q2
 obtain ⟨⟨⟨a,c',hvu,_⟩,⟨a2,c2,hvo,_⟩,hbb⟩,_,_⟩:=h.uns.2 k hkv
 clear hbb
 rw [hvu] at x0 ⊢
 rw [hvo] at x1 ⊢
 have z0:W.cell? ⟨w.heap.size,0,none⟩ = some (.slice none 0 0):=by rw [hW]; simp [go_sem]
 have z1:W.cell? ⟨w.heap.size,1,none⟩ = some (.slice none 0 0):=by rw [hW]; simp [go_sem]
 have z2:W.cell? ⟨w.heap.size,2,none⟩ = some (.string ⟨#[]⟩):=by rw [hW]; simp [go_sem]
 have zf0:W.frozen? ⟨w.heap.size,0,none⟩ = false:=by rw [hW]; simp [go_sem]
 have zf1:W.frozen? ⟨w.heap.size,1,none⟩ = false:=by rw [hW]; simp [go_sem]
 have zf2:W.frozen? ⟨w.heap.size,2,none⟩ = false:=by rw [hW]; simp [go_sem]
 have HB:=zB hb
 have HW:=zB hW
 clear hW hb hrun hm hS h q0 q1 q2 hvu hvo
 go_enter Tryz.func103,Tryz.ntmps103
 go_wp2_with fail
 rw [<- zA HW]
 go_region
 go_wp2_with fail
 refine bodyPost_ret (v:=.agg #[.slice a (atU U k).us.length c',.slice a2 (atU U k).os.length c2,.string (atV vs k).b]) ?res rfl ?_
 case res=>simp [results,Tryz.results103,go_sem,z0,z1,z2]
 exact ⟨rfl,((((zA HB).setCell (p:=⟨w.heap.size,0,none⟩) (Nat.le_refl _) _).setCell (p:=⟨w.heap.size,1,none⟩) (Nat.le_refl _) _).setCell (p:=⟨w.heap.size,2,none⟩) (Nat.le_refl _) _).drew⟩
end Go.Proofs.YtokabkhnidlcnacGreatDoor
