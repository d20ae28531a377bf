import Derived.Test.YtfboipappaonhaaGreatM19
import Derived.Test.YtfboipappaonhaaGreatM29
import Derived.Test.YtfboipappaonhaaGreatM35
namespace Go.Proofs.YtfboipappaonhaaGreat
set_option linter.unusedSimpArgs false
set_option linter.unusedVariables false
set_option maxHeartbeats 16000000
set_option maxRecDepth 100000
open Go.RowKit
def zCl (l:List UInt8) (g:Nat):Bool:=decide (g / 8 < l.length) && decide ((l.getD (g / 8) 0).toNat / 2 ^ (g % 8) % 2 = 1)
def Zh (l:List Bool):List Value:=l.map fun v=>.bool v
theorem zAG (a b:List Bool):Zh (a ++ b) = Zh a ++ Zh b:=by simp [Zh]
theorem zDJ (l:List Bool):∀ u ∈ Zh l,u.oneCell' = true:=by
 intro u hu
 simp only [Zh,List.mem_map] at hu
 obtain ⟨v,_,rfl⟩:=hu
 rfl
theorem zNY:(Tryz.prog.info? 4).map (fun i=>(i.zero,i.size,i.bytes)) = some (some (.bool false),1,1):=by kernel_rfl
theorem zDK {w w':World} {B g c n:Nat} {zs:List Value} (h:w.ownsRow B 4 1 (.slice (some ⟨g,0,none⟩) n c) n zs) (hb:Below w.heap.size w w'):w'.ownsRow B 4 1 (.slice (some ⟨g,0,none⟩) n c) n zs:=
 World.ownsRow.kept h (ze hb none) (Or.inr (by simp [Value.ownBlock]))
theorem zEK (w:World) (v:Bool):∀ j u,(Zh [v])[j]? = some u -> (w.alloc (.cells #[.bool v] 4)).cell? ((⟨w.heap.size,0,none⟩:Addr).add j) = some u:=by
 intro j u hj
 rw [Addr.add_mid]
 have:=World.rangeAt_of_block (w:=w.alloc (.cells #[.bool v] 4)) (b:=w.heap.size) (heap_alloc_new w _) 0 1
 exact this j u (by simpa [Zh] using hj)
def Z8 (l:List UInt8):Nat -> List Bool
 | 0=>[]
 | k + 1=>Z8 l k ++ [zCl l k]
theorem zFh (l:List UInt8):∀ k,(Z8 l k).length = k
 | 0=>rfl
 | k + 1=>by simp [Z8,zFh l k]
theorem zF {w w':World} {B g c n e z:Nat} {zs:List Value} (h:w.ownsRow B e z (.slice (some ⟨g,0,none⟩) n c) n zs) (hb:Below w.heap.size w w'):w'.ownsRow B e z (.slice (some ⟨g,0,none⟩) n c) n zs:=
 World.ownsRow.kept h (ze hb none) (Or.inr (by simp [Value.ownBlock]))
theorem zn {w w':World} {B g c n e z q:Nat} {zs:List Value} (h:w.ownsRow B e z (.slice (some ⟨g,0,none⟩) n c) n zs) (hg:w.grownBy w' (some q)) (hne:q ≠ g):w'.ownsRow B e z (.slice (some ⟨g,0,none⟩) n c) n zs:=
 World.ownsRow.kept h hg (Or.inr (by simp [Value.ownBlock]; omega))
theorem ZN (w:World) (n:Nat) (v:Int) (hn:w.heap.size = n):∀ j u,(zN [v])[j]? = some u -> (w.alloc (.cells #[.int .i64 v] 3)).cell? ((⟨n,0,none⟩:Addr).add j) = some u:=by
 subst hn
 exact zGZ w v
def zBc (xs:List zD) (st:Nat -> Bool):Nat -> List Int
 | 0=>[]
 | k + 1=>zBc xs st k ++ [(kp xs st (k + 1):Int) - 1]
theorem zAH (xs:List zD) (st:Nat -> Bool):∀ k,(zBc xs st k).length = k
 | 0=>rfl
 | k + 1=>by simp [zBc,zAH xs st k]
theorem zAL (xs:List zD) (st:Nat -> Bool):∀ k i,i < k -> atI (zBc xs st k) i = (kp xs st (i + 1):Int) - 1
 | 0,i,h=>by omega
 | k + 1,i,h=>by
  have hl:=zAH xs st k
  by_cases e:i < k
  ·have:=zAL xs st k i e
   simp only [zBc]
   unfold atI at this ⊢
   rw [List.getD_eq_getElem?_getD,List.getElem?_append_left (by omega),<- List.getD_eq_getElem?_getD]
   exact this
  ·have:i = k:=by omega
   subst this
   simp only [zBc]
   unfold atI
   rw [List.getD_eq_getElem?_getD,List.getElem?_append_right (by omega),hl,Nat.sub_self]
   rfl
theorem zJr (l:List UInt8):∀ n i,i < n -> (Zh (Z8 l n))[i]? = some (.bool (zCl l i))
 | 0,i,h=>by omega
 | n + 1,i,h=>by
  have hl:(Zh (Z8 l n)).length = n:=by simp [Zh,zFh]
  by_cases e:i < n
  ·rw [Z8,zAG,List.getElem?_append_left (by omega)]
   exact zJr l n i e
  ·have:i = n:=by omega
   subst this
   rw [Z8,zAG,List.getElem?_append_right (by omega),hl,Nat.sub_self]
   rfl
theorem zIF (bn cn cap:Nat) (a:Option Addr) (l:List UInt8) (xs:List zD) (w:World) (hx:xs.length <= 50000) (hl:l.length <= 1048576) (hcap:l.length <= cap) (hw:Zs w bn 0 xs) (hB:bn < w.heap.size) (hA:zEz w a l) (hord:zu xs) :
  Calls Tryz.prog 21 #[.agg #[.slice (some ⟨bn,0,none⟩) xs.length cn],.slice a l.length cap] w fun e w'=>(∃ (g c:Nat) (st:Nat -> Bool),e = .returned (.agg #[.slice (some ⟨g,0,none⟩) (wo xs st xs.length).length c]) /\ w.heap.size <= g /\ zM w' g (wo xs st xs.length) (wo xs st xs.length).length /\ (1 <= gcn xs xs.length -> ∃ i,i < gcn xs xs.length /\ st i = false)) /\ Below w.heap.size w w':=by
 obtain ⟨i0,hi,hz0,hz1,hz2⟩:=info_parts zNY
 have HI:=zB hi
 have HZ:=zB (And.intro hz0 (And.intro hz1 hz2))
 obtain ⟨i1,hi1,ha0,ha1,ha2⟩:=info_parts zHR
 have HI1:=zB hi1
 have HZ1:=zB (And.intro ha0 (And.intro ha1 ha2))
 obtain ⟨i2,hi2,hb0,hb1,hb2'⟩:=ZJ zBh
 have HI2:=zB hi2
 have HZ2:=zB (And.intro hb0 (And.intro hb1 hb2'))
 clear hi1 ha0 ha1 ha2 hi2 hb0 hb1 hb2'
 have HW:=zB hw
 have HA:=zB hA
 have HOR:=zB hord
 clear hi hz0 hz1 hz2 hw hA hord
 go_enter Tryz.func21,Tryz.ntmps21
 go_wp2_with fail
 have hb2:Below w.heap.size w (((w.alloc (.cells #[.slice (some ⟨bn,0,none⟩) xs.length cn] 28)).alloc (.cells #[.slice none 0 0] 28)).alloc (.cells #[] 4)):=((zC _ _).alloc (by simp) _).alloc (by simp; omega) _
 have HO0:=zB (show (((w.alloc (.cells #[.slice (some ⟨bn,0,none⟩) xs.length cn] 28)).alloc (.cells #[.slice none 0 0] 28)).alloc (.cells #[] 4)).ownsRow (w.heap.size + 2) 4 1 (.slice (some ⟨w.heap.size + 2,0,none⟩) 0 0) 0 (Zh []) by
  have h0:=World.ownsRow_lit (base:=w.heap.size + 2) (e:=4) (size:=1) ((w.alloc (.cells #[.slice (some ⟨bn,0,none⟩) xs.length cn] 28)).alloc (.cells #[.slice none 0 0] 28)) #[] 0 (by simp) (Nat.zero_le _) rfl
  simpa [Zh] using h0)
 go_loopw [5,6,7] (fun sv ov iv wr=>∃ (k n g c fc:Nat),k <= xs.length /\ n <= k /\ fc <= n /\ iv = .int .i64 (k:Int) /\ ov = .int .i64 (fc:Int) /\ sv = .slice (some ⟨g,0,none⟩) n c /\ Hid (n = gcn xs k) /\ Hid (wr.ownsRow (w.heap.size + 2) 4 1 (.slice (some ⟨g,0,none⟩) n c) n (Zh (Z8 l n))) /\ Hid (fc = 0 ↔ ∀ i,i < n -> zCl l i = true) /\ wr.cell? ⟨w.heap.size,0,none⟩ = some (.slice (some ⟨bn,0,none⟩) xs.length cn) /\ wr.cell? ⟨w.heap.size + 1,0,none⟩ = some (.slice none 0 0) /\ wr.frozen? ⟨w.heap.size + 1,0,none⟩ = false /\ w.heap.size + 2 < wr.heap.size /\ Hid (Below w.heap.size w wr)) (fun _ _ iv _=>xs.length - (intOf iv).toNat)
 case atStart=>exact ⟨0,0,w.heap.size + 2,0,0,Nat.zero_le _,Nat.zero_le _,Nat.zero_le _,rfl,rfl,rfl,zB rfl,HO0,zB (by simp),by simp [go_sem],by simp [go_sem],by simp [go_sem],by simp,zB hb2⟩
 case round=>
  clear HO0 hb2
  obtain ⟨k,n,g,c,fc,hk,hnk,hfn,rfl,rfl,rfl,HNE,HR,HFC,t0,r0,r1,zr,hbel⟩:=hrel
  have hgo:=(zA HR).lt g rfl
  by_cases hlt:k < xs.length
  case neg=>
   have hke:k = xs.length:=by omega
   subst hke
   have HSB:=zB (show ∀ i,i < n -> wr.cell? ⟨g,i,none⟩ = some (.bool (zCl l i)) from fun i hi=>((zA HR).cellAt i (by omega)).trans (zJr l n i hi))
   have HFZ:=zB (show ∀ i,wr.frozen? ⟨g,i,none⟩ = false from fun i=>(zA HR).frozenAt _)
   have hI:¬ (xs.length:Int) < (xs.length:Int):=by omega
   by_cases hfc:fc = 0
   ·subst hfc
    by_cases hn0:n = 0
    ·have hnI:¬ (0:Int) < (n:Int):=by omega
     have HN00:=zB hn0
     obtain ⟨st,HST⟩:∃ st,Hid (st = zCl l):=⟨_,zB rfl⟩
     have HEX:=zB (show 1 <= gcn xs xs.length -> ∃ i,i < gcn xs xs.length /\ st i = false from fun h=>by
      rw [<- zA HNE,zA HN00] at h
      omega)
     obtain ⟨Wb,hWb⟩:∃ Wb,Wb = wr:=⟨_,rfl⟩
     have hWs:Wb.heap.size = wr.heap.size:=by rw [hWb]
     have hcell:∀ b,b ≠ g -> Wb.cell? ⟨b,0,none⟩ = wr.cell? ⟨b,0,none⟩:=fun b _=>by rw [hWb]
     have hfroz:∀ b,Wb.frozen? ⟨b,0,none⟩ = wr.frozen? ⟨b,0,none⟩:=fun b=>by rw [hWb]
     have HBL:=zB (show Below w.heap.size w Wb by rw [hWb]; exact zA hbel)
     have HSB':=zB (show ∀ i,i < n -> Wb.cell? ⟨g,i,none⟩ = some (.bool (st i)) from fun i hi=>by have:=zA HN00; omega)
     clear HSB HST HFC HR hn0
     go_wp2_with fail
     have tb:=(hcell w.heap.size (by omega)).trans t0
     have rb0:=(hcell (w.heap.size + 1) (by omega)).trans r0
     have rb1:=(hfroz (w.heap.size + 1)).trans r1
     have zb:w.heap.size + 2 < Wb.heap.size:=by omega
     have hgb:g < Wb.heap.size:=by omega
     have hbnb:bn < Wb.heap.size:=by have:=(zA HBL).size; omega
     have HWB:=zB (show Below Wb.heap.size Wb ((Wb.alloc (.cells #[] 81)).alloc (.cells #[] 3)) from (zC _ _).alloc (by simp) _)
     have HN0:=zB (show zi ((Wb.alloc (.cells #[] 81)).alloc (.cells #[] 3)) Wb.heap.size wr.heap.size 0 [] by
      have:=World.ownsRow_lit (base:=Wb.heap.size) (e:=81) (size:=4) Wb #[] 0 (Nat.le_refl _) (Nat.zero_le _) rfl
      rw [<- hWs]
      exact zi.below (by simpa [zi,zH] using this) (zC _ _))
     have HP0:=zB (show ((Wb.alloc (.cells #[] 81)).alloc (.cells #[] 3)).ownsRow Wb.heap.size 3 1 (.slice (some ⟨wr.heap.size + 1,0,none⟩) 0 0) 0 (zN []) by
      have:=World.ownsRow_lit (base:=Wb.heap.size) (e:=3) (size:=1) (Wb.alloc (.cells #[] 81)) #[] 0 (by simp) (Nat.zero_le _) rfl
      rw [<- hWs]
      simpa [zN] using this)
     go_loopw [10,11,12,13] (fun nv pv gv iv wx=>∃ (k gN cN gP cP gg:Nat) (vs:List zD) (ps:List Int),k <= xs.length /\ iv = .int .i64 (k:Int) /\ gv = .int .i64 (gg:Int) /\ nv = .slice (some ⟨gN,0,none⟩) vs.length cN /\ pv = .slice (some ⟨gP,0,none⟩) k cP /\ gg <= n /\ Hid (gg = gcn xs k) /\ Hid (vs = wo xs st k) /\ vs.length <= k /\ Hid (ps = zBc xs st k) /\ Hid (zi wx Wb.heap.size gN cN vs) /\ Hid (wx.ownsRow Wb.heap.size 3 1 (.slice (some ⟨gP,0,none⟩) k cP) k (zN ps)) /\ gN ≠ gP /\ Wb.heap.size + 1 < wx.heap.size /\ Hid (Below Wb.heap.size Wb wx)) (fun _ _ _ iv _=>xs.length - (intOf iv).toNat)
     case atStart=>
      refine ⟨0,wr.heap.size,0,wr.heap.size + 1,0,0,[],[],Nat.zero_le _,rfl,rfl,rfl,rfl,Nat.zero_le _,zB rfl,zB rfl,Nat.le_refl _,zB rfl,?_,?_,by omega,by simp [World.setCell]; omega,?_⟩
      ·rw [hWb] at HN0; rw [hWb]; exact HN0
      ·rw [hWb] at HP0; rw [hWb]; exact HP0
      ·rw [hWb] at HWB; rw [hWb]; exact HWB
     case round=>
      clear HN0 HP0 HWB hWs hWb hcell hfroz
      obtain ⟨k,gN,cN,gP,cP,gg,vs,ps,hk2,rfl,rfl,rfl,rfl,hgn,HGG,HVS,hvk,HPS,HRN,HRP,hNP,zx,hbx⟩:=hrel
      have tx:=((zA hbx).cell (p:=⟨w.heap.size,0,none⟩) (by show w.heap.size < Wb.heap.size; omega)).trans tb
      have rx:=((zA hbx).cell (p:=⟨w.heap.size + 1,0,none⟩) (by show w.heap.size + 1 < Wb.heap.size; omega)).trans rb0
      have rf:=((zA hbx).frozen (p:=⟨w.heap.size + 1,0,none⟩) (by show w.heap.size + 1 < Wb.heap.size; omega)).trans rb1
      have hgN:=(zA HRN).lt
      have hgP:=(zA HRP).lt gP rfl
      by_cases hlt2:k < xs.length
      case neg=>
       have hke:k = xs.length:=by omega
       subst hke
       have HFN:=zB (ZF (zA HRN))
       have HBW:=zB (show Below w.heap.size w wr from (zA HBL).trans ((zA hbx).mono (zA HBL).size))
       go_wp2_with fail
       refine bodyPost_ret (v:=.agg #[.slice (some ⟨gN,0,none⟩) vs.length cN]) ?res rfl ⟨⟨gN,cN,st,by rw [<- zA HVS],by have:=(zA HFN).1; omega,?_,zA HEX⟩,(zA HBW).setCell (by simp) _⟩
       case res=>simp [results,Tryz.results21,go_sem,rx]
       ·rw [<- zA HVS]
        exact (zA HFN).2.setCell _ _ _ (by have:=(zA HFN).1; omega)
      have hlt2I:(k:Int) < (xs.length:Int):=by omega
      have hbn2:bn < wr.heap.size:=by omega
      have HBW:=zB (show Below w.heap.size w wr from (zA HBL).trans ((zA hbx).mono (zA HBL).size))
      obtain ⟨a0,a1,a2,a3⟩:=((zA HW) k hlt2).below (zA HBW) hB
      rw [Nat.zero_add] at a0 a1 a2 a3
      by_cases h6:(atN xs k).k = 6
      ·have hgk:gg < n:=by
        have h1:=zDs xs (k + 1) xs.length (by omega)
        have h2:gcn xs (k + 1) = gcn xs k + 1:=by simp only [gcn,if_pos h6]
        rw [zA HGG,zA HNE]; omega
       exact absurd hgk (by have:=zA HN00; omega)
      ·have h6':((atN xs k).k == 6) = false:=by simpa using h6
       have hrm:¬ ((atN xs k).k = 6 /\ st (gcn xs k) = false):=fun h=>h6 h.1
       have HG':=zB (show gg = gcn xs (k + 1) by rw [zA HGG]; simp only [gcn,if_neg h6])
       have HP':=zB (show ps ++ [(vs.length:Int)] = zBc xs st (k + 1) by
        rw [zA HPS,zA HVS,Zz]
        simp only [zBc,kp,if_neg hrm]
        congr 2
        omega)
       have HW':=zB (show wo xs st (k + 1) = vs ++ [woN xs st (atN xs k)] by rw [zA HVS]; simp only [wo,if_neg hrm])
       rcases (zA HOR).kidsAt hlt2 with ⟨hk0,ha0,hb0⟩ | ⟨hk1,h1k,ha,hbz⟩ | ⟨hk2',h2k,hbk,ha1,ha2'⟩
       ·have HKK:=zB hk0
        have HV':=zB (show wo xs st (k + 1) = vs ++ [⟨(atN xs k).k,(atN xs k).t,(atN xs k).a,(atN xs k).b⟩] by
         rw [zA HW']; simp [woN,hk0])
        have HNB:=zB (zC wr (.cells #[.int .i64 (atN xs k).k,.string (atN xs k).t,.int .i64 (atN xs k).a,.int .i64 (atN xs k).b] 81))
        have HRP1:=zB (zF (zA HRP) (zA HNB))
        clear h6 hk0 ha0 hb0 hrm
        go_wp2_with (first | (go_at_call 55; refine (zQ (zA HKK) 0 rfl _).mono ?_; rintro e w' ⟨rfl,rfl⟩) | (at_builtin; refine wpList_append_own_at _ rfl (.tmp 120) (.tmp 123) 79 rfl Wb.heap.size 3 i1 _ 1 8 Tryz.underlying79 (zA HI1) (zA HZ1).1 (zA HZ1).2.1 (zA HZ1).2.2 rfl (by decide) _ k (zN ps) rfl (zF (zA HRP1) (zC _ _)) ⟨wr.heap.size + 1,0,none⟩ 1 1 (zN [(vs.length:Int)]) rfl rfl (ZN _ (wr.heap.size + 1) _ (by simp)) (ZB _) ?b1 ?b2 ?b3 ?next))
        case b1=>unfold maxLen; omega
        case b2=>omega
        case b3=>first | omega | (simp; omega)
        case next=>
         intro v4 w4 hown4 hgrow4 hnil4 hat4
         obtain ⟨g4,c4,rfl⟩:=zt hown4 (by simp [hnil4])
         rw [<- zg] at hown4
         have HRP4:=zB hown4
         have hgr:World.grownBy _ w4 (some gP):=hgrow4
         have z4:wr.heap.size + 2 <= w4.heap.size:=by have:=hgr.size; simpa using this
         have HRN4:=zB (show zi w4 Wb.heap.size gN cN vs from zn (zF (zF (zA HRN) (zA HNB)) (zC _ _)) hgr (by omega))
         have HBX:=zB (show Below Wb.heap.size Wb w4 from ((((zA hbx).trans ((zA HNB).mono (by omega)))).alloc (by simp; omega) _).grown hgr (by simp; omega) (fun q hq=>by injection hq with hq; omega))
         have hgg4:g4 = gP \/ wr.heap.size + 2 <= g4:=by simp [Value.ownBlock] at hat4; omega
         have hg4:g4 < w4.heap.size:=((zA HRP4).lt g4 rfl).2
         have kc:=fun (o':Nat)=>World.cell?_of_block (w':=w4) (a:=⟨wr.heap.size,o',none⟩) (hgr.block wr.heap.size (by simp; omega) (by simp; omega))
         have n0:w4.cell? ⟨wr.heap.size,0,none⟩ = some (.int .i64 (atN xs k).k):=(kc 0).trans (by simp [go_sem])
         have n1:w4.cell? ⟨wr.heap.size,1,none⟩ = some (.string (atN xs k).t):=(kc 1).trans (by simp [go_sem])
         have n2:w4.cell? ⟨wr.heap.size,2,none⟩ = some (.int .i64 (atN xs k).a):=(kc 2).trans (by simp [go_sem])
         have n3:w4.cell? ⟨wr.heap.size,3,none⟩ = some (.int .i64 (atN xs k).b):=(kc 3).trans (by simp [go_sem])
         clear hown4 hgrow4 hgr hnil4 hat4 kc a0 a1 a2 a3 HRP1
         go_wp2_with (at_builtin; refine wpList_append_own_at _ rfl (.tmp 125) (.tmp 127) 26 rfl Wb.heap.size 81 i2 _ 4 40 Tryz.underlying26 (zA HI2) (zA HZ2).1 (zA HZ2).2.1 (zA HZ2).2.2 rfl (by decide) _ vs.length (zH vs) rfl ((zA HRN4).below (zC _ _)) ⟨w4.heap.size,0,none⟩ 1 1 (zH [⟨(atN xs k).k,(atN xs k).t,(atN xs k).a,(atN xs k).b⟩]) rfl rfl (zZ w4 ⟨(atN xs k).k,(atN xs k).t,(atN xs k).a,(atN xs k).b⟩) (zL _) ?c1 ?c2 ?c3 ?next)
         case c1=>unfold maxLen; omega
         case c2=>omega
         case c3=>first | omega | (simp; omega)
         case next=>
          intro v6 w6 hown6 hgrow6 hnil6 hat6
          obtain ⟨g6,c6,rfl,hr6⟩:=zi.snoc hown6 (by simp [hnil6]) (zA HV')
          have HR6:=zB hr6
          have hgr6:World.grownBy _ w6 (some gN):=hgrow6
          have z6:w4.heap.size + 1 <= w6.heap.size:=by have:=hgr6.size; simpa using this
          have HRP6:=zB (zn (zF (zA HRP4) (zC w4 (.cells #[.int .i64 (atN xs k).k,.string (atN xs k).t,.int .i64 (atN xs k).a,.int .i64 (atN xs k).b] 81))) hgr6 (by omega))
          have HBX6:=zB (show Below Wb.heap.size Wb w6 from ((zA HBX).alloc (by omega) _).grown hgr6 (by simp; omega) (fun q hq=>by injection hq with hq; omega))
          have hgg6:g6 = gN \/ w4.heap.size + 1 <= g6:=by simp [Value.ownBlock] at hat6; omega
          have hvl:(wo xs st (k + 1)).length <= k + 1:=by rw [Zz]; exact zCZ xs st (k + 1)
          clear hown6 hgrow6 hgr6 hnil6 hat6 hr6
          go_wp2_with fail
          refine ⟨⟨k + 1,g6,c6,g4,c4,gg,wo xs st (k + 1),ps ++ [(vs.length:Int)],by omega,by simp,rfl,rfl,rfl,by omega,HG',zB rfl,hvl,HP',HR6,HRP6,by omega,by omega,HBX6⟩,?_⟩
          simp [intOf]
          omega
       ·have HKK:=zB hk1
        have ei:(k:Int) - 1 = ((k - 1:Nat):Int):=by omega
        have hpl:ps.length = k:=by rw [zA HPS]; exact zAH _ _ _
        obtain ⟨A',HA'⟩:∃ A',Hid (A' = atI ps (k - 1)):=⟨_,zB rfl⟩
        have hpc:wr.cell? ⟨gP,k - 1,none⟩ = some (.int .i64 A'):=by rw [zA HA']; exact ((zA HRP).cellAt (k - 1) (by omega)).trans (Za ps (k - 1) (by omega))
        have HV':=zB (show wo xs st (k + 1) = vs ++ [⟨(atN xs k).k,(atN xs k).t,A',(atN xs k).b⟩] by
         have e1:((k:Int) - 1).toNat + 1 = k - 1 + 1:=by omega
         rw [zA HW']
         unfold woN
         rw [hk1,ha,e1,zA HA',zA HPS,zAL _ _ _ _ (by omega)]
         rfl)
        rw [ha,ei] at a2
        have hk1I:((k - 1:Nat):Int) < (k:Int):=by omega
        have hgPw:gP < wr.heap.size:=hgP.2
        have hgPn:¬ gP = wr.heap.size:=by omega
        have HNB:=zB (zC wr (.cells #[.int .i64 (atN xs k).k,.string (atN xs k).t,.int .i64 A',.int .i64 (atN xs k).b] 81))
        have HRP1:=zB (zF (zA HRP) (zA HNB))
        clear h6 hk1 ha hbz hrm hpl
        go_wp2_with (first | (go_at_call 55; refine (zQ (zA HKK) 1 rfl _).mono ?_; rintro e w' ⟨rfl,rfl⟩) | (at_builtin; refine wpList_append_own_at _ rfl (.tmp 120) (.tmp 123) 79 rfl Wb.heap.size 3 i1 _ 1 8 Tryz.underlying79 (zA HI1) (zA HZ1).1 (zA HZ1).2.1 (zA HZ1).2.2 rfl (by decide) _ k (zN ps) rfl (zF (zA HRP1) (zC _ _)) ⟨wr.heap.size + 1,0,none⟩ 1 1 (zN [(vs.length:Int)]) rfl rfl (ZN _ (wr.heap.size + 1) _ (by simp)) (ZB _) ?b1 ?b2 ?b3 ?next))
        case b1=>unfold maxLen; omega
        case b2=>omega
        case b3=>first | omega | (simp; omega)
        case next=>
         intro v4 w4 hown4 hgrow4 hnil4 hat4
         obtain ⟨g4,c4,rfl⟩:=zt hown4 (by simp [hnil4])
         rw [<- zg] at hown4
         have HRP4:=zB hown4
         have hgr:World.grownBy _ w4 (some gP):=hgrow4
         have z4:wr.heap.size + 2 <= w4.heap.size:=by have:=hgr.size; simpa using this
         have HRN4:=zB (show zi w4 Wb.heap.size gN cN vs from zn (zF (zF (zA HRN) (zA HNB)) (zC _ _)) hgr (by omega))
         have HBX:=zB (show Below Wb.heap.size Wb w4 from ((((zA hbx).trans ((zA HNB).mono (by omega)))).alloc (by simp; omega) _).grown hgr (by simp; omega) (fun q hq=>by injection hq with hq; omega))
         have hgg4:g4 = gP \/ wr.heap.size + 2 <= g4:=by simp [Value.ownBlock] at hat4; omega
         have hg4:g4 < w4.heap.size:=((zA HRP4).lt g4 rfl).2
         have kc:=fun (o':Nat)=>World.cell?_of_block (w':=w4) (a:=⟨wr.heap.size,o',none⟩) (hgr.block wr.heap.size (by simp; omega) (by simp; omega))
         have n0:w4.cell? ⟨wr.heap.size,0,none⟩ = some (.int .i64 (atN xs k).k):=(kc 0).trans (by simp [go_sem])
         have n1:w4.cell? ⟨wr.heap.size,1,none⟩ = some (.string (atN xs k).t):=(kc 1).trans (by simp [go_sem])
         have n2:w4.cell? ⟨wr.heap.size,2,none⟩ = some (.int .i64 A'):=(kc 2).trans (by simp [go_sem])
         have n3:w4.cell? ⟨wr.heap.size,3,none⟩ = some (.int .i64 (atN xs k).b):=(kc 3).trans (by simp [go_sem])
         clear hown4 hgrow4 hgr hnil4 hat4 kc a0 a1 a2 a3 HRP1 hpc
         go_wp2_with (at_builtin; refine wpList_append_own_at _ rfl (.tmp 125) (.tmp 127) 26 rfl Wb.heap.size 81 i2 _ 4 40 Tryz.underlying26 (zA HI2) (zA HZ2).1 (zA HZ2).2.1 (zA HZ2).2.2 rfl (by decide) _ vs.length (zH vs) rfl ((zA HRN4).below (zC _ _)) ⟨w4.heap.size,0,none⟩ 1 1 (zH [⟨(atN xs k).k,(atN xs k).t,A',(atN xs k).b⟩]) rfl rfl (zZ w4 ⟨(atN xs k).k,(atN xs k).t,A',(atN xs k).b⟩) (zL _) ?c1 ?c2 ?c3 ?next)
         case c1=>unfold maxLen; omega
         case c2=>omega
         case c3=>first | omega | (simp; omega)
         case next=>
          intro v6 w6 hown6 hgrow6 hnil6 hat6
          obtain ⟨g6,c6,rfl,hr6⟩:=zi.snoc hown6 (by simp [hnil6]) (zA HV')
          have HR6:=zB hr6
          have hgr6:World.grownBy _ w6 (some gN):=hgrow6
          have z6:w4.heap.size + 1 <= w6.heap.size:=by have:=hgr6.size; simpa using this
          have HRP6:=zB (zn (zF (zA HRP4) (zC w4 (.cells #[.int .i64 (atN xs k).k,.string (atN xs k).t,.int .i64 A',.int .i64 (atN xs k).b] 81))) hgr6 (by omega))
          have HBX6:=zB (show Below Wb.heap.size Wb w6 from ((zA HBX).alloc (by omega) _).grown hgr6 (by simp; omega) (fun q hq=>by injection hq with hq; omega))
          have hgg6:g6 = gN \/ w4.heap.size + 1 <= g6:=by simp [Value.ownBlock] at hat6; omega
          have hvl:(wo xs st (k + 1)).length <= k + 1:=by rw [Zz]; exact zCZ xs st (k + 1)
          clear hown6 hgrow6 hgr6 hnil6 hat6 hr6
          go_wp2_with fail
          refine ⟨⟨k + 1,g6,c6,g4,c4,gg,wo xs st (k + 1),ps ++ [(vs.length:Int)],by omega,by simp,rfl,rfl,rfl,by omega,HG',zB rfl,hvl,HP',HR6,HRP6,by omega,by omega,HBX6⟩,?_⟩
          simp [intOf]
          omega
       ·have HKK:=zB hk2'
        obtain ⟨ja,hja⟩:∃ ja:Nat,(atN xs k).a = (ja:Int):=⟨(atN xs k).a.toNat,by omega⟩
        have ei:(k:Int) - 1 = ((k - 1:Nat):Int):=by omega
        have hpl:ps.length = k:=by rw [zA HPS]; exact zAH _ _ _
        have hjk:ja < k - 1:=by omega
        obtain ⟨A',HA'⟩:∃ A',Hid (A' = atI ps ja):=⟨_,zB rfl⟩
        obtain ⟨B',HB'⟩:∃ B',Hid (B' = atI ps (k - 1)):=⟨_,zB rfl⟩
        have hpa:wr.cell? ⟨gP,ja,none⟩ = some (.int .i64 A'):=by rw [zA HA']; exact ((zA HRP).cellAt ja (by omega)).trans (Za ps ja (by omega))
        have hpb:wr.cell? ⟨gP,k - 1,none⟩ = some (.int .i64 B'):=by rw [zA HB']; exact ((zA HRP).cellAt (k - 1) (by omega)).trans (Za ps (k - 1) (by omega))
        have HV':=zB (show wo xs st (k + 1) = vs ++ [⟨(atN xs k).k,(atN xs k).t,A',B'⟩] by
         have e1:((k:Int) - 1).toNat + 1 = k - 1 + 1:=by omega
         have e2:((ja:Int)).toNat + 1 = ja + 1:=by omega
         rw [zA HW']
         unfold woN
         rw [hk2',hja,hbk,e1,e2,zA HA',zA HB',zA HPS,zAL _ _ _ _ (by omega),zAL _ _ _ _ (by omega)]
         rfl)
        rw [hja] at a2
        rw [hbk,ei] at a3
        have hk1I:((k - 1:Nat):Int) < (k:Int):=by omega
        have hjI:(ja:Int) < (k:Int):=by omega
        have hgPw:gP < wr.heap.size:=hgP.2
        have hgPn:¬ gP = wr.heap.size:=by omega
        have HNB:=zB (zC wr (.cells #[.int .i64 (atN xs k).k,.string (atN xs k).t,.int .i64 A',.int .i64 B'] 81))
        have HRP1:=zB (zF (zA HRP) (zA HNB))
        clear h6 hk2' hja hbk hrm hpl ha1 ha2'
        go_wp2_with (first | (go_at_call 55; refine (zQ (zA HKK) 2 rfl _).mono ?_; rintro e w' ⟨rfl,rfl⟩) | (at_builtin; refine wpList_append_own_at _ rfl (.tmp 120) (.tmp 123) 79 rfl Wb.heap.size 3 i1 _ 1 8 Tryz.underlying79 (zA HI1) (zA HZ1).1 (zA HZ1).2.1 (zA HZ1).2.2 rfl (by decide) _ k (zN ps) rfl (zF (zA HRP1) (zC _ _)) ⟨wr.heap.size + 1,0,none⟩ 1 1 (zN [(vs.length:Int)]) rfl rfl (ZN _ (wr.heap.size + 1) _ (by simp)) (ZB _) ?b1 ?b2 ?b3 ?next))
        case b1=>unfold maxLen; omega
        case b2=>omega
        case b3=>first | omega | (simp; omega)
        case next=>
         intro v4 w4 hown4 hgrow4 hnil4 hat4
         obtain ⟨g4,c4,rfl⟩:=zt hown4 (by simp [hnil4])
         rw [<- zg] at hown4
         have HRP4:=zB hown4
         have hgr:World.grownBy _ w4 (some gP):=hgrow4
         have z4:wr.heap.size + 2 <= w4.heap.size:=by have:=hgr.size; simpa using this
         have HRN4:=zB (show zi w4 Wb.heap.size gN cN vs from zn (zF (zF (zA HRN) (zA HNB)) (zC _ _)) hgr (by omega))
         have HBX:=zB (show Below Wb.heap.size Wb w4 from ((((zA hbx).trans ((zA HNB).mono (by omega)))).alloc (by simp; omega) _).grown hgr (by simp; omega) (fun q hq=>by injection hq with hq; omega))
         have hgg4:g4 = gP \/ wr.heap.size + 2 <= g4:=by simp [Value.ownBlock] at hat4; omega
         have hg4:g4 < w4.heap.size:=((zA HRP4).lt g4 rfl).2
         have kc:=fun (o':Nat)=>World.cell?_of_block (w':=w4) (a:=⟨wr.heap.size,o',none⟩) (hgr.block wr.heap.size (by simp; omega) (by simp; omega))
         have n0:w4.cell? ⟨wr.heap.size,0,none⟩ = some (.int .i64 (atN xs k).k):=(kc 0).trans (by simp [go_sem])
         have n1:w4.cell? ⟨wr.heap.size,1,none⟩ = some (.string (atN xs k).t):=(kc 1).trans (by simp [go_sem])
         have n2:w4.cell? ⟨wr.heap.size,2,none⟩ = some (.int .i64 A'):=(kc 2).trans (by simp [go_sem])
         have n3:w4.cell? ⟨wr.heap.size,3,none⟩ = some (.int .i64 B'):=(kc 3).trans (by simp [go_sem])
         clear hown4 hgrow4 hgr hnil4 hat4 kc a0 a1 a2 a3 HRP1 hpa hpb
         go_wp2_with (at_builtin; refine wpList_append_own_at _ rfl (.tmp 125) (.tmp 127) 26 rfl Wb.heap.size 81 i2 _ 4 40 Tryz.underlying26 (zA HI2) (zA HZ2).1 (zA HZ2).2.1 (zA HZ2).2.2 rfl (by decide) _ vs.length (zH vs) rfl ((zA HRN4).below (zC _ _)) ⟨w4.heap.size,0,none⟩ 1 1 (zH [⟨(atN xs k).k,(atN xs k).t,A',B'⟩]) rfl rfl (zZ w4 ⟨(atN xs k).k,(atN xs k).t,A',B'⟩) (zL _) ?c1 ?c2 ?c3 ?next)
         case c1=>unfold maxLen; omega
         case c2=>omega
         case c3=>first | omega | (simp; omega)
         case next=>
          intro v6 w6 hown6 hgrow6 hnil6 hat6
          obtain ⟨g6,c6,rfl,hr6⟩:=zi.snoc hown6 (by simp [hnil6]) (zA HV')
          have HR6:=zB hr6
          have hgr6:World.grownBy _ w6 (some gN):=hgrow6
          have z6:w4.heap.size + 1 <= w6.heap.size:=by have:=hgr6.size; simpa using this
          have HRP6:=zB (zn (zF (zA HRP4) (zC w4 (.cells #[.int .i64 (atN xs k).k,.string (atN xs k).t,.int .i64 A',.int .i64 B'] 81))) hgr6 (by omega))
          have HBX6:=zB (show Below Wb.heap.size Wb w6 from ((zA HBX).alloc (by omega) _).grown hgr6 (by simp; omega) (fun q hq=>by injection hq with hq; omega))
          have hgg6:g6 = gN \/ w4.heap.size + 1 <= g6:=by simp [Value.ownBlock] at hat6; omega
          have hvl:(wo xs st (k + 1)).length <= k + 1:=by rw [Zz]; exact zCZ xs st (k + 1)
          clear hown6 hgrow6 hgr6 hnil6 hat6 hr6
          go_wp2_with fail
          refine ⟨⟨k + 1,g6,c6,g4,c4,gg,wo xs st (k + 1),ps ++ [(vs.length:Int)],by omega,by simp,rfl,rfl,rfl,by omega,HG',zB rfl,hvl,HP',HR6,HRP6,by omega,by omega,HBX6⟩,?_⟩
          simp [intOf]
          omega
    ·have hnI:(0:Int) < (n:Int):=by omega
     have en1:(n:Int) - 1 = ((n - 1:Nat):Int):=by omega
     have hsb1:=(zA HSB) (n - 1) (by omega)
     have hfz1:=(zA HFZ) (n - 1)
     have hn1I:((n - 1:Nat):Int) < (n:Int):=by omega
     obtain ⟨st,HST⟩:∃ st:Nat -> Bool,Hid (st = fun i=>if i = n - 1 then false else zCl l i):=⟨_,zB rfl⟩
     have HEX:=zB (show 1 <= gcn xs xs.length -> ∃ i,i < gcn xs xs.length /\ st i = false from fun _=>by
      rw [<- zA HNE,zA HST]
      exact ⟨n - 1,by omega,by simp⟩)
     obtain ⟨Wb,hWb⟩:∃ Wb,Wb = wr.setCell ⟨g,n - 1,none⟩ (.bool false):=⟨_,rfl⟩
     have hWs:Wb.heap.size = wr.heap.size:=by rw [hWb]; simp [World.setCell]
     have hcell:∀ b,b ≠ g -> Wb.cell? ⟨b,0,none⟩ = wr.cell? ⟨b,0,none⟩:=fun b hb=>by rw [hWb]; exact World.cell?_setCell_other _ _ _ _ (fun e=>hb (by injection e with e; exact e.symm))
     have hfroz:∀ b,Wb.frozen? ⟨b,0,none⟩ = wr.frozen? ⟨b,0,none⟩:=fun b=>by rw [hWb]; exact World.frozen?_setCell _ _ _ _
     have HBL:=zB (show Below w.heap.size w Wb by rw [hWb]; exact (zA hbel).setCell (by show w.heap.size <= g; omega) _)
     have HSB':=zB (show ∀ i,i < n -> Wb.cell? ⟨g,i,none⟩ = some (.bool (st i)) from fun i hi=>by
      rw [hWb,zA HST]
      by_cases e:i = n - 1
      ·subst e
       simp only [if_true]
       exact World.cell?_setCell_same _ _ _ hsb1
      ·simp only [if_neg e]
       exact (World.cell?_setCell_other _ _ _ _ (fun h=>e (by injection h with _ h; exact h.symm))).trans ((zA HSB) i hi))
     clear HSB HST HFC HR HFZ
     go_wp2_with fail
     have tb:=(hcell w.heap.size (by omega)).trans t0
     have rb0:=(hcell (w.heap.size + 1) (by omega)).trans r0
     have rb1:=(hfroz (w.heap.size + 1)).trans r1
     have zb:w.heap.size + 2 < Wb.heap.size:=by omega
     have hgb:g < Wb.heap.size:=by omega
     have hbnb:bn < Wb.heap.size:=by have:=(zA HBL).size; omega
     have HWB:=zB (show Below Wb.heap.size Wb ((Wb.alloc (.cells #[] 81)).alloc (.cells #[] 3)) from (zC _ _).alloc (by simp) _)
     have HN0:=zB (show zi ((Wb.alloc (.cells #[] 81)).alloc (.cells #[] 3)) Wb.heap.size wr.heap.size 0 [] by
      have:=World.ownsRow_lit (base:=Wb.heap.size) (e:=81) (size:=4) Wb #[] 0 (Nat.le_refl _) (Nat.zero_le _) rfl
      rw [<- hWs]
      exact zi.below (by simpa [zi,zH] using this) (zC _ _))
     have HP0:=zB (show ((Wb.alloc (.cells #[] 81)).alloc (.cells #[] 3)).ownsRow Wb.heap.size 3 1 (.slice (some ⟨wr.heap.size + 1,0,none⟩) 0 0) 0 (zN []) by
      have:=World.ownsRow_lit (base:=Wb.heap.size) (e:=3) (size:=1) (Wb.alloc (.cells #[] 81)) #[] 0 (by simp) (Nat.zero_le _) rfl
      rw [<- hWs]
      simpa [zN] using this)
     go_loopw [10,11,12,13] (fun nv pv gv iv wx=>∃ (k gN cN gP cP gg:Nat) (vs:List zD) (ps:List Int),k <= xs.length /\ iv = .int .i64 (k:Int) /\ gv = .int .i64 (gg:Int) /\ nv = .slice (some ⟨gN,0,none⟩) vs.length cN /\ pv = .slice (some ⟨gP,0,none⟩) k cP /\ gg <= n /\ Hid (gg = gcn xs k) /\ Hid (vs = wo xs st k) /\ vs.length <= k /\ Hid (ps = zBc xs st k) /\ Hid (zi wx Wb.heap.size gN cN vs) /\ Hid (wx.ownsRow Wb.heap.size 3 1 (.slice (some ⟨gP,0,none⟩) k cP) k (zN ps)) /\ gN ≠ gP /\ Wb.heap.size + 1 < wx.heap.size /\ Hid (Below Wb.heap.size Wb wx)) (fun _ _ _ iv _=>xs.length - (intOf iv).toNat)
     case atStart=>
      refine ⟨0,wr.heap.size,0,wr.heap.size + 1,0,0,[],[],Nat.zero_le _,rfl,rfl,rfl,rfl,Nat.zero_le _,zB rfl,zB rfl,Nat.le_refl _,zB rfl,?_,?_,by omega,by simp [World.setCell]; omega,?_⟩
      ·rw [hWb] at HN0; rw [hWb]; exact HN0
      ·rw [hWb] at HP0; rw [hWb]; exact HP0
      ·rw [hWb] at HWB; rw [hWb]; exact HWB
     case round=>
      clear HN0 HP0 HWB hWs hWb hcell hfroz
      obtain ⟨k,gN,cN,gP,cP,gg,vs,ps,hk2,rfl,rfl,rfl,rfl,hgn,HGG,HVS,hvk,HPS,HRN,HRP,hNP,zx,hbx⟩:=hrel
      have tx:=((zA hbx).cell (p:=⟨w.heap.size,0,none⟩) (by show w.heap.size < Wb.heap.size; omega)).trans tb
      have rx:=((zA hbx).cell (p:=⟨w.heap.size + 1,0,none⟩) (by show w.heap.size + 1 < Wb.heap.size; omega)).trans rb0
      have rf:=((zA hbx).frozen (p:=⟨w.heap.size + 1,0,none⟩) (by show w.heap.size + 1 < Wb.heap.size; omega)).trans rb1
      have hgN:=(zA HRN).lt
      have hgP:=(zA HRP).lt gP rfl
      by_cases hlt2:k < xs.length
      case neg=>
       have hke:k = xs.length:=by omega
       subst hke
       have HFN:=zB (ZF (zA HRN))
       have HBW:=zB (show Below w.heap.size w wr from (zA HBL).trans ((zA hbx).mono (zA HBL).size))
       go_wp2_with fail
       refine bodyPost_ret (v:=.agg #[.slice (some ⟨gN,0,none⟩) vs.length cN]) ?res rfl ⟨⟨gN,cN,st,by rw [<- zA HVS],by have:=(zA HFN).1; omega,?_,zA HEX⟩,(zA HBW).setCell (by simp) _⟩
       case res=>simp [results,Tryz.results21,go_sem,rx]
       ·rw [<- zA HVS]
        exact (zA HFN).2.setCell _ _ _ (by have:=(zA HFN).1; omega)
      have hlt2I:(k:Int) < (xs.length:Int):=by omega
      have hbn2:bn < wr.heap.size:=by omega
      have HBW:=zB (show Below w.heap.size w wr from (zA HBL).trans ((zA hbx).mono (zA HBL).size))
      obtain ⟨a0,a1,a2,a3⟩:=((zA HW) k hlt2).below (zA HBW) hB
      rw [Nat.zero_add] at a0 a1 a2 a3
      by_cases h6:(atN xs k).k = 6
      ·have hgk:gg < n:=by
        have h1:=zDs xs (k + 1) xs.length (by omega)
        have h2:gcn xs (k + 1) = gcn xs k + 1:=by simp only [gcn,if_pos h6]
        rw [zA HGG,zA HNE]; omega
       have hsb:=((zA hbx).cell (p:=⟨g,gg,none⟩) (by show g < Wb.heap.size; omega)).trans ((zA HSB') gg hgk)
       rw [h6] at a0
       have hgw:g < wr.heap.size:=by omega
       have hgwn:¬ g = wr.heap.size:=by omega
       have hggI:(gg:Int) < (n:Int):=by omega
       cases hstg:st gg with
       | false=>
        rw [hstg] at hsb
        have hrm:(atN xs k).k = 6 /\ st (gcn xs k) = false:=⟨h6,by rw [<- zA HGG]; exact hstg⟩
        have HG':=zB (show gg + 1 = gcn xs (k + 1) by rw [zA HGG]; simp only [gcn,if_pos h6])
        have HV':=zB (show vs = wo xs st (k + 1) by rw [zA HVS]; simp only [wo,if_pos hrm])
        have HP':=zB (show ps ++ [(vs.length:Int) - 1] = zBc xs st (k + 1) by
         rw [zA HPS,zA HVS,Zz]
         simp only [zBc,kp,if_pos hrm])
        have HNB:=zB (zC wr (.cells #[.int .i64 6,.string (atN xs k).t,.int .i64 (atN xs k).a,.int .i64 (atN xs k).b] 81))
        have HRP1:=zB (zF (zA HRP) (zA HNB))
        clear h6 hstg hrm
        go_wp2_with (at_builtin; refine wpList_append_own_at _ rfl (.tmp 94) (.tmp 98) 79 rfl Wb.heap.size 3 i1 _ 1 8 Tryz.underlying79 (zA HI1) (zA HZ1).1 (zA HZ1).2.1 (zA HZ1).2.2 rfl (by decide) _ k (zN ps) rfl (zF (zA HRP1) (zC _ _)) ⟨wr.heap.size + 1,0,none⟩ 1 1 (zN [(vs.length:Int) - 1]) rfl rfl (ZN _ (wr.heap.size + 1) _ (by simp)) (ZB _) ?b1 ?b2 ?b3 ?next)
        case b1=>unfold maxLen; omega
        case b2=>omega
        case b3=>first | omega | (simp; omega)
        case next=>
         intro v4 w4 hown4 hgrow4 hnil4 hat4
         obtain ⟨g4,c4,rfl⟩:=zt hown4 (by simp [hnil4])
         rw [<- zg] at hown4
         have HRP4:=zB hown4
         have hgr:World.grownBy _ w4 (some gP):=hgrow4
         have z4:wr.heap.size + 2 <= w4.heap.size:=by have:=hgr.size; simpa using this
         have HRN4:=zB (show zi w4 Wb.heap.size gN cN vs from zn (zF (zF (zA HRN) (zA HNB)) (zC _ _)) hgr (by omega))
         have HBX:=zB (show Below Wb.heap.size Wb w4 from ((((zA hbx).trans ((zA HNB).mono (by omega)))).alloc (by simp; omega) _).grown hgr (by simp; omega) (fun q hq=>by injection hq with hq; omega))
         have hgg4:g4 = gP \/ wr.heap.size + 2 <= g4:=by simp [Value.ownBlock] at hat4; omega
         clear hown4 hgrow4 hgr hnil4 hat4
         go_wp2_with fail
         refine ⟨⟨k + 1,gN,cN,g4,c4,gg + 1,vs,ps ++ [(vs.length:Int) - 1],by omega,by simp,by simp,rfl,rfl,by omega,HG',HV',by omega,HP',HRN4,HRP4,by omega,by omega,HBX⟩,?_⟩
         simp [intOf]
         omega
       | true=>
        rw [hstg] at hsb
        have hrm:¬ ((atN xs k).k = 6 /\ st (gcn xs k) = false):=fun h=>by rw [<- zA HGG,hstg] at h; exact absurd h.2 (by decide)
        have HG':=zB (show gg + 1 = gcn xs (k + 1) by rw [zA HGG]; simp only [gcn,if_pos h6])
        have HP':=zB (show ps ++ [(vs.length:Int)] = zBc xs st (k + 1) by
         rw [zA HPS,zA HVS,Zz]
         simp only [zBc,kp,if_neg hrm]
         congr 2
         omega)
        obtain ⟨h1k,ha,hbz⟩:1 <= k /\ (atN xs k).a = (k:Int) - 1 /\ (atN xs k).b = 0:=by
         rcases (zA HOR).kidsAt hlt2 with ⟨h,_⟩ | ⟨_,h⟩ | ⟨h,_⟩
         ·rw [h6] at h; exact absurd h (by decide)
         ·exact h
         ·rw [h6] at h; exact absurd h (by decide)
        have HKK:=zB (show zR 6 = 1 from rfl)
        have ei:(k:Int) - 1 = ((k - 1:Nat):Int):=by omega
        have hpl:ps.length = k:=by rw [zA HPS]; exact zAH _ _ _
        obtain ⟨A',HA'⟩:∃ A',Hid (A' = atI ps (k - 1)):=⟨_,zB rfl⟩
        have hpc:wr.cell? ⟨gP,k - 1,none⟩ = some (.int .i64 A'):=by rw [zA HA']; exact ((zA HRP).cellAt (k - 1) (by omega)).trans (Za ps (k - 1) (by omega))
        have HV':=zB (show wo xs st (k + 1) = vs ++ [⟨6,(atN xs k).t,A',(atN xs k).b⟩] by
         have e1:((k:Int) - 1).toNat + 1 = k - 1 + 1:=by omega
         have e2:wo xs st (k + 1) = vs ++ [woN xs st (atN xs k)]:=by rw [zA HVS]; simp only [wo,if_neg hrm]
         rw [e2]
         unfold woN
         rw [h6,ha,e1,zA HA',zA HPS,zAL _ _ _ _ (by omega)]
         rfl)
        rw [ha,ei] at a2
        have hk1I:((k - 1:Nat):Int) < (k:Int):=by omega
        have hgPw:gP < wr.heap.size:=hgP.2
        have hgPn:¬ gP = wr.heap.size:=by omega
        have HNB:=zB (zC wr (.cells #[.int .i64 6,.string (atN xs k).t,.int .i64 A',.int .i64 (atN xs k).b] 81))
        have HRP1:=zB (zF (zA HRP) (zA HNB))
        clear h6 hstg ha hbz hrm hpl
        go_wp2_with (first | (go_at_call 55; refine (zQ (zA HKK) 1 rfl _).mono ?_; rintro e w' ⟨rfl,rfl⟩) | (at_builtin; refine wpList_append_own_at _ rfl (.tmp 120) (.tmp 123) 79 rfl Wb.heap.size 3 i1 _ 1 8 Tryz.underlying79 (zA HI1) (zA HZ1).1 (zA HZ1).2.1 (zA HZ1).2.2 rfl (by decide) _ k (zN ps) rfl (zF (zA HRP1) (zC _ _)) ⟨wr.heap.size + 1,0,none⟩ 1 1 (zN [(vs.length:Int)]) rfl rfl (ZN _ (wr.heap.size + 1) _ (by simp)) (ZB _) ?b1 ?b2 ?b3 ?next))
        case b1=>unfold maxLen; omega
        case b2=>omega
        case b3=>first | omega | (simp; omega)
        case next=>
         intro v4 w4 hown4 hgrow4 hnil4 hat4
         obtain ⟨g4,c4,rfl⟩:=zt hown4 (by simp [hnil4])
         rw [<- zg] at hown4
         have HRP4:=zB hown4
         have hgr:World.grownBy _ w4 (some gP):=hgrow4
         have z4:wr.heap.size + 2 <= w4.heap.size:=by have:=hgr.size; simpa using this
         have HRN4:=zB (show zi w4 Wb.heap.size gN cN vs from zn (zF (zF (zA HRN) (zA HNB)) (zC _ _)) hgr (by omega))
         have HBX:=zB (show Below Wb.heap.size Wb w4 from ((((zA hbx).trans ((zA HNB).mono (by omega)))).alloc (by simp; omega) _).grown hgr (by simp; omega) (fun q hq=>by injection hq with hq; omega))
         have hgg4:g4 = gP \/ wr.heap.size + 2 <= g4:=by simp [Value.ownBlock] at hat4; omega
         have hg4:g4 < w4.heap.size:=((zA HRP4).lt g4 rfl).2
         have kc:=fun (o':Nat)=>World.cell?_of_block (w':=w4) (a:=⟨wr.heap.size,o',none⟩) (hgr.block wr.heap.size (by simp; omega) (by simp; omega))
         have n0:w4.cell? ⟨wr.heap.size,0,none⟩ = some (.int .i64 6):=(kc 0).trans (by simp [go_sem])
         have n1:w4.cell? ⟨wr.heap.size,1,none⟩ = some (.string (atN xs k).t):=(kc 1).trans (by simp [go_sem])
         have n2:w4.cell? ⟨wr.heap.size,2,none⟩ = some (.int .i64 A'):=(kc 2).trans (by simp [go_sem])
         have n3:w4.cell? ⟨wr.heap.size,3,none⟩ = some (.int .i64 (atN xs k).b):=(kc 3).trans (by simp [go_sem])
         clear hown4 hgrow4 hgr hnil4 hat4 kc a0 a1 a2 a3 HRP1 hpc hsb
         go_wp2_with (at_builtin; refine wpList_append_own_at _ rfl (.tmp 125) (.tmp 127) 26 rfl Wb.heap.size 81 i2 _ 4 40 Tryz.underlying26 (zA HI2) (zA HZ2).1 (zA HZ2).2.1 (zA HZ2).2.2 rfl (by decide) _ vs.length (zH vs) rfl ((zA HRN4).below (zC _ _)) ⟨w4.heap.size,0,none⟩ 1 1 (zH [⟨6,(atN xs k).t,A',(atN xs k).b⟩]) rfl rfl (zZ w4 ⟨6,(atN xs k).t,A',(atN xs k).b⟩) (zL _) ?c1 ?c2 ?c3 ?next)
         case c1=>unfold maxLen; omega
         case c2=>omega
         case c3=>first | omega | (simp; omega)
         case next=>
          intro v6 w6 hown6 hgrow6 hnil6 hat6
          obtain ⟨g6,c6,rfl,hr6⟩:=zi.snoc hown6 (by simp [hnil6]) (zA HV')
          have HR6:=zB hr6
          have hgr6:World.grownBy _ w6 (some gN):=hgrow6
          have z6:w4.heap.size + 1 <= w6.heap.size:=by have:=hgr6.size; simpa using this
          have HRP6:=zB (zn (zF (zA HRP4) (zC w4 (.cells #[.int .i64 6,.string (atN xs k).t,.int .i64 A',.int .i64 (atN xs k).b] 81))) hgr6 (by omega))
          have HBX6:=zB (show Below Wb.heap.size Wb w6 from ((zA HBX).alloc (by omega) _).grown hgr6 (by simp; omega) (fun q hq=>by injection hq with hq; omega))
          have hgg6:g6 = gN \/ w4.heap.size + 1 <= g6:=by simp [Value.ownBlock] at hat6; omega
          have hvl:(wo xs st (k + 1)).length <= k + 1:=by rw [Zz]; exact zCZ xs st (k + 1)
          clear hown6 hgrow6 hgr6 hnil6 hat6 hr6
          go_wp2_with fail
          refine ⟨⟨k + 1,g6,c6,g4,c4,(gg + 1),wo xs st (k + 1),ps ++ [(vs.length:Int)],by omega,by simp,by simp,rfl,rfl,by omega,HG',zB rfl,hvl,HP',HR6,HRP6,by omega,by omega,HBX6⟩,?_⟩
          simp [intOf]
          omega
      ·have h6':((atN xs k).k == 6) = false:=by simpa using h6
       have hrm:¬ ((atN xs k).k = 6 /\ st (gcn xs k) = false):=fun h=>h6 h.1
       have HG':=zB (show gg = gcn xs (k + 1) by rw [zA HGG]; simp only [gcn,if_neg h6])
       have HP':=zB (show ps ++ [(vs.length:Int)] = zBc xs st (k + 1) by
        rw [zA HPS,zA HVS,Zz]
        simp only [zBc,kp,if_neg hrm]
        congr 2
        omega)
       have HW':=zB (show wo xs st (k + 1) = vs ++ [woN xs st (atN xs k)] by rw [zA HVS]; simp only [wo,if_neg hrm])
       rcases (zA HOR).kidsAt hlt2 with ⟨hk0,ha0,hb0⟩ | ⟨hk1,h1k,ha,hbz⟩ | ⟨hk2',h2k,hbk,ha1,ha2'⟩
       ·have HKK:=zB hk0
        have HV':=zB (show wo xs st (k + 1) = vs ++ [⟨(atN xs k).k,(atN xs k).t,(atN xs k).a,(atN xs k).b⟩] by
         rw [zA HW']; simp [woN,hk0])
        have HNB:=zB (zC wr (.cells #[.int .i64 (atN xs k).k,.string (atN xs k).t,.int .i64 (atN xs k).a,.int .i64 (atN xs k).b] 81))
        have HRP1:=zB (zF (zA HRP) (zA HNB))
        clear h6 hk0 ha0 hb0 hrm
        go_wp2_with (first | (go_at_call 55; refine (zQ (zA HKK) 0 rfl _).mono ?_; rintro e w' ⟨rfl,rfl⟩) | (at_builtin; refine wpList_append_own_at _ rfl (.tmp 120) (.tmp 123) 79 rfl Wb.heap.size 3 i1 _ 1 8 Tryz.underlying79 (zA HI1) (zA HZ1).1 (zA HZ1).2.1 (zA HZ1).2.2 rfl (by decide) _ k (zN ps) rfl (zF (zA HRP1) (zC _ _)) ⟨wr.heap.size + 1,0,none⟩ 1 1 (zN [(vs.length:Int)]) rfl rfl (ZN _ (wr.heap.size + 1) _ (by simp)) (ZB _) ?b1 ?b2 ?b3 ?next))
        case b1=>unfold maxLen; omega
        case b2=>omega
        case b3=>first | omega | (simp; omega)
        case next=>
         intro v4 w4 hown4 hgrow4 hnil4 hat4
         obtain ⟨g4,c4,rfl⟩:=zt hown4 (by simp [hnil4])
         rw [<- zg] at hown4
         have HRP4:=zB hown4
         have hgr:World.grownBy _ w4 (some gP):=hgrow4
         have z4:wr.heap.size + 2 <= w4.heap.size:=by have:=hgr.size; simpa using this
         have HRN4:=zB (show zi w4 Wb.heap.size gN cN vs from zn (zF (zF (zA HRN) (zA HNB)) (zC _ _)) hgr (by omega))
         have HBX:=zB (show Below Wb.heap.size Wb w4 from ((((zA hbx).trans ((zA HNB).mono (by omega)))).alloc (by simp; omega) _).grown hgr (by simp; omega) (fun q hq=>by injection hq with hq; omega))
         have hgg4:g4 = gP \/ wr.heap.size + 2 <= g4:=by simp [Value.ownBlock] at hat4; omega
         have hg4:g4 < w4.heap.size:=((zA HRP4).lt g4 rfl).2
         have kc:=fun (o':Nat)=>World.cell?_of_block (w':=w4) (a:=⟨wr.heap.size,o',none⟩) (hgr.block wr.heap.size (by simp; omega) (by simp; omega))
         have n0:w4.cell? ⟨wr.heap.size,0,none⟩ = some (.int .i64 (atN xs k).k):=(kc 0).trans (by simp [go_sem])
         have n1:w4.cell? ⟨wr.heap.size,1,none⟩ = some (.string (atN xs k).t):=(kc 1).trans (by simp [go_sem])
         have n2:w4.cell? ⟨wr.heap.size,2,none⟩ = some (.int .i64 (atN xs k).a):=(kc 2).trans (by simp [go_sem])
         have n3:w4.cell? ⟨wr.heap.size,3,none⟩ = some (.int .i64 (atN xs k).b):=(kc 3).trans (by simp [go_sem])
         clear hown4 hgrow4 hgr hnil4 hat4 kc a0 a1 a2 a3 HRP1
         go_wp2_with (at_builtin; refine wpList_append_own_at _ rfl (.tmp 125) (.tmp 127) 26 rfl Wb.heap.size 81 i2 _ 4 40 Tryz.underlying26 (zA HI2) (zA HZ2).1 (zA HZ2).2.1 (zA HZ2).2.2 rfl (by decide) _ vs.length (zH vs) rfl ((zA HRN4).below (zC _ _)) ⟨w4.heap.size,0,none⟩ 1 1 (zH [⟨(atN xs k).k,(atN xs k).t,(atN xs k).a,(atN xs k).b⟩]) rfl rfl (zZ w4 ⟨(atN xs k).k,(atN xs k).t,(atN xs k).a,(atN xs k).b⟩) (zL _) ?c1 ?c2 ?c3 ?next)
         case c1=>unfold maxLen; omega
         case c2=>omega
         case c3=>first | omega | (simp; omega)
         case next=>
          intro v6 w6 hown6 hgrow6 hnil6 hat6
          obtain ⟨g6,c6,rfl,hr6⟩:=zi.snoc hown6 (by simp [hnil6]) (zA HV')
          have HR6:=zB hr6
          have hgr6:World.grownBy _ w6 (some gN):=hgrow6
          have z6:w4.heap.size + 1 <= w6.heap.size:=by have:=hgr6.size; simpa using this
          have HRP6:=zB (zn (zF (zA HRP4) (zC w4 (.cells #[.int .i64 (atN xs k).k,.string (atN xs k).t,.int .i64 (atN xs k).a,.int .i64 (atN xs k).b] 81))) hgr6 (by omega))
          have HBX6:=zB (show Below Wb.heap.size Wb w6 from ((zA HBX).alloc (by omega) _).grown hgr6 (by simp; omega) (fun q hq=>by injection hq with hq; omega))
          have hgg6:g6 = gN \/ w4.heap.size + 1 <= g6:=by simp [Value.ownBlock] at hat6; omega
          have hvl:(wo xs st (k + 1)).length <= k + 1:=by rw [Zz]; exact zCZ xs st (k + 1)
          clear hown6 hgrow6 hgr6 hnil6 hat6 hr6
          go_wp2_with fail
          refine ⟨⟨k + 1,g6,c6,g4,c4,gg,wo xs st (k + 1),ps ++ [(vs.length:Int)],by omega,by simp,rfl,rfl,rfl,by omega,HG',zB rfl,hvl,HP',HR6,HRP6,by omega,by omega,HBX6⟩,?_⟩
          simp [intOf]
          omega
       ·have HKK:=zB hk1
        have ei:(k:Int) - 1 = ((k - 1:Nat):Int):=by omega
        have hpl:ps.length = k:=by rw [zA HPS]; exact zAH _ _ _
        obtain ⟨A',HA'⟩:∃ A',Hid (A' = atI ps (k - 1)):=⟨_,zB rfl⟩
        have hpc:wr.cell? ⟨gP,k - 1,none⟩ = some (.int .i64 A'):=by rw [zA HA']; exact ((zA HRP).cellAt (k - 1) (by omega)).trans (Za ps (k - 1) (by omega))
        have HV':=zB (show wo xs st (k + 1) = vs ++ [⟨(atN xs k).k,(atN xs k).t,A',(atN xs k).b⟩] by
         have e1:((k:Int) - 1).toNat + 1 = k - 1 + 1:=by omega
         rw [zA HW']
         unfold woN
         rw [hk1,ha,e1,zA HA',zA HPS,zAL _ _ _ _ (by omega)]
         rfl)
        rw [ha,ei] at a2
        have hk1I:((k - 1:Nat):Int) < (k:Int):=by omega
        have hgPw:gP < wr.heap.size:=hgP.2
        have hgPn:¬ gP = wr.heap.size:=by omega
        have HNB:=zB (zC wr (.cells #[.int .i64 (atN xs k).k,.string (atN xs k).t,.int .i64 A',.int .i64 (atN xs k).b] 81))
        have HRP1:=zB (zF (zA HRP) (zA HNB))
        clear h6 hk1 ha hbz hrm hpl
        go_wp2_with (first | (go_at_call 55; refine (zQ (zA HKK) 1 rfl _).mono ?_; rintro e w' ⟨rfl,rfl⟩) | (at_builtin; refine wpList_append_own_at _ rfl (.tmp 120) (.tmp 123) 79 rfl Wb.heap.size 3 i1 _ 1 8 Tryz.underlying79 (zA HI1) (zA HZ1).1 (zA HZ1).2.1 (zA HZ1).2.2 rfl (by decide) _ k (zN ps) rfl (zF (zA HRP1) (zC _ _)) ⟨wr.heap.size + 1,0,none⟩ 1 1 (zN [(vs.length:Int)]) rfl rfl (ZN _ (wr.heap.size + 1) _ (by simp)) (ZB _) ?b1 ?b2 ?b3 ?next))
        case b1=>unfold maxLen; omega
        case b2=>omega
        case b3=>first | omega | (simp; omega)
        case next=>
         intro v4 w4 hown4 hgrow4 hnil4 hat4
         obtain ⟨g4,c4,rfl⟩:=zt hown4 (by simp [hnil4])
         rw [<- zg] at hown4
         have HRP4:=zB hown4
         have hgr:World.grownBy _ w4 (some gP):=hgrow4
         have z4:wr.heap.size + 2 <= w4.heap.size:=by have:=hgr.size; simpa using this
         have HRN4:=zB (show zi w4 Wb.heap.size gN cN vs from zn (zF (zF (zA HRN) (zA HNB)) (zC _ _)) hgr (by omega))
         have HBX:=zB (show Below Wb.heap.size Wb w4 from ((((zA hbx).trans ((zA HNB).mono (by omega)))).alloc (by simp; omega) _).grown hgr (by simp; omega) (fun q hq=>by injection hq with hq; omega))
         have hgg4:g4 = gP \/ wr.heap.size + 2 <= g4:=by simp [Value.ownBlock] at hat4; omega
         have hg4:g4 < w4.heap.size:=((zA HRP4).lt g4 rfl).2
         have kc:=fun (o':Nat)=>World.cell?_of_block (w':=w4) (a:=⟨wr.heap.size,o',none⟩) (hgr.block wr.heap.size (by simp; omega) (by simp; omega))
         have n0:w4.cell? ⟨wr.heap.size,0,none⟩ = some (.int .i64 (atN xs k).k):=(kc 0).trans (by simp [go_sem])
         have n1:w4.cell? ⟨wr.heap.size,1,none⟩ = some (.string (atN xs k).t):=(kc 1).trans (by simp [go_sem])
         have n2:w4.cell? ⟨wr.heap.size,2,none⟩ = some (.int .i64 A'):=(kc 2).trans (by simp [go_sem])
         have n3:w4.cell? ⟨wr.heap.size,3,none⟩ = some (.int .i64 (atN xs k).b):=(kc 3).trans (by simp [go_sem])
         clear hown4 hgrow4 hgr hnil4 hat4 kc a0 a1 a2 a3 HRP1 hpc
         go_wp2_with (at_builtin; refine wpList_append_own_at _ rfl (.tmp 125) (.tmp 127) 26 rfl Wb.heap.size 81 i2 _ 4 40 Tryz.underlying26 (zA HI2) (zA HZ2).1 (zA HZ2).2.1 (zA HZ2).2.2 rfl (by decide) _ vs.length (zH vs) rfl ((zA HRN4).below (zC _ _)) ⟨w4.heap.size,0,none⟩ 1 1 (zH [⟨(atN xs k).k,(atN xs k).t,A',(atN xs k).b⟩]) rfl rfl (zZ w4 ⟨(atN xs k).k,(atN xs k).t,A',(atN xs k).b⟩) (zL _) ?c1 ?c2 ?c3 ?next)
         case c1=>unfold maxLen; omega
         case c2=>omega
         case c3=>first | omega | (simp; omega)
         case next=>
          intro v6 w6 hown6 hgrow6 hnil6 hat6
          obtain ⟨g6,c6,rfl,hr6⟩:=zi.snoc hown6 (by simp [hnil6]) (zA HV')
          have HR6:=zB hr6
          have hgr6:World.grownBy _ w6 (some gN):=hgrow6
          have z6:w4.heap.size + 1 <= w6.heap.size:=by have:=hgr6.size; simpa using this
          have HRP6:=zB (zn (zF (zA HRP4) (zC w4 (.cells #[.int .i64 (atN xs k).k,.string (atN xs k).t,.int .i64 A',.int .i64 (atN xs k).b] 81))) hgr6 (by omega))
          have HBX6:=zB (show Below Wb.heap.size Wb w6 from ((zA HBX).alloc (by omega) _).grown hgr6 (by simp; omega) (fun q hq=>by injection hq with hq; omega))
          have hgg6:g6 = gN \/ w4.heap.size + 1 <= g6:=by simp [Value.ownBlock] at hat6; omega
          have hvl:(wo xs st (k + 1)).length <= k + 1:=by rw [Zz]; exact zCZ xs st (k + 1)
          clear hown6 hgrow6 hgr6 hnil6 hat6 hr6
          go_wp2_with fail
          refine ⟨⟨k + 1,g6,c6,g4,c4,gg,wo xs st (k + 1),ps ++ [(vs.length:Int)],by omega,by simp,rfl,rfl,rfl,by omega,HG',zB rfl,hvl,HP',HR6,HRP6,by omega,by omega,HBX6⟩,?_⟩
          simp [intOf]
          omega
       ·have HKK:=zB hk2'
        obtain ⟨ja,hja⟩:∃ ja:Nat,(atN xs k).a = (ja:Int):=⟨(atN xs k).a.toNat,by omega⟩
        have ei:(k:Int) - 1 = ((k - 1:Nat):Int):=by omega
        have hpl:ps.length = k:=by rw [zA HPS]; exact zAH _ _ _
        have hjk:ja < k - 1:=by omega
        obtain ⟨A',HA'⟩:∃ A',Hid (A' = atI ps ja):=⟨_,zB rfl⟩
        obtain ⟨B',HB'⟩:∃ B',Hid (B' = atI ps (k - 1)):=⟨_,zB rfl⟩
        have hpa:wr.cell? ⟨gP,ja,none⟩ = some (.int .i64 A'):=by rw [zA HA']; exact ((zA HRP).cellAt ja (by omega)).trans (Za ps ja (by omega))
        have hpb:wr.cell? ⟨gP,k - 1,none⟩ = some (.int .i64 B'):=by rw [zA HB']; exact ((zA HRP).cellAt (k - 1) (by omega)).trans (Za ps (k - 1) (by omega))
        have HV':=zB (show wo xs st (k + 1) = vs ++ [⟨(atN xs k).k,(atN xs k).t,A',B'⟩] by
         have e1:((k:Int) - 1).toNat + 1 = k - 1 + 1:=by omega
         have e2:((ja:Int)).toNat + 1 = ja + 1:=by omega
         rw [zA HW']
         unfold woN
         rw [hk2',hja,hbk,e1,e2,zA HA',zA HB',zA HPS,zAL _ _ _ _ (by omega),zAL _ _ _ _ (by omega)]
         rfl)
        rw [hja] at a2
        rw [hbk,ei] at a3
        have hk1I:((k - 1:Nat):Int) < (k:Int):=by omega
        have hjI:(ja:Int) < (k:Int):=by omega
        have hgPw:gP < wr.heap.size:=hgP.2
        have hgPn:¬ gP = wr.heap.size:=by omega
        have HNB:=zB (zC wr (.cells #[.int .i64 (atN xs k).k,.string (atN xs k).t,.int .i64 A',.int .i64 B'] 81))
        have HRP1:=zB (zF (zA HRP) (zA HNB))
        clear h6 hk2' hja hbk hrm hpl ha1 ha2'
        go_wp2_with (first | (go_at_call 55; refine (zQ (zA HKK) 2 rfl _).mono ?_; rintro e w' ⟨rfl,rfl⟩) | (at_builtin; refine wpList_append_own_at _ rfl (.tmp 120) (.tmp 123) 79 rfl Wb.heap.size 3 i1 _ 1 8 Tryz.underlying79 (zA HI1) (zA HZ1).1 (zA HZ1).2.1 (zA HZ1).2.2 rfl (by decide) _ k (zN ps) rfl (zF (zA HRP1) (zC _ _)) ⟨wr.heap.size + 1,0,none⟩ 1 1 (zN [(vs.length:Int)]) rfl rfl (ZN _ (wr.heap.size + 1) _ (by simp)) (ZB _) ?b1 ?b2 ?b3 ?next))
        case b1=>unfold maxLen; omega
        case b2=>omega
        case b3=>first | omega | (simp; omega)
        case next=>
         intro v4 w4 hown4 hgrow4 hnil4 hat4
         obtain ⟨g4,c4,rfl⟩:=zt hown4 (by simp [hnil4])
         rw [<- zg] at hown4
         have HRP4:=zB hown4
         have hgr:World.grownBy _ w4 (some gP):=hgrow4
         have z4:wr.heap.size + 2 <= w4.heap.size:=by have:=hgr.size; simpa using this
         have HRN4:=zB (show zi w4 Wb.heap.size gN cN vs from zn (zF (zF (zA HRN) (zA HNB)) (zC _ _)) hgr (by omega))
         have HBX:=zB (show Below Wb.heap.size Wb w4 from ((((zA hbx).trans ((zA HNB).mono (by omega)))).alloc (by simp; omega) _).grown hgr (by simp; omega) (fun q hq=>by injection hq with hq; omega))
         have hgg4:g4 = gP \/ wr.heap.size + 2 <= g4:=by simp [Value.ownBlock] at hat4; omega
         have hg4:g4 < w4.heap.size:=((zA HRP4).lt g4 rfl).2
         have kc:=fun (o':Nat)=>World.cell?_of_block (w':=w4) (a:=⟨wr.heap.size,o',none⟩) (hgr.block wr.heap.size (by simp; omega) (by simp; omega))
         have n0:w4.cell? ⟨wr.heap.size,0,none⟩ = some (.int .i64 (atN xs k).k):=(kc 0).trans (by simp [go_sem])
         have n1:w4.cell? ⟨wr.heap.size,1,none⟩ = some (.string (atN xs k).t):=(kc 1).trans (by simp [go_sem])
         have n2:w4.cell? ⟨wr.heap.size,2,none⟩ = some (.int .i64 A'):=(kc 2).trans (by simp [go_sem])
         have n3:w4.cell? ⟨wr.heap.size,3,none⟩ = some (.int .i64 B'):=(kc 3).trans (by simp [go_sem])
         clear hown4 hgrow4 hgr hnil4 hat4 kc a0 a1 a2 a3 HRP1 hpa hpb
         go_wp2_with (at_builtin; refine wpList_append_own_at _ rfl (.tmp 125) (.tmp 127) 26 rfl Wb.heap.size 81 i2 _ 4 40 Tryz.underlying26 (zA HI2) (zA HZ2).1 (zA HZ2).2.1 (zA HZ2).2.2 rfl (by decide) _ vs.length (zH vs) rfl ((zA HRN4).below (zC _ _)) ⟨w4.heap.size,0,none⟩ 1 1 (zH [⟨(atN xs k).k,(atN xs k).t,A',B'⟩]) rfl rfl (zZ w4 ⟨(atN xs k).k,(atN xs k).t,A',B'⟩) (zL _) ?c1 ?c2 ?c3 ?next)
         case c1=>unfold maxLen; omega
         case c2=>omega
         case c3=>first | omega | (simp; omega)
         case next=>
          intro v6 w6 hown6 hgrow6 hnil6 hat6
          obtain ⟨g6,c6,rfl,hr6⟩:=zi.snoc hown6 (by simp [hnil6]) (zA HV')
          have HR6:=zB hr6
          have hgr6:World.grownBy _ w6 (some gN):=hgrow6
          have z6:w4.heap.size + 1 <= w6.heap.size:=by have:=hgr6.size; simpa using this
          have HRP6:=zB (zn (zF (zA HRP4) (zC w4 (.cells #[.int .i64 (atN xs k).k,.string (atN xs k).t,.int .i64 A',.int .i64 B'] 81))) hgr6 (by omega))
          have HBX6:=zB (show Below Wb.heap.size Wb w6 from ((zA HBX).alloc (by omega) _).grown hgr6 (by simp; omega) (fun q hq=>by injection hq with hq; omega))
          have hgg6:g6 = gN \/ w4.heap.size + 1 <= g6:=by simp [Value.ownBlock] at hat6; omega
          have hvl:(wo xs st (k + 1)).length <= k + 1:=by rw [Zz]; exact zCZ xs st (k + 1)
          clear hown6 hgrow6 hgr6 hnil6 hat6 hr6
          go_wp2_with fail
          refine ⟨⟨k + 1,g6,c6,g4,c4,gg,wo xs st (k + 1),ps ++ [(vs.length:Int)],by omega,by simp,rfl,rfl,rfl,by omega,HG',zB rfl,hvl,HP',HR6,HRP6,by omega,by omega,HBX6⟩,?_⟩
          simp [intOf]
          omega
   have hfcI:((fc:Int) == 0) = false:=beq_eq_false_iff_ne.2 (by omega)
   obtain ⟨st,HST⟩:∃ st,Hid (st = zCl l):=⟨_,zB rfl⟩
   have HEX:=zB (show 1 <= gcn xs xs.length -> ∃ i,i < gcn xs xs.length /\ st i = false from fun _=>by
    rw [<- zA HNE,zA HST]
    refine Classical.byContradiction fun h=>hfc ((zA HFC).2 (fun i hi=>?_))
    cases e:zCl l i with
    | true=>rfl
    | false=>exact absurd ⟨i,hi,e⟩ h)
   obtain ⟨Wb,hWb⟩:∃ Wb,Wb = wr:=⟨_,rfl⟩
   have hWs:Wb.heap.size = wr.heap.size:=by rw [hWb]
   have hcell:∀ b,b ≠ g -> Wb.cell? ⟨b,0,none⟩ = wr.cell? ⟨b,0,none⟩:=fun b _=>by rw [hWb]
   have hfroz:∀ b,Wb.frozen? ⟨b,0,none⟩ = wr.frozen? ⟨b,0,none⟩:=fun b=>by rw [hWb]
   have HBL:=zB (show Below w.heap.size w Wb by rw [hWb]; exact zA hbel)
   have HSB':=zB (show ∀ i,i < n -> Wb.cell? ⟨g,i,none⟩ = some (.bool (st i)) by rw [zA HST,hWb]; exact zA HSB)
   clear HSB HST HFC HR
   go_wp2_with fail
   have tb:=(hcell w.heap.size (by omega)).trans t0
   have rb0:=(hcell (w.heap.size + 1) (by omega)).trans r0
   have rb1:=(hfroz (w.heap.size + 1)).trans r1
   have zb:w.heap.size + 2 < Wb.heap.size:=by omega
   have hgb:g < Wb.heap.size:=by omega
   have hbnb:bn < Wb.heap.size:=by have:=(zA HBL).size; omega
   have HWB:=zB (show Below Wb.heap.size Wb ((Wb.alloc (.cells #[] 81)).alloc (.cells #[] 3)) from (zC _ _).alloc (by simp) _)
   have HN0:=zB (show zi ((Wb.alloc (.cells #[] 81)).alloc (.cells #[] 3)) Wb.heap.size wr.heap.size 0 [] by
    have:=World.ownsRow_lit (base:=Wb.heap.size) (e:=81) (size:=4) Wb #[] 0 (Nat.le_refl _) (Nat.zero_le _) rfl
    rw [<- hWs]
    exact zi.below (by simpa [zi,zH] using this) (zC _ _))
   have HP0:=zB (show ((Wb.alloc (.cells #[] 81)).alloc (.cells #[] 3)).ownsRow Wb.heap.size 3 1 (.slice (some ⟨wr.heap.size + 1,0,none⟩) 0 0) 0 (zN []) by
    have:=World.ownsRow_lit (base:=Wb.heap.size) (e:=3) (size:=1) (Wb.alloc (.cells #[] 81)) #[] 0 (by simp) (Nat.zero_le _) rfl
    rw [<- hWs]
    simpa [zN] using this)
   go_loopw [10,11,12,13] (fun nv pv gv iv wx=>∃ (k gN cN gP cP gg:Nat) (vs:List zD) (ps:List Int),k <= xs.length /\ iv = .int .i64 (k:Int) /\ gv = .int .i64 (gg:Int) /\ nv = .slice (some ⟨gN,0,none⟩) vs.length cN /\ pv = .slice (some ⟨gP,0,none⟩) k cP /\ gg <= n /\ Hid (gg = gcn xs k) /\ Hid (vs = wo xs st k) /\ vs.length <= k /\ Hid (ps = zBc xs st k) /\ Hid (zi wx Wb.heap.size gN cN vs) /\ Hid (wx.ownsRow Wb.heap.size 3 1 (.slice (some ⟨gP,0,none⟩) k cP) k (zN ps)) /\ gN ≠ gP /\ Wb.heap.size + 1 < wx.heap.size /\ Hid (Below Wb.heap.size Wb wx)) (fun _ _ _ iv _=>xs.length - (intOf iv).toNat)
   case atStart=>
    refine ⟨0,wr.heap.size,0,wr.heap.size + 1,0,0,[],[],Nat.zero_le _,rfl,rfl,rfl,rfl,Nat.zero_le _,zB rfl,zB rfl,Nat.le_refl _,zB rfl,?_,?_,by omega,by simp [World.setCell]; omega,?_⟩
    ·rw [hWb] at HN0; rw [hWb]; exact HN0
    ·rw [hWb] at HP0; rw [hWb]; exact HP0
    ·rw [hWb] at HWB; rw [hWb]; exact HWB
   case round=>
    clear HN0 HP0 HWB hWs hWb hcell hfroz
    obtain ⟨k,gN,cN,gP,cP,gg,vs,ps,hk2,rfl,rfl,rfl,rfl,hgn,HGG,HVS,hvk,HPS,HRN,HRP,hNP,zx,hbx⟩:=hrel
    have tx:=((zA hbx).cell (p:=⟨w.heap.size,0,none⟩) (by show w.heap.size < Wb.heap.size; omega)).trans tb
    have rx:=((zA hbx).cell (p:=⟨w.heap.size + 1,0,none⟩) (by show w.heap.size + 1 < Wb.heap.size; omega)).trans rb0
    have rf:=((zA hbx).frozen (p:=⟨w.heap.size + 1,0,none⟩) (by show w.heap.size + 1 < Wb.heap.size; omega)).trans rb1
    have hgN:=(zA HRN).lt
    have hgP:=(zA HRP).lt gP rfl
    by_cases hlt2:k < xs.length
    case neg=>
     have hke:k = xs.length:=by omega
     subst hke
     have HFN:=zB (ZF (zA HRN))
     have HBW:=zB (show Below w.heap.size w wr from (zA HBL).trans ((zA hbx).mono (zA HBL).size))
     go_wp2_with fail
     refine bodyPost_ret (v:=.agg #[.slice (some ⟨gN,0,none⟩) vs.length cN]) ?res rfl ⟨⟨gN,cN,st,by rw [<- zA HVS],by have:=(zA HFN).1; omega,?_,zA HEX⟩,(zA HBW).setCell (by simp) _⟩
     case res=>simp [results,Tryz.results21,go_sem,rx]
     ·rw [<- zA HVS]
      exact (zA HFN).2.setCell _ _ _ (by have:=(zA HFN).1; omega)
    have hlt2I:(k:Int) < (xs.length:Int):=by omega
    have hbn2:bn < wr.heap.size:=by omega
    have HBW:=zB (show Below w.heap.size w wr from (zA HBL).trans ((zA hbx).mono (zA HBL).size))
    obtain ⟨a0,a1,a2,a3⟩:=((zA HW) k hlt2).below (zA HBW) hB
    rw [Nat.zero_add] at a0 a1 a2 a3
    by_cases h6:(atN xs k).k = 6
    ·have hgk:gg < n:=by
      have h1:=zDs xs (k + 1) xs.length (by omega)
      have h2:gcn xs (k + 1) = gcn xs k + 1:=by simp only [gcn,if_pos h6]
      rw [zA HGG,zA HNE]; omega
     have hsb:=((zA hbx).cell (p:=⟨g,gg,none⟩) (by show g < Wb.heap.size; omega)).trans ((zA HSB') gg hgk)
     rw [h6] at a0
     have hgw:g < wr.heap.size:=by omega
     have hgwn:¬ g = wr.heap.size:=by omega
     have hggI:(gg:Int) < (n:Int):=by omega
     cases hstg:st gg with
     | false=>
      rw [hstg] at hsb
      have hrm:(atN xs k).k = 6 /\ st (gcn xs k) = false:=⟨h6,by rw [<- zA HGG]; exact hstg⟩
      have HG':=zB (show gg + 1 = gcn xs (k + 1) by rw [zA HGG]; simp only [gcn,if_pos h6])
      have HV':=zB (show vs = wo xs st (k + 1) by rw [zA HVS]; simp only [wo,if_pos hrm])
      have HP':=zB (show ps ++ [(vs.length:Int) - 1] = zBc xs st (k + 1) by
       rw [zA HPS,zA HVS,Zz]
       simp only [zBc,kp,if_pos hrm])
      have HNB:=zB (zC wr (.cells #[.int .i64 6,.string (atN xs k).t,.int .i64 (atN xs k).a,.int .i64 (atN xs k).b] 81))
      have HRP1:=zB (zF (zA HRP) (zA HNB))
      clear h6 hstg hrm
      go_wp2_with (at_builtin; refine wpList_append_own_at _ rfl (.tmp 94) (.tmp 98) 79 rfl Wb.heap.size 3 i1 _ 1 8 Tryz.underlying79 (zA HI1) (zA HZ1).1 (zA HZ1).2.1 (zA HZ1).2.2 rfl (by decide) _ k (zN ps) rfl (zF (zA HRP1) (zC _ _)) ⟨wr.heap.size + 1,0,none⟩ 1 1 (zN [(vs.length:Int) - 1]) rfl rfl (ZN _ (wr.heap.size + 1) _ (by simp)) (ZB _) ?b1 ?b2 ?b3 ?next)
      case b1=>unfold maxLen; omega
      case b2=>omega
      case b3=>first | omega | (simp; omega)
      case next=>
       intro v4 w4 hown4 hgrow4 hnil4 hat4
       obtain ⟨g4,c4,rfl⟩:=zt hown4 (by simp [hnil4])
       rw [<- zg] at hown4
       have HRP4:=zB hown4
       have hgr:World.grownBy _ w4 (some gP):=hgrow4
       have z4:wr.heap.size + 2 <= w4.heap.size:=by have:=hgr.size; simpa using this
       have HRN4:=zB (show zi w4 Wb.heap.size gN cN vs from zn (zF (zF (zA HRN) (zA HNB)) (zC _ _)) hgr (by omega))
       have HBX:=zB (show Below Wb.heap.size Wb w4 from ((((zA hbx).trans ((zA HNB).mono (by omega)))).alloc (by simp; omega) _).grown hgr (by simp; omega) (fun q hq=>by injection hq with hq; omega))
       have hgg4:g4 = gP \/ wr.heap.size + 2 <= g4:=by simp [Value.ownBlock] at hat4; omega
       clear hown4 hgrow4 hgr hnil4 hat4
       go_wp2_with fail
       refine ⟨⟨k + 1,gN,cN,g4,c4,gg + 1,vs,ps ++ [(vs.length:Int) - 1],by omega,by simp,by simp,rfl,rfl,by omega,HG',HV',by omega,HP',HRN4,HRP4,by omega,by omega,HBX⟩,?_⟩
       simp [intOf]
       omega
     | true=>
      rw [hstg] at hsb
      have hrm:¬ ((atN xs k).k = 6 /\ st (gcn xs k) = false):=fun h=>by rw [<- zA HGG,hstg] at h; exact absurd h.2 (by decide)
      have HG':=zB (show gg + 1 = gcn xs (k + 1) by rw [zA HGG]; simp only [gcn,if_pos h6])
      have HP':=zB (show ps ++ [(vs.length:Int)] = zBc xs st (k + 1) by
       rw [zA HPS,zA HVS,Zz]
       simp only [zBc,kp,if_neg hrm]
       congr 2
       omega)
      obtain ⟨h1k,ha,hbz⟩:1 <= k /\ (atN xs k).a = (k:Int) - 1 /\ (atN xs k).b = 0:=by
       rcases (zA HOR).kidsAt hlt2 with ⟨h,_⟩ | ⟨_,h⟩ | ⟨h,_⟩
       ·rw [h6] at h; exact absurd h (by decide)
       ·exact h
       ·rw [h6] at h; exact absurd h (by decide)
      have HKK:=zB (show zR 6 = 1 from rfl)
      have ei:(k:Int) - 1 = ((k - 1:Nat):Int):=by omega
      have hpl:ps.length = k:=by rw [zA HPS]; exact zAH _ _ _
      obtain ⟨A',HA'⟩:∃ A',Hid (A' = atI ps (k - 1)):=⟨_,zB rfl⟩
      have hpc:wr.cell? ⟨gP,k - 1,none⟩ = some (.int .i64 A'):=by rw [zA HA']; exact ((zA HRP).cellAt (k - 1) (by omega)).trans (Za ps (k - 1) (by omega))
      have HV':=zB (show wo xs st (k + 1) = vs ++ [⟨6,(atN xs k).t,A',(atN xs k).b⟩] by
       have e1:((k:Int) - 1).toNat + 1 = k - 1 + 1:=by omega
       have e2:wo xs st (k + 1) = vs ++ [woN xs st (atN xs k)]:=by rw [zA HVS]; simp only [wo,if_neg hrm]
       rw [e2]
       unfold woN
       rw [h6,ha,e1,zA HA',zA HPS,zAL _ _ _ _ (by omega)]
       rfl)
      rw [ha,ei] at a2
      have hk1I:((k - 1:Nat):Int) < (k:Int):=by omega
      have hgPw:gP < wr.heap.size:=hgP.2
      have hgPn:¬ gP = wr.heap.size:=by omega
      have HNB:=zB (zC wr (.cells #[.int .i64 6,.string (atN xs k).t,.int .i64 A',.int .i64 (atN xs k).b] 81))
      have HRP1:=zB (zF (zA HRP) (zA HNB))
      clear h6 hstg ha hbz hrm hpl
      go_wp2_with (first | (go_at_call 55; refine (zQ (zA HKK) 1 rfl _).mono ?_; rintro e w' ⟨rfl,rfl⟩) | (at_builtin; refine wpList_append_own_at _ rfl (.tmp 120) (.tmp 123) 79 rfl Wb.heap.size 3 i1 _ 1 8 Tryz.underlying79 (zA HI1) (zA HZ1).1 (zA HZ1).2.1 (zA HZ1).2.2 rfl (by decide) _ k (zN ps) rfl (zF (zA HRP1) (zC _ _)) ⟨wr.heap.size + 1,0,none⟩ 1 1 (zN [(vs.length:Int)]) rfl rfl (ZN _ (wr.heap.size + 1) _ (by simp)) (ZB _) ?b1 ?b2 ?b3 ?next))
      case b1=>unfold maxLen; omega
      case b2=>omega
      case b3=>first | omega | (simp; omega)
      case next=>
       intro v4 w4 hown4 hgrow4 hnil4 hat4
       obtain ⟨g4,c4,rfl⟩:=zt hown4 (by simp [hnil4])
       rw [<- zg] at hown4
       have HRP4:=zB hown4
       have hgr:World.grownBy _ w4 (some gP):=hgrow4
       have z4:wr.heap.size + 2 <= w4.heap.size:=by have:=hgr.size; simpa using this
       have HRN4:=zB (show zi w4 Wb.heap.size gN cN vs from zn (zF (zF (zA HRN) (zA HNB)) (zC _ _)) hgr (by omega))
       have HBX:=zB (show Below Wb.heap.size Wb w4 from ((((zA hbx).trans ((zA HNB).mono (by omega)))).alloc (by simp; omega) _).grown hgr (by simp; omega) (fun q hq=>by injection hq with hq; omega))
       have hgg4:g4 = gP \/ wr.heap.size + 2 <= g4:=by simp [Value.ownBlock] at hat4; omega
       have hg4:g4 < w4.heap.size:=((zA HRP4).lt g4 rfl).2
       have kc:=fun (o':Nat)=>World.cell?_of_block (w':=w4) (a:=⟨wr.heap.size,o',none⟩) (hgr.block wr.heap.size (by simp; omega) (by simp; omega))
       have n0:w4.cell? ⟨wr.heap.size,0,none⟩ = some (.int .i64 6):=(kc 0).trans (by simp [go_sem])
       have n1:w4.cell? ⟨wr.heap.size,1,none⟩ = some (.string (atN xs k).t):=(kc 1).trans (by simp [go_sem])
       have n2:w4.cell? ⟨wr.heap.size,2,none⟩ = some (.int .i64 A'):=(kc 2).trans (by simp [go_sem])
       have n3:w4.cell? ⟨wr.heap.size,3,none⟩ = some (.int .i64 (atN xs k).b):=(kc 3).trans (by simp [go_sem])
       clear hown4 hgrow4 hgr hnil4 hat4 kc a0 a1 a2 a3 HRP1 hpc hsb
       go_wp2_with (at_builtin; refine wpList_append_own_at _ rfl (.tmp 125) (.tmp 127) 26 rfl Wb.heap.size 81 i2 _ 4 40 Tryz.underlying26 (zA HI2) (zA HZ2).1 (zA HZ2).2.1 (zA HZ2).2.2 rfl (by decide) _ vs.length (zH vs) rfl ((zA HRN4).below (zC _ _)) ⟨w4.heap.size,0,none⟩ 1 1 (zH [⟨6,(atN xs k).t,A',(atN xs k).b⟩]) rfl rfl (zZ w4 ⟨6,(atN xs k).t,A',(atN xs k).b⟩) (zL _) ?c1 ?c2 ?c3 ?next)
       case c1=>unfold maxLen; omega
       case c2=>omega
       case c3=>first | omega | (simp; omega)
       case next=>
        intro v6 w6 hown6 hgrow6 hnil6 hat6
        obtain ⟨g6,c6,rfl,hr6⟩:=zi.snoc hown6 (by simp [hnil6]) (zA HV')
        have HR6:=zB hr6
        have hgr6:World.grownBy _ w6 (some gN):=hgrow6
        have z6:w4.heap.size + 1 <= w6.heap.size:=by have:=hgr6.size; simpa using this
        have HRP6:=zB (zn (zF (zA HRP4) (zC w4 (.cells #[.int .i64 6,.string (atN xs k).t,.int .i64 A',.int .i64 (atN xs k).b] 81))) hgr6 (by omega))
        have HBX6:=zB (show Below Wb.heap.size Wb w6 from ((zA HBX).alloc (by omega) _).grown hgr6 (by simp; omega) (fun q hq=>by injection hq with hq; omega))
        have hgg6:g6 = gN \/ w4.heap.size + 1 <= g6:=by simp [Value.ownBlock] at hat6; omega
        have hvl:(wo xs st (k + 1)).length <= k + 1:=by rw [Zz]; exact zCZ xs st (k + 1)
        clear hown6 hgrow6 hgr6 hnil6 hat6 hr6
        go_wp2_with fail
        refine ⟨⟨k + 1,g6,c6,g4,c4,(gg + 1),wo xs st (k + 1),ps ++ [(vs.length:Int)],by omega,by simp,by simp,rfl,rfl,by omega,HG',zB rfl,hvl,HP',HR6,HRP6,by omega,by omega,HBX6⟩,?_⟩
        simp [intOf]
        omega
    ·have h6':((atN xs k).k == 6) = false:=by simpa using h6
     have hrm:¬ ((atN xs k).k = 6 /\ st (gcn xs k) = false):=fun h=>h6 h.1
     have HG':=zB (show gg = gcn xs (k + 1) by rw [zA HGG]; simp only [gcn,if_neg h6])
     have HP':=zB (show ps ++ [(vs.length:Int)] = zBc xs st (k + 1) by
      rw [zA HPS,zA HVS,Zz]
      simp only [zBc,kp,if_neg hrm]
      congr 2
      omega)
     have HW':=zB (show wo xs st (k + 1) = vs ++ [woN xs st (atN xs k)] by rw [zA HVS]; simp only [wo,if_neg hrm])
     rcases (zA HOR).kidsAt hlt2 with ⟨hk0,ha0,hb0⟩ | ⟨hk1,h1k,ha,hbz⟩ | ⟨hk2',h2k,hbk,ha1,ha2'⟩
     ·have HKK:=zB hk0
      have HV':=zB (show wo xs st (k + 1) = vs ++ [⟨(atN xs k).k,(atN xs k).t,(atN xs k).a,(atN xs k).b⟩] by
       rw [zA HW']; simp [woN,hk0])
      have HNB:=zB (zC wr (.cells #[.int .i64 (atN xs k).k,.string (atN xs k).t,.int .i64 (atN xs k).a,.int .i64 (atN xs k).b] 81))
      have HRP1:=zB (zF (zA HRP) (zA HNB))
      clear h6 hk0 ha0 hb0 hrm
      go_wp2_with (first | (go_at_call 55; refine (zQ (zA HKK) 0 rfl _).mono ?_; rintro e w' ⟨rfl,rfl⟩) | (at_builtin; refine wpList_append_own_at _ rfl (.tmp 120) (.tmp 123) 79 rfl Wb.heap.size 3 i1 _ 1 8 Tryz.underlying79 (zA HI1) (zA HZ1).1 (zA HZ1).2.1 (zA HZ1).2.2 rfl (by decide) _ k (zN ps) rfl (zF (zA HRP1) (zC _ _)) ⟨wr.heap.size + 1,0,none⟩ 1 1 (zN [(vs.length:Int)]) rfl rfl (ZN _ (wr.heap.size + 1) _ (by simp)) (ZB _) ?b1 ?b2 ?b3 ?next))
      case b1=>unfold maxLen; omega
      case b2=>omega
      case b3=>first | omega | (simp; omega)
      case next=>
       intro v4 w4 hown4 hgrow4 hnil4 hat4
       obtain ⟨g4,c4,rfl⟩:=zt hown4 (by simp [hnil4])
       rw [<- zg] at hown4
       have HRP4:=zB hown4
       have hgr:World.grownBy _ w4 (some gP):=hgrow4
       have z4:wr.heap.size + 2 <= w4.heap.size:=by have:=hgr.size; simpa using this
       have HRN4:=zB (show zi w4 Wb.heap.size gN cN vs from zn (zF (zF (zA HRN) (zA HNB)) (zC _ _)) hgr (by omega))
       have HBX:=zB (show Below Wb.heap.size Wb w4 from ((((zA hbx).trans ((zA HNB).mono (by omega)))).alloc (by simp; omega) _).grown hgr (by simp; omega) (fun q hq=>by injection hq with hq; omega))
       have hgg4:g4 = gP \/ wr.heap.size + 2 <= g4:=by simp [Value.ownBlock] at hat4; omega
       have hg4:g4 < w4.heap.size:=((zA HRP4).lt g4 rfl).2
       have kc:=fun (o':Nat)=>World.cell?_of_block (w':=w4) (a:=⟨wr.heap.size,o',none⟩) (hgr.block wr.heap.size (by simp; omega) (by simp; omega))
       have n0:w4.cell? ⟨wr.heap.size,0,none⟩ = some (.int .i64 (atN xs k).k):=(kc 0).trans (by simp [go_sem])
       have n1:w4.cell? ⟨wr.heap.size,1,none⟩ = some (.string (atN xs k).t):=(kc 1).trans (by simp [go_sem])
       have n2:w4.cell? ⟨wr.heap.size,2,none⟩ = some (.int .i64 (atN xs k).a):=(kc 2).trans (by simp [go_sem])
       have n3:w4.cell? ⟨wr.heap.size,3,none⟩ = some (.int .i64 (atN xs k).b):=(kc 3).trans (by simp [go_sem])
       clear hown4 hgrow4 hgr hnil4 hat4 kc a0 a1 a2 a3 HRP1
       go_wp2_with (at_builtin; refine wpList_append_own_at _ rfl (.tmp 125) (.tmp 127) 26 rfl Wb.heap.size 81 i2 _ 4 40 Tryz.underlying26 (zA HI2) (zA HZ2).1 (zA HZ2).2.1 (zA HZ2).2.2 rfl (by decide) _ vs.length (zH vs) rfl ((zA HRN4).below (zC _ _)) ⟨w4.heap.size,0,none⟩ 1 1 (zH [⟨(atN xs k).k,(atN xs k).t,(atN xs k).a,(atN xs k).b⟩]) rfl rfl (zZ w4 ⟨(atN xs k).k,(atN xs k).t,(atN xs k).a,(atN xs k).b⟩) (zL _) ?c1 ?c2 ?c3 ?next)
       case c1=>unfold maxLen; omega
       case c2=>omega
       case c3=>first | omega | (simp; omega)
       case next=>
        intro v6 w6 hown6 hgrow6 hnil6 hat6
        obtain ⟨g6,c6,rfl,hr6⟩:=zi.snoc hown6 (by simp [hnil6]) (zA HV')
        have HR6:=zB hr6
        have hgr6:World.grownBy _ w6 (some gN):=hgrow6
        have z6:w4.heap.size + 1 <= w6.heap.size:=by have:=hgr6.size; simpa using this
        have HRP6:=zB (zn (zF (zA HRP4) (zC w4 (.cells #[.int .i64 (atN xs k).k,.string (atN xs k).t,.int .i64 (atN xs k).a,.int .i64 (atN xs k).b] 81))) hgr6 (by omega))
        have HBX6:=zB (show Below Wb.heap.size Wb w6 from ((zA HBX).alloc (by omega) _).grown hgr6 (by simp; omega) (fun q hq=>by injection hq with hq; omega))
        have hgg6:g6 = gN \/ w4.heap.size + 1 <= g6:=by simp [Value.ownBlock] at hat6; omega
        have hvl:(wo xs st (k + 1)).length <= k + 1:=by rw [Zz]; exact zCZ xs st (k + 1)
        clear hown6 hgrow6 hgr6 hnil6 hat6 hr6
        go_wp2_with fail
        refine ⟨⟨k + 1,g6,c6,g4,c4,gg,wo xs st (k + 1),ps ++ [(vs.length:Int)],by omega,by simp,rfl,rfl,rfl,by omega,HG',zB rfl,hvl,HP',HR6,HRP6,by omega,by omega,HBX6⟩,?_⟩
        simp [intOf]
        omega
     ·have HKK:=zB hk1
      have ei:(k:Int) - 1 = ((k - 1:Nat):Int):=by omega
      have hpl:ps.length = k:=by rw [zA HPS]; exact zAH _ _ _
      obtain ⟨A',HA'⟩:∃ A',Hid (A' = atI ps (k - 1)):=⟨_,zB rfl⟩
      have hpc:wr.cell? ⟨gP,k - 1,none⟩ = some (.int .i64 A'):=by rw [zA HA']; exact ((zA HRP).cellAt (k - 1) (by omega)).trans (Za ps (k - 1) (by omega))
      have HV':=zB (show wo xs st (k + 1) = vs ++ [⟨(atN xs k).k,(atN xs k).t,A',(atN xs k).b⟩] by
       have e1:((k:Int) - 1).toNat + 1 = k - 1 + 1:=by omega
       rw [zA HW']
       unfold woN
       rw [hk1,ha,e1,zA HA',zA HPS,zAL _ _ _ _ (by omega)]
       rfl)
      rw [ha,ei] at a2
      have hk1I:((k - 1:Nat):Int) < (k:Int):=by omega
      have hgPw:gP < wr.heap.size:=hgP.2
      have hgPn:¬ gP = wr.heap.size:=by omega
      have HNB:=zB (zC wr (.cells #[.int .i64 (atN xs k).k,.string (atN xs k).t,.int .i64 A',.int .i64 (atN xs k).b] 81))
      have HRP1:=zB (zF (zA HRP) (zA HNB))
      clear h6 hk1 ha hbz hrm hpl
      go_wp2_with (first | (go_at_call 55; refine (zQ (zA HKK) 1 rfl _).mono ?_; rintro e w' ⟨rfl,rfl⟩) | (at_builtin; refine wpList_append_own_at _ rfl (.tmp 120) (.tmp 123) 79 rfl Wb.heap.size 3 i1 _ 1 8 Tryz.underlying79 (zA HI1) (zA HZ1).1 (zA HZ1).2.1 (zA HZ1).2.2 rfl (by decide) _ k (zN ps) rfl (zF (zA HRP1) (zC _ _)) ⟨wr.heap.size + 1,0,none⟩ 1 1 (zN [(vs.length:Int)]) rfl rfl (ZN _ (wr.heap.size + 1) _ (by simp)) (ZB _) ?b1 ?b2 ?b3 ?next))
      case b1=>unfold maxLen; omega
      case b2=>omega
      case b3=>first | omega | (simp; omega)
      case next=>
       intro v4 w4 hown4 hgrow4 hnil4 hat4
       obtain ⟨g4,c4,rfl⟩:=zt hown4 (by simp [hnil4])
       rw [<- zg] at hown4
       have HRP4:=zB hown4
       have hgr:World.grownBy _ w4 (some gP):=hgrow4
       have z4:wr.heap.size + 2 <= w4.heap.size:=by have:=hgr.size; simpa using this
       have HRN4:=zB (show zi w4 Wb.heap.size gN cN vs from zn (zF (zF (zA HRN) (zA HNB)) (zC _ _)) hgr (by omega))
       have HBX:=zB (show Below Wb.heap.size Wb w4 from ((((zA hbx).trans ((zA HNB).mono (by omega)))).alloc (by simp; omega) _).grown hgr (by simp; omega) (fun q hq=>by injection hq with hq; omega))
       have hgg4:g4 = gP \/ wr.heap.size + 2 <= g4:=by simp [Value.ownBlock] at hat4; omega
       have hg4:g4 < w4.heap.size:=((zA HRP4).lt g4 rfl).2
       have kc:=fun (o':Nat)=>World.cell?_of_block (w':=w4) (a:=⟨wr.heap.size,o',none⟩) (hgr.block wr.heap.size (by simp; omega) (by simp; omega))
       have n0:w4.cell? ⟨wr.heap.size,0,none⟩ = some (.int .i64 (atN xs k).k):=(kc 0).trans (by simp [go_sem])
       have n1:w4.cell? ⟨wr.heap.size,1,none⟩ = some (.string (atN xs k).t):=(kc 1).trans (by simp [go_sem])
       have n2:w4.cell? ⟨wr.heap.size,2,none⟩ = some (.int .i64 A'):=(kc 2).trans (by simp [go_sem])
       have n3:w4.cell? ⟨wr.heap.size,3,none⟩ = some (.int .i64 (atN xs k).b):=(kc 3).trans (by simp [go_sem])
       clear hown4 hgrow4 hgr hnil4 hat4 kc a0 a1 a2 a3 HRP1 hpc
       go_wp2_with (at_builtin; refine wpList_append_own_at _ rfl (.tmp 125) (.tmp 127) 26 rfl Wb.heap.size 81 i2 _ 4 40 Tryz.underlying26 (zA HI2) (zA HZ2).1 (zA HZ2).2.1 (zA HZ2).2.2 rfl (by decide) _ vs.length (zH vs) rfl ((zA HRN4).below (zC _ _)) ⟨w4.heap.size,0,none⟩ 1 1 (zH [⟨(atN xs k).k,(atN xs k).t,A',(atN xs k).b⟩]) rfl rfl (zZ w4 ⟨(atN xs k).k,(atN xs k).t,A',(atN xs k).b⟩) (zL _) ?c1 ?c2 ?c3 ?next)
       case c1=>unfold maxLen; omega
       case c2=>omega
       case c3=>first | omega | (simp; omega)
       case next=>
        intro v6 w6 hown6 hgrow6 hnil6 hat6
        obtain ⟨g6,c6,rfl,hr6⟩:=zi.snoc hown6 (by simp [hnil6]) (zA HV')
        have HR6:=zB hr6
        have hgr6:World.grownBy _ w6 (some gN):=hgrow6
        have z6:w4.heap.size + 1 <= w6.heap.size:=by have:=hgr6.size; simpa using this
        have HRP6:=zB (zn (zF (zA HRP4) (zC w4 (.cells #[.int .i64 (atN xs k).k,.string (atN xs k).t,.int .i64 A',.int .i64 (atN xs k).b] 81))) hgr6 (by omega))
        have HBX6:=zB (show Below Wb.heap.size Wb w6 from ((zA HBX).alloc (by omega) _).grown hgr6 (by simp; omega) (fun q hq=>by injection hq with hq; omega))
        have hgg6:g6 = gN \/ w4.heap.size + 1 <= g6:=by simp [Value.ownBlock] at hat6; omega
        have hvl:(wo xs st (k + 1)).length <= k + 1:=by rw [Zz]; exact zCZ xs st (k + 1)
        clear hown6 hgrow6 hgr6 hnil6 hat6 hr6
        go_wp2_with fail
        refine ⟨⟨k + 1,g6,c6,g4,c4,gg,wo xs st (k + 1),ps ++ [(vs.length:Int)],by omega,by simp,rfl,rfl,rfl,by omega,HG',zB rfl,hvl,HP',HR6,HRP6,by omega,by omega,HBX6⟩,?_⟩
        simp [intOf]
        omega
     ·have HKK:=zB hk2'
      obtain ⟨ja,hja⟩:∃ ja:Nat,(atN xs k).a = (ja:Int):=⟨(atN xs k).a.toNat,by omega⟩
      have ei:(k:Int) - 1 = ((k - 1:Nat):Int):=by omega
      have hpl:ps.length = k:=by rw [zA HPS]; exact zAH _ _ _
      have hjk:ja < k - 1:=by omega
      obtain ⟨A',HA'⟩:∃ A',Hid (A' = atI ps ja):=⟨_,zB rfl⟩
      obtain ⟨B',HB'⟩:∃ B',Hid (B' = atI ps (k - 1)):=⟨_,zB rfl⟩
      have hpa:wr.cell? ⟨gP,ja,none⟩ = some (.int .i64 A'):=by rw [zA HA']; exact ((zA HRP).cellAt ja (by omega)).trans (Za ps ja (by omega))
      have hpb:wr.cell? ⟨gP,k - 1,none⟩ = some (.int .i64 B'):=by rw [zA HB']; exact ((zA HRP).cellAt (k - 1) (by omega)).trans (Za ps (k - 1) (by omega))
      have HV':=zB (show wo xs st (k + 1) = vs ++ [⟨(atN xs k).k,(atN xs k).t,A',B'⟩] by
       have e1:((k:Int) - 1).toNat + 1 = k - 1 + 1:=by omega
       have e2:((ja:Int)).toNat + 1 = ja + 1:=by omega
       rw [zA HW']
       unfold woN
       rw [hk2',hja,hbk,e1,e2,zA HA',zA HB',zA HPS,zAL _ _ _ _ (by omega),zAL _ _ _ _ (by omega)]
       rfl)
      rw [hja] at a2
      rw [hbk,ei] at a3
      have hk1I:((k - 1:Nat):Int) < (k:Int):=by omega
      have hjI:(ja:Int) < (k:Int):=by omega
      have hgPw:gP < wr.heap.size:=hgP.2
      have hgPn:¬ gP = wr.heap.size:=by omega
      have HNB:=zB (zC wr (.cells #[.int .i64 (atN xs k).k,.string (atN xs k).t,.int .i64 A',.int .i64 B'] 81))
      have HRP1:=zB (zF (zA HRP) (zA HNB))
      clear h6 hk2' hja hbk hrm hpl ha1 ha2'
      go_wp2_with (first | (go_at_call 55; refine (zQ (zA HKK) 2 rfl _).mono ?_; rintro e w' ⟨rfl,rfl⟩) | (at_builtin; refine wpList_append_own_at _ rfl (.tmp 120) (.tmp 123) 79 rfl Wb.heap.size 3 i1 _ 1 8 Tryz.underlying79 (zA HI1) (zA HZ1).1 (zA HZ1).2.1 (zA HZ1).2.2 rfl (by decide) _ k (zN ps) rfl (zF (zA HRP1) (zC _ _)) ⟨wr.heap.size + 1,0,none⟩ 1 1 (zN [(vs.length:Int)]) rfl rfl (ZN _ (wr.heap.size + 1) _ (by simp)) (ZB _) ?b1 ?b2 ?b3 ?next))
      case b1=>unfold maxLen; omega
      case b2=>omega
      case b3=>first | omega | (simp; omega)
      case next=>
       intro v4 w4 hown4 hgrow4 hnil4 hat4
       obtain ⟨g4,c4,rfl⟩:=zt hown4 (by simp [hnil4])
       rw [<- zg] at hown4
       have HRP4:=zB hown4
       have hgr:World.grownBy _ w4 (some gP):=hgrow4
       have z4:wr.heap.size + 2 <= w4.heap.size:=by have:=hgr.size; simpa using this
       have HRN4:=zB (show zi w4 Wb.heap.size gN cN vs from zn (zF (zF (zA HRN) (zA HNB)) (zC _ _)) hgr (by omega))
       have HBX:=zB (show Below Wb.heap.size Wb w4 from ((((zA hbx).trans ((zA HNB).mono (by omega)))).alloc (by simp; omega) _).grown hgr (by simp; omega) (fun q hq=>by injection hq with hq; omega))
       have hgg4:g4 = gP \/ wr.heap.size + 2 <= g4:=by simp [Value.ownBlock] at hat4; omega
       have hg4:g4 < w4.heap.size:=((zA HRP4).lt g4 rfl).2
       have kc:=fun (o':Nat)=>World.cell?_of_block (w':=w4) (a:=⟨wr.heap.size,o',none⟩) (hgr.block wr.heap.size (by simp; omega) (by simp; omega))
       have n0:w4.cell? ⟨wr.heap.size,0,none⟩ = some (.int .i64 (atN xs k).k):=(kc 0).trans (by simp [go_sem])
       have n1:w4.cell? ⟨wr.heap.size,1,none⟩ = some (.string (atN xs k).t):=(kc 1).trans (by simp [go_sem])
       have n2:w4.cell? ⟨wr.heap.size,2,none⟩ = some (.int .i64 A'):=(kc 2).trans (by simp [go_sem])
       have n3:w4.cell? ⟨wr.heap.size,3,none⟩ = some (.int .i64 B'):=(kc 3).trans (by simp [go_sem])
       clear hown4 hgrow4 hgr hnil4 hat4 kc a0 a1 a2 a3 HRP1 hpa hpb
       go_wp2_with (at_builtin; refine wpList_append_own_at _ rfl (.tmp 125) (.tmp 127) 26 rfl Wb.heap.size 81 i2 _ 4 40 Tryz.underlying26 (zA HI2) (zA HZ2).1 (zA HZ2).2.1 (zA HZ2).2.2 rfl (by decide) _ vs.length (zH vs) rfl ((zA HRN4).below (zC _ _)) ⟨w4.heap.size,0,none⟩ 1 1 (zH [⟨(atN xs k).k,(atN xs k).t,A',B'⟩]) rfl rfl (zZ w4 ⟨(atN xs k).k,(atN xs k).t,A',B'⟩) (zL _) ?c1 ?c2 ?c3 ?next)
       case c1=>unfold maxLen; omega
       case c2=>omega
       case c3=>first | omega | (simp; omega)
       case next=>
        intro v6 w6 hown6 hgrow6 hnil6 hat6
        obtain ⟨g6,c6,rfl,hr6⟩:=zi.snoc hown6 (by simp [hnil6]) (zA HV')
        have HR6:=zB hr6
        have hgr6:World.grownBy _ w6 (some gN):=hgrow6
        have z6:w4.heap.size + 1 <= w6.heap.size:=by have:=hgr6.size; simpa using this
        have HRP6:=zB (zn (zF (zA HRP4) (zC w4 (.cells #[.int .i64 (atN xs k).k,.string (atN xs k).t,.int .i64 A',.int .i64 B'] 81))) hgr6 (by omega))
        have HBX6:=zB (show Below Wb.heap.size Wb w6 from ((zA HBX).alloc (by omega) _).grown hgr6 (by simp; omega) (fun q hq=>by injection hq with hq; omega))
        have hgg6:g6 = gN \/ w4.heap.size + 1 <= g6:=by simp [Value.ownBlock] at hat6; omega
        have hvl:(wo xs st (k + 1)).length <= k + 1:=by rw [Zz]; exact zCZ xs st (k + 1)
        clear hown6 hgrow6 hgr6 hnil6 hat6 hr6
        go_wp2_with fail
        refine ⟨⟨k + 1,g6,c6,g4,c4,gg,wo xs st (k + 1),ps ++ [(vs.length:Int)],by omega,by simp,rfl,rfl,rfl,by omega,HG',zB rfl,hvl,HP',HR6,HRP6,by omega,by omega,HBX6⟩,?_⟩
        simp [intOf]
        omega
  have hltI:(k:Int) < (xs.length:Int):=by omega
  have hbn:bn < wr.heap.size:=by have:=(zA hbel).size; omega
  obtain ⟨a0,a1,a2,a3⟩:=((zA HW) k hlt).below (zA hbel) hB
  rw [Nat.zero_add] at a0 a1 a2 a3
  by_cases h6:(atN xs k).k = 6
  case neg=>
   have h6':((atN xs k).k == 6) = false:=by simpa using h6
   have HN':=zB (show n = gcn xs (k + 1) by rw [zA HNE]; simp only [gcn,if_neg h6])
   clear h6
   go_wp2_with fail
   refine ⟨⟨k + 1,n,g,c,fc,by omega,by omega,by omega,by simp,rfl,rfl,HN',HR,HFC,t0,r0,r1,zr,hbel⟩,?_⟩
   simp [intOf]
   omega
  have HN':=zB (show n + 1 = gcn xs (k + 1) by rw [zA HNE]; simp only [gcn,if_pos h6])
  rw [h6] at a0
  clear h6
  by_cases hin:n / 8 < l.length
  case neg=>
   have hinI:¬ (n:Int) / 8 < (l.length:Int):=by omega
   have HBF:=zB (show zCl l n = false by unfold zCl; simp [hin])
   clear hin
   go_wp2_with (at_builtin; refine wpList_append_own_at _ rfl (.tmp 49) (.tmp 51) 92 rfl (w.heap.size + 2) 4 i0 _ 1 1 Tryz.underlying92 (zA HI) (zA HZ).1 (zA HZ).2.1 (zA HZ).2.2 rfl (by decide) _ n (Zh (Z8 l n)) rfl (zDK (zA HR) (zC _ _)) ⟨wr.heap.size,0,none⟩ 1 1 (Zh [false]) rfl rfl (zEK wr false) (zDJ _) ?b1 ?b2 ?b3 ?next)
   case b1=>unfold maxLen; omega
   case b2=>omega
   case b3=>first | omega | (simp; omega)
   case next=>
    intro v4 w4 hown4 hgrow4 hnil4 hat4
    obtain ⟨g4,c4,rfl⟩:=zt hown4 (by simp [hnil4])
    rw [<- zAG] at hown4
    have HR4:=zB (show w4.ownsRow (w.heap.size + 2) 4 1 (.slice (some ⟨g4,0,none⟩) (n + 1) c4) (n + 1) (Zh (Z8 l (n + 1))) from by rw [Z8,zA HBF]; exact hown4)
    have hgr:World.grownBy _ w4 (some g):=hgrow4
    have z4:wr.heap.size + 1 <= w4.heap.size:=by have:=hgr.size; simpa using this
    have kb:=fun (b:Nat) (hb:b < wr.heap.size) (h1:b ≠ g)=>(World.cell?_of_block (w':=w4) (a:=⟨b,0,none⟩) (hgr.block b (by simp; omega) (by simp; omega))).trans ((zC wr (.cells #[.bool false] 4)).cell (p:=⟨b,0,none⟩) hb)
    have kg:=fun (b:Nat) (hb:b < wr.heap.size) (h1:b ≠ g)=>(World.frozen?_of_block (w':=w4) (a:=⟨b,0,none⟩) (hgr.block b (by simp; omega) (by simp; omega))).trans ((zC wr (.cells #[.bool false] 4)).frozen (p:=⟨b,0,none⟩) hb)
    have t4:=(kb w.heap.size (by omega) (by omega)).trans t0
    have s4:=(kb (w.heap.size + 1) (by omega) (by omega)).trans r0
    have s5:=(kg (w.heap.size + 1) (by omega) (by omega)).trans r1
    have HB4:=zB (show Below w.heap.size w w4 from ((zA hbel).alloc (zA hbel).size _).grown hgr (by have:=(zA hbel).size; simp; omega) (fun q hq=>by injection hq with hq; omega))
    clear hown4 hgrow4 hgr hnil4 hat4 kb kg HR t0 r0 r1 hbel
    go_wp2_with fail
    refine ⟨⟨k + 1,n + 1,g4,c4,(fc + 1),by omega,by omega,by omega,by simp,by simp,rfl,HN',HR4,zB (show fc + 1 = 0 ↔ ∀ i,i < n + 1 -> zCl l i = true from ⟨fun h=>by omega,fun h=>absurd (h n (by omega)) (by rw [zA HBF]; decide)⟩),t4,s4,s5,by omega,HB4⟩,?_⟩
    simp [intOf]
    omega
  have hinI:(n:Int) / 8 < (l.length:Int):=by omega
  obtain ⟨ab,ao,rfl,hab,hac⟩:∃ b off,a = some ⟨b,off,none⟩ /\ b < w.heap.size /\ ∀ i,i < l.length -> w.cell? ⟨b,off + i,none⟩ = some (.int .u8 ((l.getD i 0).toNat:Int)):=by
   rcases zA HA with h | h
   ·omega
   ·exact h
  obtain ⟨y,HYE⟩:∃ y,Hid (y = (l.getD (n / 8) 0).toNat):=⟨_,zB rfl⟩
  have hcb:=((zA hbel).cell (p:=⟨ab,ao + n / 8,none⟩) hab).trans (hac (n / 8) hin)
  rw [<- zA HYE] at hcb
  have hy:y < 256:=by rw [zA HYE]; exact UInt8.toNat_lt _
  have hab2:ab < wr.heap.size:=by have:=(zA hbel).size; omega
  have ev:((y:Int) / 2 ^ (n % 8)).tmod 2 = ((y / 2 ^ (n % 8) % 2:Nat):Int):=by
   have e1:(y:Int) / 2 ^ (n % 8) = ((y / 2 ^ (n % 8):Nat):Int):=by push_cast; rfl
   obtain ⟨q,hq⟩:∃ q,q = y / 2 ^ (n % 8):=⟨_,rfl⟩
   rw [e1,<- hq,Int.tmod_eq_emod_of_nonneg (Int.natCast_nonneg q)]
   omega
  by_cases hbt:y / 2 ^ (n % 8) % 2 = 1
  ·have eb:(((y:Int) / 2 ^ (n % 8)).tmod 2 == 1) = true:=by rw [ev,hbt]; rfl
   have HBF:=zB (show zCl l n = true by unfold zCl; rw [<- zA HYE]; simp [hin,hbt])
   clear hin hac hbt ev
   go_wp2_with (at_builtin; refine wpList_append_own_at _ rfl (.tmp 49) (.tmp 51) 92 rfl (w.heap.size + 2) 4 i0 _ 1 1 Tryz.underlying92 (zA HI) (zA HZ).1 (zA HZ).2.1 (zA HZ).2.2 rfl (by decide) _ n (Zh (Z8 l n)) rfl (zDK (zA HR) (zC _ _)) ⟨wr.heap.size,0,none⟩ 1 1 (Zh [true]) rfl rfl (zEK wr true) (zDJ _) ?b1 ?b2 ?b3 ?next)
   case b1=>unfold maxLen; omega
   case b2=>omega
   case b3=>first | omega | (simp; omega)
   case next=>
    intro v4 w4 hown4 hgrow4 hnil4 hat4
    obtain ⟨g4,c4,rfl⟩:=zt hown4 (by simp [hnil4])
    rw [<- zAG] at hown4
    have HR4:=zB (show w4.ownsRow (w.heap.size + 2) 4 1 (.slice (some ⟨g4,0,none⟩) (n + 1) c4) (n + 1) (Zh (Z8 l (n + 1))) from by rw [Z8,zA HBF]; exact hown4)
    have hgr:World.grownBy _ w4 (some g):=hgrow4
    have z4:wr.heap.size + 1 <= w4.heap.size:=by have:=hgr.size; simpa using this
    have kb:=fun (b:Nat) (hb:b < wr.heap.size) (h1:b ≠ g)=>(World.cell?_of_block (w':=w4) (a:=⟨b,0,none⟩) (hgr.block b (by simp; omega) (by simp; omega))).trans ((zC wr (.cells #[.bool true] 4)).cell (p:=⟨b,0,none⟩) hb)
    have kg:=fun (b:Nat) (hb:b < wr.heap.size) (h1:b ≠ g)=>(World.frozen?_of_block (w':=w4) (a:=⟨b,0,none⟩) (hgr.block b (by simp; omega) (by simp; omega))).trans ((zC wr (.cells #[.bool true] 4)).frozen (p:=⟨b,0,none⟩) hb)
    have t4:=(kb w.heap.size (by omega) (by omega)).trans t0
    have s4:=(kb (w.heap.size + 1) (by omega) (by omega)).trans r0
    have s5:=(kg (w.heap.size + 1) (by omega) (by omega)).trans r1
    have HB4:=zB (show Below w.heap.size w w4 from ((zA hbel).alloc (zA hbel).size _).grown hgr (by have:=(zA hbel).size; simp; omega) (fun q hq=>by injection hq with hq; omega))
    clear hown4 hgrow4 hgr hnil4 hat4 kb kg HR t0 r0 r1 hbel
    go_wp2_with fail
    refine ⟨⟨k + 1,n + 1,g4,c4,fc,by omega,by omega,by omega,by simp,rfl,rfl,HN',HR4,zB (show fc = 0 ↔ ∀ i,i < n + 1 -> zCl l i = true from ⟨fun h i hi=>(Nat.lt_or_ge i n).elim (fun e=>((zA HFC).1 h) i e) (fun e=>by rw [show i = n by omega]; exact zA HBF),fun h=>(zA HFC).2 (fun i hi=>h i (by omega))⟩),t4,s4,s5,by omega,HB4⟩,?_⟩
    simp [intOf]
    omega
  ·have eb:(((y:Int) / 2 ^ (n % 8)).tmod 2 == 1) = false:=by rw [ev,beq_eq_false_iff_ne]; omega
   have HBF:=zB (show zCl l n = false by unfold zCl; rw [<- zA HYE]; simp [hin,hbt])
   clear hin hac hbt ev
   go_wp2_with (at_builtin; refine wpList_append_own_at _ rfl (.tmp 49) (.tmp 51) 92 rfl (w.heap.size + 2) 4 i0 _ 1 1 Tryz.underlying92 (zA HI) (zA HZ).1 (zA HZ).2.1 (zA HZ).2.2 rfl (by decide) _ n (Zh (Z8 l n)) rfl (zDK (zA HR) (zC _ _)) ⟨wr.heap.size,0,none⟩ 1 1 (Zh [false]) rfl rfl (zEK wr false) (zDJ _) ?b1 ?b2 ?b3 ?next)
   case b1=>unfold maxLen; omega
   case b2=>omega
   case b3=>first | omega | (simp; omega)
   case next=>
    intro v4 w4 hown4 hgrow4 hnil4 hat4
    obtain ⟨g4,c4,rfl⟩:=zt hown4 (by simp [hnil4])
    rw [<- zAG] at hown4
    have HR4:=zB (show w4.ownsRow (w.heap.size + 2) 4 1 (.slice (some ⟨g4,0,none⟩) (n + 1) c4) (n + 1) (Zh (Z8 l (n + 1))) from by rw [Z8,zA HBF]; exact hown4)
    have hgr:World.grownBy _ w4 (some g):=hgrow4
    have z4:wr.heap.size + 1 <= w4.heap.size:=by have:=hgr.size; simpa using this
    have kb:=fun (b:Nat) (hb:b < wr.heap.size) (h1:b ≠ g)=>(World.cell?_of_block (w':=w4) (a:=⟨b,0,none⟩) (hgr.block b (by simp; omega) (by simp; omega))).trans ((zC wr (.cells #[.bool false] 4)).cell (p:=⟨b,0,none⟩) hb)
    have kg:=fun (b:Nat) (hb:b < wr.heap.size) (h1:b ≠ g)=>(World.frozen?_of_block (w':=w4) (a:=⟨b,0,none⟩) (hgr.block b (by simp; omega) (by simp; omega))).trans ((zC wr (.cells #[.bool false] 4)).frozen (p:=⟨b,0,none⟩) hb)
    have t4:=(kb w.heap.size (by omega) (by omega)).trans t0
    have s4:=(kb (w.heap.size + 1) (by omega) (by omega)).trans r0
    have s5:=(kg (w.heap.size + 1) (by omega) (by omega)).trans r1
    have HB4:=zB (show Below w.heap.size w w4 from ((zA hbel).alloc (zA hbel).size _).grown hgr (by have:=(zA hbel).size; simp; omega) (fun q hq=>by injection hq with hq; omega))
    clear hown4 hgrow4 hgr hnil4 hat4 kb kg HR t0 r0 r1 hbel
    go_wp2_with fail
    refine ⟨⟨k + 1,n + 1,g4,c4,(fc + 1),by omega,by omega,by omega,by simp,by simp,rfl,HN',HR4,zB (show fc + 1 = 0 ↔ ∀ i,i < n + 1 -> zCl l i = true from ⟨fun h=>by omega,fun h=>absurd (h n (by omega)) (by rw [zA HBF]; decide)⟩),t4,s4,s5,by omega,HB4⟩,?_⟩
    simp [intOf]
    omega
end Go.Proofs.YtfboipappaonhaaGreat
