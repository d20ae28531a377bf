import Derived.Test.YtgiemobdmbijiaaGreatDoorN02
import Derived.Test.YtgiemobdmbijiaaGreatDoorN06
import Derived.Test.YtgiemobdmbijiaaGreatDoorN16
import Derived.Test.YtgiemobdmbijiaaGreatDoorN19
import Derived.Test.YtgiemobdmbijiaaGreatDoorN28
namespace Go.Proofs.YtgiemobdmbijiaaGreatDoor
set_option linter.unusedSimpArgs false
set_option linter.unusedVariables false
set_option maxHeartbeats 16000000
set_option maxRecDepth 100000
open Go.RowKit
theorem zMi:zZ [] 0:=Or.inr ⟨by simp,Or.inr ⟨fun j h=>by simp at h,Or.inr ⟨fun ⟨i,j,_,h,_⟩=>by simp at h,Or.inr ⟨rfl,fun ⟨i,j,_,h,_⟩=>by simp at h⟩⟩⟩⟩
theorem zFG (a:Option Addr) (c:Nat) (w:World) :
  Calls Tryz.prog 46 #[.agg #[.slice a 0 c]] w fun e w'=>e = .returned (.int .i64 0) /\ Below w.heap.size w w':=by
 go_enter Tryz.func46,Tryz.ntmps46
 go_wp2
 refine wp_loop_rounds 1 ?_
 rw [rounds_succ]
 go_wp2
 refine wp_loop_rounds 3 ?_
 rw [rounds_succ]
 go_wp2
 refine wp_loop_rounds 1 ?_
 rw [rounds_succ]
 go_wp2
 rw [rounds_succ]
 go_wp2
 refine wp_loop_rounds 1 ?_
 rw [rounds_succ]
 go_wp2
 rw [rounds_succ]
 go_wp2
 go_ret
 exact ⟨rfl,zC _ _⟩
theorem zGI (v:Value) (xs:List OpR) (w:World) (hm:xs.length <= 1048576) (hw:ZF w v xs) (hs:Zs xs) :
  Calls Tryz.prog 46 #[.agg #[v]] w fun e w'=>(∃ c,e = .returned (.int .i64 c) /\ zZ xs c) /\ Below w.heap.size w w':=by
 obtain ⟨a,c,rfl,⟨h0,_⟩ | ⟨g,rfl,hg,hops⟩⟩:=hw
 ·have e:xs = []:=List.length_eq_zero_iff.1 h0
  subst e
  refine (zFG a c w).mono ?_
  rintro e w' ⟨rfl,hb⟩
  exact ⟨⟨0,rfl,zMi⟩,hb⟩
 ·exact ZU g 0 c xs w hm hops hs hg
def zGJ (w:World) (B:Nat) (v:Value) (out:List (List OpR)):Prop:=∃ g c,v = .slice (some ⟨g,0,none⟩) out.length c /\ (out.length = 0 \/ B <= g /\ g < w.heap.size /\ ∀ i,i < out.length -> ∃ t,w.cell? ⟨g,i,none⟩ = some t /\ zBy w t (zDJ out i) /\ ∀ q,t.ownBlock = some q -> B <= q)
def zMj (w:World) (ms:List zI) (e:Ending) (w':World):Prop:=∃ (v:Value) (out:List (List OpR)) (c who:Int),e = .returned (.tuple #[v,.int .i64 c,.int .i64 who]) /\ Hid (zAW ms out c who) /\ Hid (zGJ w' w.heap.size v out) /\ (∀ o ∈ out,o.length <= 1048576 /\ Zs o) /\ Below w.heap.size w w'
theorem zAq (w':World) (B b:Nat):zGJ w' B (.slice (some ⟨b,0,none⟩) 0 0) []:=⟨_,0,rfl,Or.inl rfl⟩
theorem zMk {ms:List zI} {k:Nat} (hk:k < ms.length):nmI ms (atM ms k).n = (nmF ms (atM ms k).n:Int) /\ (nmF ms (atM ms k).n < k ↔ B3 ms k):=by
 obtain ⟨h1,h2⟩:=zAL ms (atM ms k).n
 have hle:nmF ms (atM ms k).n <= k:=by
  by_cases e:nmF ms (atM ms k).n <= k
  ·exact e
  ·exact absurd rfl (h2 k (by omega))
 constructor
 ·unfold nmI
  rw [if_pos (by omega)]
 ·constructor
  ·intro h
   exact ⟨_,h,h1 (by omega)⟩
  ·rintro ⟨j,hj,e⟩
   by_cases h:nmF ms (atM ms k).n < k
   ·exact h
   ·exact absurd e (h2 j (by omega))
theorem zEE (a:Option Addr) (c0:Nat) (ms:List zI) (w:World) (hn:ms.length <= 1048576) (hM:zGe w a ms) (hz:zHu ms) :
  Calls Tryz.prog 33 #[.slice a ms.length c0] w (zMj w ms):=by
 by_cases h100:100 < ms.length
 ·have hI:(100:Int) < (ms.length:Int):=by omega
  have HL:=zB (show zAW ms [] 1 100 from Or.inl ⟨h100,rfl,rfl,rfl⟩)
  clear h100
  go_enter Tryz.func33,Tryz.ntmps33
  go_wp2
  go_ret3
  exact ⟨_,[],1,100,rfl,HL,zB (zAq _ _ _),(fun o ho=>by cases ho),zC _ _⟩
 have hn1:ms.length <= 100:=by omega
 have hI:¬ (100:Int) < (ms.length:Int):=by omega
 obtain ⟨n,hnn⟩:∃ n,n = ms.length:=⟨_,rfl⟩
 have HM:=zB hM
 have HSZ:=zB hz
 have HNN:=zB hnn
 have HNM:=zB (fun u W h=>zCy a c0 ms u W hn h)
 have HUN:=zB (fun W h1 h2=>zE5 a c0 ms W hn1 h1 hz h2)
 have HRC:=zB (fun gU cU vs U W h1 h2 h3 h4 h5 h6 h7=>zI4 a c0 gU cU ms vs U W hn1 h1 h2 h3 h4 h5 h6 h7)
 have HSC:=zB (fun gU cU vs U W rk h1 h2 h3 h4 h5 h6 h7 h8 h9=>zHz a c0 gU cU ms vs U W rk hn1 h1 h2 h3 h4 h5 h6 h7 h8 h9)
 have HDONE:=zB (show ∀ out c who,zDb ms.length (B2 ms) (fun i=>out = [] /\ c = 2 /\ who = (i:Int)) (zML ms out c who) -> zAW ms out c who from fun out c who h=>Or.inr ⟨hn1,h⟩)
 rw [<- hnn] at hn1 hI ⊢
 have hnn1:n <= ms.length:=by omega
 have hnn2:ms.length <= n:=by omega
 clear hM hz hn h100 hnn
 obtain ⟨N0,hN0⟩:∃ N0,N0 = w.heap.size:=⟨_,rfl⟩
 go_enter Tryz.func33,Tryz.ntmps33
 go_wp2_with fail
 obtain ⟨W0,hW0⟩:∃ W0,W0 = w.alloc (.cells #[] 55):=⟨_,rfl⟩
 have hbW0:Below w.heap.size w W0:=by rw [hW0]; exact zC _ _
 rw [<- hW0]
 clear hW0
 go_loopw [7] (fun iv wr=>∃ k:Nat,k <= n /\ iv = .int .i64 (k:Int) /\ Hid (∀ j,j < k -> ¬ B2 ms j) /\ Below w.heap.size w wr) (fun iv _=>n - (intOf iv).toNat)
 case atStart=>exact ⟨0,Nat.zero_le _,rfl,zB (fun j h=>by omega),hbW0⟩
 case round=>
  clear hbW0 W0
  obtain ⟨k,hk,rfl,HB,hbel⟩:=hrel
  by_cases hlt:k < n
  ·have hltI:(k:Int) < (n:Int):=by omega
   have hltm:k < ms.length:=by omega
   rcases zA HM with h | ⟨b,off,rfl,hops,hBl⟩
   ·omega
   obtain ⟨m0,m1⟩:=(hops k hltm).below hbel hBl
   have HRD:=zB (zA9 (atM ms k).t wr ((zA HSZ) k hltm).2)
   have hns:=((zA HSZ) k hltm).1
   have hbl2:b < wr.heap.size:=Nat.lt_of_lt_of_le hBl hbel.size
   clear hops
   go_wp2_with fail
   (with_reducible refine (zA HRD).mono ?_)
   rintro e w1 ⟨vu,vo,us,os,b',c',l',rfl,hi1,ru1,ro1,hne1,hlu,hlo,hb1⟩
   obtain ⟨a1,c1,rfl⟩:=zV ru1
   obtain ⟨a2,c2,rfl⟩:∃ a c,vo = .slice a os.length c:=zV ro1
   have m0':w1.cell? ⟨b,off + k * 2,none⟩ = some (.string (atM ms k).n):=(hb1.cell (p:=⟨b,off + k * 2,none⟩) hbl2).trans m0
   have z1:=hb1.size
   have hbl3:b < w1.heap.size:=by omega
   have HB1:=zB (hbel.trans (hb1.mono hbel.size))
   have HUI:=zB hi1
   have HBADR:=zB (show B2 ms k -> zAW ms [] 2 (k:Int) from fun h=>(zA HDONE) [] 2 (k:Int) (Or.inl ⟨k,hltm,h,zA HB,rfl,rfl,rfl⟩))
   have HNX:=zB (show ¬ B2 ms k -> ∀ j,j < k + 1 -> ¬ B2 ms j from fun h j hj=>by
    by_cases e:j = k
    ·subst e; exact h
    ·exact (zA HB) j (by omega))
   have HNAME:=zB (fun W=>zCE (atM ms k).n W hns)
   have hnI:(atM ms k).n.size <= 9223372036854775807:=hns
   clear hi1 ru1 ro1 hne1 hb1 HRD m0 m1 HB
   by_cases hc:c' = 0
   ·subst hc
    by_cases hN:zBY (atM ms k).n
    ·have HNT:=zB hN
     by_cases h64:64 < (atM ms k).n.size
     ·have h64I:(64:Int) < ((atM ms k).n.size:Int):=by omega
      have HR:=zB ((zA HBADR) (Or.inr (Or.inr h64)))
      clear hN h64
      go_wp2_with (first | (go_at_call 49; (with_reducible refine ((zA HNAME) _).mono ?_); rintro e w2 ⟨⟨v,rfl,hv⟩,hx⟩; obtain rfl:=hx.symm; obtain rfl:v = true:=(by cases v; exact (hv.2 (zA HNT)); rfl); clear hv hx))
      go_ret3
      exact ⟨_,[],2,_,rfl,HR,zB (zAq _ _ _),(fun o ho=>by cases ho),(zA HB1).alloc (by have:=(zA HB1).size; omega) _⟩
     ·have h64I:¬ (64:Int) < ((atM ms k).n.size:Int):=by omega
      have HOK:=zB ((zA HNX) (fun hB=>by
       rcases hB with ⟨us',os',b2,c2,l2,hu,hne⟩ | h | h
       ·exact hne ((zA HUI).one hu).2.2.2.1.symm
       ·exact h (zA HNT)
       ·exact h64 h))
      clear hN h64
      go_wp2_with (first | (go_at_call 49; (with_reducible refine ((zA HNAME) _).mono ?_); rintro e w2 ⟨⟨v,rfl,hv⟩,hx⟩; obtain rfl:=hx.symm; obtain rfl:v = true:=(by cases v; exact (hv.2 (zA HNT)); rfl); clear hv hx))
      exact ⟨⟨k + 1,by omega,by go_num,HOK,(zA HB1).alloc (by have:=(zA HB1).size; omega) _⟩,by simp [intOf]; omega⟩
    ·have HNT:=zB hN
     have HR:=zB ((zA HBADR) (Or.inr (Or.inl hN)))
     clear hN
     go_wp2_with (first | (go_at_call 49; (with_reducible refine ((zA HNAME) _).mono ?_); rintro e w2 ⟨⟨v,rfl,hv⟩,hx⟩; obtain rfl:=hx.symm; obtain rfl:v = false:=(by cases v; rfl; exact absurd (hv.1 rfl) (zA HNT)); clear hv hx))
     go_ret3
     exact ⟨_,[],2,_,rfl,HR,zB (zAq _ _ _),(fun o ho=>by cases ho),(zA HB1).alloc (by have:=(zA HB1).size; omega) _⟩
   ·have hcI:(c' != 0) = true:=by simpa using hc
    have HR:=zB ((zA HBADR) (Or.inl ⟨us,os,b',c',l',zA HUI,hc⟩))
    clear hc
    go_wp2_with fail
    go_ret3
    exact ⟨_,[],2,_,rfl,HR,zB (zAq _ _ _),(fun o ho=>by cases ho),(zA HB1).alloc (by have:=(zA HB1).size; omega) _⟩
  ·have HG2:=zB (show ∀ i,i < ms.length -> ¬ B2 ms i from fun i hi=>(zA HB) i (by omega))
   have HD2:=zB (show ∀ out c who,zML ms out c who -> zAW ms out c who from fun out c who h=>(zA HDONE) out c who (Or.inr ⟨zA HG2,h⟩))
   clear HB HDONE
   go_wp2_with fail
   go_loopw [11] (fun iv wr=>∃ k:Nat,k <= n /\ iv = .int .i64 (k:Int) /\ Hid (∀ j,j < k -> ¬ B3 ms j) /\ Below w.heap.size w wr) (fun iv _=>n - (intOf iv).toNat)
   case atStart=>exact ⟨0,Nat.zero_le _,rfl,zB (fun j h=>by omega),hbel⟩
   case round=>
    clear hbel
    obtain ⟨k,hk,rfl,HB,hbel⟩:=hrel
    by_cases hlt:k < n
    ·have hltI:(k:Int) < (n:Int):=by omega
     have hltm:k < ms.length:=by omega
     have HMr:=zB ((zA HM).below hbel)
     rcases zA HM with h | ⟨b,off,rfl,hops,hBl⟩
     ·omega
     obtain ⟨m0,m1⟩:=(hops k hltm).below hbel hBl
     have HCALL:=zB ((zA HNM) (atM ms k).n wr (zA HMr))
     obtain ⟨q,hq⟩:∃ q,q = nmF ms (atM ms k).n:=⟨_,rfl⟩
     have hB3:=zMk hltm
     rw [hB3.1,<- hq,<- zA HNN] at HCALL
     have hB3':=hB3.2
     rw [<- hq] at hB3'
     by_cases hqk:q < k
     ·have hqI:(q:Int) < (k:Int):=by omega
      have HR:=zB ((zA HD2) [] 3 (k:Int) (Or.inl ⟨k,hltm,hB3'.1 hqk,zA HB,rfl,rfl,rfl⟩))
      clear hB3 hB3' hq hops hqk HB
      go_wp2_with fail
      (with_reducible refine (zA HCALL).mono ?_)
      rintro e w2 ⟨rfl,hx⟩
      obtain rfl:=hx.symm
      clear hx HCALL
      go_wp2_with fail
      go_ret3
      exact ⟨_,[],3,_,rfl,HR,zB (zAq _ _ _),(fun o ho=>by cases ho),hbel⟩
     ·have hqI:¬ (q:Int) < (k:Int):=by omega
      have HOK:=zB (show ∀ j,j < k + 1 -> ¬ B3 ms j from fun j hj=>by
       by_cases e:j = k
       ·subst e; exact fun h=>hqk (hB3'.2 h)
       ·exact (zA HB) j (by omega))
      clear hB3 hB3' hq hops hqk HB
      go_wp2_with fail
      (with_reducible refine (zA HCALL).mono ?_)
      rintro e w2 ⟨rfl,hx⟩
      obtain rfl:=hx.symm
      clear hx HCALL
      go_wp2_with fail
      exact ⟨⟨k + 1,by omega,by go_num,HOK,hbel⟩,by simp [intOf]; omega⟩
    ·have HG3:=zB (show ∀ i,i < ms.length -> ¬ B3 ms i from fun i hi=>(zA HB) i (by omega))
     have HD3:=zB (show ∀ out c who,zOd ms out c who -> zAW ms out c who from fun out c who h=>(zA HD2) out c who (Or.inr ⟨zA HG3,h⟩))
     have HUNr:=zB ((zA HUN) wr ((zA HM).below hbel) (zA HG2))
     rw [<- zA HNN] at HUNr
     clear HB HD2 HUN
     go_wp2_with fail
     (with_reducible refine (zA HUNr).mono ?_)
     rintro e w3 ⟨gU,cU,vs,U,rfl,hgU1,hgU,hvl,HOV,HUA,HUO,hb3⟩
     have HBW3:=zB (hbel.trans (hb3.mono hbel.size))
     have z3:=(zA HBW3).size
     have HVL:=zB (show vs.length = n by rw [zA HNN]; exact hvl)
     have HD4:=zB (show ∀ out c who,zDb ms.length (B4 ms U) (fun i=>out = [] /\ c = 4 /\ who = (i:Int)) (zMK ms U out c who) -> zAW ms out c who from fun out c who h=>(zA HD3) out c who ⟨U,zA HUO,h⟩)
     have HUL:=zB (show ∀ i,i < ms.length -> (atU U i).us.length <= 20001 from fun i hi=>(zDD ((zA HUO).2 i hi)).1)
     rw [zA HVL]
     clear hb3 hbel HUNr hvl HD3
     go_wp2_with fail
     go_loopw [13] (fun iv wr=>∃ k:Nat,k <= n /\ iv = .int .i64 (k:Int) /\ Hid (∀ j,j < k -> ¬ B4 ms U j) /\ Below w3.heap.size w3 wr) (fun iv _=>n - (intOf iv).toNat)
     case atStart=>exact ⟨0,Nat.zero_le _,rfl,zB (fun j h=>by omega),Below.refl _ _⟩
     case round=>
      obtain ⟨k,hk,rfl,HB,hbel⟩:=hrel
      obtain ⟨wo,rfl⟩:∃ wo,wo = wr:=⟨_,rfl⟩
      by_cases hlt:k < n
      ·have hltI:(k:Int) < (n:Int):=by omega
       have hltm:k < ms.length:=by omega
       obtain ⟨us,hus⟩:∃ us,us = (atU U k).us:=⟨_,rfl⟩
       have HUS:=zB hus
       have hul:us.length <= 20001:=by rw [hus]; exact (zA HUL) k hltm
       have hvk:k < vs.length:=by rw [zA HVL]; exact hlt
       have HFAC:=zB (show ∀ W:World,Below w3.heap.size w3 W -> W.cell? ⟨gU,k * 3,none⟩ = some (atV vs k).vu /\ zz W (atV vs k).vu us from fun W hb=>by
        obtain ⟨v0,_,_⟩:=((zA HOV).below hb hgU) k hvk
        have hx:=((zA HUA).belowB hb (Nat.le_refl _)).uses hvk
        rw [<- zA HUS] at hx
        exact ⟨v0,hx⟩)
       clear hus
       go_wp2_with fail
       go_loopw [14] (fun iq wr=>∃ q:Nat,q <= us.length /\ iq = .int .i64 (q:Int) /\ Hid (∀ p,p < q -> ∀ u,us[p]? = some u -> nmF ms u < n) /\ wr = wo) (fun iq _=>us.length - (intOf iq).toNat)
       case atStart=>exact ⟨0,Nat.zero_le _,rfl,zB (fun p hp=>by omega),rfl⟩
       case round=>
        obtain ⟨q,hq,rfl,HQ,rfl⟩:=hrel
        obtain ⟨v0,hst⟩:=(zA HFAC) wr hbel
        by_cases hqlt:q < us.length
        ·have hqI:(q:Int) < (us.length:Int):=by omega
         obtain ⟨gw,cw,hv,hgw,hc⟩:=hst.lt (by omega)
         rw [hv] at v0
         obtain ⟨u,hu⟩:∃ u,us[q]? = some u:=⟨_,List.getElem?_eq_getElem hqlt⟩
         have k0:=hc q u hu
         have hum:u ∈ us:=List.mem_of_getElem? hu
         have hbwr:Below w.heap.size w wr:=(zA HBW3).trans (hbel.mono z3)
         have HCALL:=zB ((zA HNM) u wr ((zA HM).below hbwr))
         rw [<- zA HNN] at HCALL
         by_cases hin:nmF ms u < n
         ·obtain ⟨m,hm⟩:∃ m,m = nmF ms u:=⟨_,rfl⟩
          have hnm:nmI ms u = (m:Int):=by
           unfold nmI
           rw [<- hm,<- zA HNN,if_pos (by rw [hm]; exact hin)]
          rw [hnm] at HCALL
          have hmI:¬ (m:Int) < 0:=by omega
          have HQ2:=zB (show ∀ p,p < q + 1 -> ∀ u,us[p]? = some u -> nmF ms u < n from fun p hp u' hu'=>by
           by_cases e:p = q
           ·subst e
            rw [hu] at hu'
            injection hu' with hu'
            subst hu'
            exact hin
           ·exact (zA HQ) p (by omega) u' hu')
          clear hc hst hu hum hm hnm hv hin HQ
          go_wp2_with fail
          (with_reducible refine (zA HCALL).mono ?_)
          rintro e w2 ⟨rfl,hx⟩
          obtain rfl:=hx.symm
          clear hx HCALL
          go_wp2_with fail
          exact ⟨⟨q + 1,by omega,by go_num,HQ2,trivial⟩,by simp [intOf]; omega⟩
         ·have hnm:nmI ms u = -1:=by
           unfold nmI
           rw [if_neg (by rw [<- zA HNN]; exact hin)]
          rw [hnm] at HCALL
          have HR:=zB ((zA HD4) [] 4 (k:Int) (Or.inl ⟨k,hltm,⟨u,by rw [<- zA HUS]; exact hum,fun j hj=>(zAL ms u).2 j (by omega)⟩,zA HB,rfl,rfl,rfl⟩))
          have HBR:=zB hbwr
          clear hc hst hu hum hnm hv hin HQ hbwr
          go_wp2_with fail
          (with_reducible refine (zA HCALL).mono ?_)
          rintro e w2 ⟨rfl,hx⟩
          obtain rfl:=hx.symm
          clear hx HCALL
          go_wp2_with fail
          go_ret3
          exact ⟨_,[],4,_,rfl,HR,zB (zAq _ _ _),(fun o ho=>by cases ho),zA HBR⟩
        ·obtain ⟨aw,cw,hv,_⟩:=hst
         rw [hv] at v0
         have HOK:=zB (show ∀ j,j < k + 1 -> ¬ B4 ms U j from fun j hj=>by
          by_cases e:j = k
          ·subst e
           rintro ⟨u,hu,hno⟩
           rw [<- zA HUS] at hu
           obtain ⟨p,hp,e⟩:=List.getElem_of_mem hu
           have h1:=(zA HQ) p (by omega) u (by rw [List.getElem?_eq_getElem hp,e])
           exact hno _ (by omega) ((zAL ms u).1 (by omega))
          ·exact (zA HB) j (by omega))
         clear hv HQ
         go_wp2_with fail
         exact ⟨⟨k + 1,by omega,by go_num,HOK,hbel⟩,by simp [intOf]; omega⟩
      ·have HG4:=zB (show ∀ i,i < ms.length -> ¬ B4 ms U i from fun i hi=>(zA HB) i (by omega))
       have HD5:=zB (show ∀ out c who,zMK ms U out c who -> zAW ms out c who from fun out c who h=>(zA HD4) out c who (Or.inr ⟨zA HG4,h⟩))
       have hbwo:Below w.heap.size w wo:=(zA HBW3).trans (hbel.mono z3)
       have zo:=hbel.size
       have hUAo:zBr wo wo.heap.size vs U:=((zA HUA).belowB hbel (Nat.le_refl _)).mono zo
       have HRr:=zB ((zA HRC) gU cU vs U wo ((zA HM).below hbwo) ((zA HOV).below hbel hgU) (by omega) hUAo (zA HUO) (by rw [zA HVL,zA HNN]) (zA HG4))
       rw [<- zA HNN] at HRr
       have HBWo:=zB hbwo
       clear HB HD4 HRC hbwo hUAo
       go_wp2_with fail
       (with_reducible refine (zA HRr).mono ?_)
       rintro e w5 ⟨gR,cR,rs,rfl,hgR1,hgR,HCR,HBR,hb5⟩
       have HBW5:=zB ((zA HBWo).trans (hb5.mono (zA HBWo).size))
       have z5:=hb5.size
       have HB35:=zB (hbel.trans (hb5.mono zo))
       have HTC:=zB (show ∀ i,wrN (zCz ms U) n i i = true ↔ TC (Edg ms U) i i from fun i=>by rw [zA HNN]; exact zGD (zA HG3) i i)
       clear hb5 HRr HBWo hbel
       go_wp2_with fail
       go_loopw [16] (fun iv wr=>∃ k:Nat,k <= n /\ iv = .int .i64 (k:Int) /\ Hid (∀ j,j < k -> ¬ TC (Edg ms U) j j) /\ wr = w5) (fun iv _=>n - (intOf iv).toNat)
       case atStart=>exact ⟨0,Nat.zero_le _,rfl,zB (fun j h=>by omega),rfl⟩
       case round=>
        obtain ⟨k,hk,rfl,HB,rfl⟩:=hrel
        by_cases hlt:k < n
        ·have hltI:(k:Int) < (n:Int):=by omega
         have hltm:k < ms.length:=by omega
         have c0':=(zA HCR) k hlt
         obtain ⟨b0',_⟩:=((zA HBR) k hlt).2 k hlt
         cases hW:wrN (zCz ms U) n k k
         ·rw [hW] at b0'
          have HOK:=zB (show ∀ j,j < k + 1 -> ¬ TC (Edg ms U) j j from fun j hj=>by
           by_cases e:j = k
           ·subst e
            intro h
            rw [((zA HTC) j).2 h] at hW
            cases hW
           ·exact (zA HB) j (by omega))
          clear hW HB
          go_wp2_with fail
          exact ⟨⟨k + 1,by omega,by go_num,HOK,trivial⟩,by simp [intOf]; omega⟩
         ·rw [hW] at b0'
          have HR:=zB ((zA HD5) [] 5 (k:Int) (Or.inl ⟨k,hltm,((zA HTC) k).1 hW,zA HB,rfl,rfl,rfl⟩))
          clear hW HB
          go_wp2_with fail
          go_ret3
          exact ⟨_,[],5,_,rfl,HR,zB (zAq _ _ _),(fun o ho=>by cases ho),zA HBW5⟩
        ·have HG5:=zB (show ∀ i,i < ms.length -> ¬ TC (Edg ms U) i i from fun i hi=>(zA HB) i (by omega))
         have HD6:=zB (show ∀ out c who,zPa ms U out c who -> zAW ms out c who from fun out c who h=>(zA HD5) out c who (Or.inr ⟨zA HG5,h⟩))
         obtain ⟨rk,hk1,hk2⟩:=zPc (zA HG3) (zA HG4) (zA HG5)
         have z35:=(zA HB35).size
         have hUA5:zBr wr wr.heap.size vs U:=((zA HUA).belowB (zA HB35) (Nat.le_refl _)).mono z35
         have HSr:=zB ((zA HSC) gU cU vs U wr rk ((zA HM).below (zA HBW5)) ((zA HOV).below (zA HB35) hgU) (by omega) hUA5 (zA HUO) (by rw [zA HVL,zA HNN]) (zA HG4) hk1 hk2)
         rw [<- zA HNN] at HSr
         clear HB HD5 HSC hUA5 hk1 hk2 HCR HBR
         go_wp2_with fail
         (with_reducible refine (zA HSr).mono ?_)
         rintro e w6 ⟨gSS,S,rfl,hgS1,hgS,HSE,HST,hb6⟩
         rw [<- zA HNN]
         have zl5:=(zA HBW5).size
         have HBW6:=zB ((zA HBW5).trans (hb6.mono (zA HBW5).size))
         have HSM:=zB (show ∀ i,i < ms.length -> Zs (S i) /\ (S i).length <= 400000 from fun i hi=>⟨zI5 (fun o ho=>(zA HUO).small o (((zA HST) i hi).1 o ho)),Nat.le_trans (zFQ _ _ ((zA HSE).nd hi) ((zA HST) i hi).1) ((zA HUO).all (by omega))⟩)
         clear hb6 HSr
         go_wp2_with fail
         go_loopw [18] (fun iv wr=>∃ k:Nat,k <= n /\ iv = .int .i64 (k:Int) /\ Hid (∀ j,j < k -> ¬ B6 S j) /\ Below w6.heap.size w6 wr) (fun iv _=>n - (intOf iv).toNat)
         case atStart=>exact ⟨0,Nat.zero_le _,rfl,zB (fun j h=>by omega),Below.refl _ _⟩
         case round=>
          obtain ⟨k,hk,rfl,HB,hbel⟩:=hrel
          have hbw:Below w.heap.size w wr:=(zA HBW6).trans (hbel.mono (zA HBW6).size)
          by_cases hlt:k < n
          ·have hltI:(k:Int) < (n:Int):=by omega
           have hltm:k < ms.length:=by omega
           obtain ⟨_,tv,t0,hot0,_⟩:=(zA HST) k hltm
           have hot:=hot0.at'
           clear hot0
           have hot2:=hot.below hbel
           obtain ⟨at1,ct1,hv,_⟩:=hot
           rw [hv] at t0 hot2
           have t0':wr.cell? ⟨gSS,k,none⟩ = some (.slice at1 (S k).length ct1):=(hbel.cell (p:=⟨gSS,k,none⟩) hgS).trans t0
           have HTO:=zB (zGI _ (S k) wr (by have:=((zA HSM) k hltm).2; omega) hot2 ((zA HSM) k hltm).1)
           have HBW:=zB hbw
           clear hv t0 hot2 hbw
           go_wp2_with fail
           (with_reducible refine (zA HTO).mono ?_)
           rintro e w7 ⟨⟨cc,rfl,hcc⟩,hb7⟩
           have HB7:=zB (hbel.trans (hb7.mono hbel.size))
           have HBW7:=zB ((zA HBW).trans (hb7.mono (zA HBW).size))
           clear hb7 HTO
           by_cases hc0:cc = 0
           ·subst hc0
            have HOK:=zB (show ∀ j,j < k + 1 -> ¬ B6 S j from fun j hj=>by
             by_cases e:j = k
             ·subst e
              rintro ⟨c',h1,h2⟩
              exact h2 (zA6 h1 hcc)
             ·exact (zA HB) j (by omega))
            clear hcc HB
            go_wp2_with fail
            exact ⟨⟨k + 1,by omega,by go_num,HOK,zA HB7⟩,by simp [intOf]; omega⟩
           ·have hcI:(cc != 0) = true:=by simpa using hc0
            have HR:=zB ((zA HD6) [] 6 (k:Int) ⟨S,zA HSE,Or.inl ⟨k,hltm,⟨cc,hcc,hc0⟩,zA HB,rfl,rfl,rfl⟩⟩)
            clear hcc HB hc0
            go_wp2_with fail
            go_ret3
            exact ⟨_,[],6,_,rfl,HR,zB (zAq _ _ _),(fun o ho=>by cases ho),zA HBW7⟩
          ·have HR:=zB ((zA HD6) ((List.range ms.length).map S) 0 0 ⟨S,zA HSE,Or.inr ⟨fun i hi=>(zA HB) i (by omega),rfl,rfl,rfl⟩⟩)
           have HTB:=zB (show zGJ wr w.heap.size (.slice (some ⟨gSS,0,none⟩) n n) ((List.range ms.length).map S) by
            refine ⟨_,n,by rw [List.length_map,List.length_range,zA HNN],Or.inr ⟨by omega,Nat.lt_of_lt_of_le hgS hbel.size,fun i hi=>?_⟩⟩
            have hi':i < ms.length:=by simpa using hi
            obtain ⟨_,tv,t0,hot,hlo⟩:=(zA HST) i hi'
            rw [zI6 hi']
            exact ⟨tv,(hbel.cell (p:=⟨gSS,i,none⟩) hgS).trans t0,hot.below hbel,fun q e=>by have:=hlo q e; omega⟩)
           have HLN:=zB (show ∀ o ∈ (List.range ms.length).map S,o.length <= 1048576 /\ Zs o from fun o ho=>by
            obtain ⟨i,hi,rfl⟩:=List.mem_map.1 ho
            have:=(zA HSM) i (List.mem_range.1 hi)
            exact ⟨by omega,this.1⟩)
           have HBW:=zB hbw
           clear HB hbw
           go_wp2_with fail
           go_ret3
           exact ⟨_,_,0,0,rfl,HR,HTB,zA HLN,zA HBW⟩
end Go.Proofs.YtgiemobdmbijiaaGreatDoor
