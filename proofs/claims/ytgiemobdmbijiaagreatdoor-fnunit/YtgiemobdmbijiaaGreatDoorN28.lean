import Derived.Deep.RegionHeld
import Derived.Test.YtgiemobdmbijiaaGreatDoorN27
namespace Go.Proofs.YtgiemobdmbijiaaGreatDoor
set_option linter.unusedSimpArgs false
set_option linter.unusedVariables false
set_option maxHeartbeats 16000000
set_option maxRecDepth 100000
open Go.RowKit
theorem zN5:(Tryz.prog.info? 55).map (fun i=>(i.zero,i.size,i.bytes)) = some (some (.agg #[.slice none 0 0]),1,24):=by kernel_rfl
def zN6 (w:World) (ms:List zI) (U:List UnR) (e:Ending) (w':World):Prop:=∃ (g:Nat) (S:Nat -> List OpR),e = .returned (.slice (some ⟨g,0,none⟩) ms.length ms.length) /\ w.heap.size <= g /\ g < w'.heap.size /\ Hid (ScE ms U S) /\ Hid (∀ i,i < ms.length -> (∀ o ∈ S i,o ∈ zBg U) /\ ∃ v,w'.cell? ⟨g,i,none⟩ = some v /\ zBy w' v (S i) /\ ∀ q,v.ownBlock = some q -> w.heap.size <= q) /\ Below w.heap.size w w'
theorem zMh (w:World) (n:Nat) (j:Nat) (hj:j < n):(w.alloc (.cells (madeCells #[.slice none 0 0] n) 55)).cell? ⟨w.heap.size,j,none⟩ = some (.slice none 0 0):=by
 have h:=World.rangeAt_of_block (w:=w.alloc (.cells (madeCells #[.slice none 0 0] n) 55)) (b:=w.heap.size) (heap_alloc_new w _) 0 n
 have h1:=h j (.slice none 0 0) (by
  simp only [madeCells]
  simp [hj,Nat.mod_one])
 simpa using h1
theorem zHz (a:Option Addr) (c0 gU cU:Nat) (ms:List zI) (vs:List UvR) (U:List UnR) (w:World) (rk:Nat -> Nat) (hn:ms.length <= 100) (hM:zGe w a ms) (hOV:zJx w gU vs) (hgU:gU < w.heap.size) (hUA:zBr w w.heap.size vs U) (hUO:zBD ms U) (hvl:vs.length = ms.length) (h4:∀ i,i < ms.length -> ¬ B4 ms U i)
  (hrk1:∀ i,i < ms.length -> ∀ u ∈ (atU U i).us,rk (nmF ms u) < rk i) (hrk2:∀ i,i < ms.length -> rk i < ms.length) :
  Calls Tryz.prog 53 #[.slice a ms.length c0,.slice (some ⟨gU,0,none⟩) ms.length cU] w (zN6 w ms U):=by
 obtain ⟨n,hnn⟩:∃ n,n = ms.length:=⟨_,rfl⟩
 have hmk1:∀ W:World,(Instr.makeSlice 67 (.int .i64 (n:Int)) (.int .i64 (n:Int))).run Tryz.prog W = .ok (.slice (some ⟨W.heap.size,0,none⟩) n n) (W.alloc (.cells (madeCells #[.slice none 0 0] n) 55)):=by
  obtain ⟨inf,hi,hz⟩:=Option.map_eq_some_iff.1 zN5
  simp only [Prod.mk.injEq] at hz
  obtain ⟨hz,hsz,hby⟩:=hz
  intro W
  have:=run_make (P:=Tryz.prog) W 67 55 inf _ Tryz.underlying67 hi hz .i64 .i64 n n (by omega) (by omega) (by rw [hby]; omega) (by omega)
  simpa [hsz,Value.cells] using this
 have hmk2:∀ W:World,(Instr.makeSlice 91 (.int .i64 (n:Int)) (.int .i64 (n:Int))).run Tryz.prog W = .ok (.slice (some ⟨W.heap.size,0,none⟩) n n) (W.alloc (.cells (madeCells #[.bool false] n) 4)):=by
  obtain ⟨inf,hi,hz⟩:=Option.map_eq_some_iff.1 zHG
  simp only [Prod.mk.injEq] at hz
  obtain ⟨hz,hsz,hby⟩:=hz
  intro W
  have:=run_make (P:=Tryz.prog) W 91 4 inf _ Tryz.underlying91 hi hz .i64 .i64 n n (by omega) (by omega) (by rw [hby]; omega) (by omega)
  simpa [hsz,Value.cells] using this
 have HALL:=zB (show (zBg U).length <= 400000 from hUO.all hn)
 have HM:=zB hM
 have HOV:=zB hOV
 have HUA:=zB hUA
 have HVL:=zB hvl
 have HNM:=zB (fun u=>zCy a c0 ms u)
 have HIN:=zB (show ∀ i,i < ms.length -> ∀ u ∈ (atU U i).us,nmF ms u < ms.length from fun i hi u hu=>by
  have hle:=zEc ms u
  by_cases e:nmF ms u < ms.length
  ·exact e
  ·refine absurd ⟨u,hu,fun j hj=>?_⟩ (h4 i hi)
   exact (zAL ms u).2 j (by omega))
 have HUL:=zB (show ∀ i,i < ms.length -> (atU U i).us.length <= 20001 /\ (atU U i).os.length <= 4000 from fun i hi=>⟨(zDD (hUO.2 i hi)).1,(zD7 (hUO.2 i hi)).1⟩)
 have HK1:=zB hrk1
 have HK2:=zB hrk2
 have HULN:=zB hUO.1
 rw [<- hnn] at HNM HIN HUL HVL HK1 HK2 HULN hn ⊢
 have HNN:=zB hnn
 clear hM hOV hUA hUO hvl h4 hnn hrk1 hrk2
 have hm1:=hmk1 w
 have hm2:=hmk2 (w.alloc (.cells (madeCells #[.slice none 0 0] n) 55))
 clear hmk1 hmk2
 go_enter Tryz.func53,Tryz.ntmps53
 go_wp2_with fail
 clear hm1 hm2
 obtain ⟨W0,hW0⟩:∃ W0,W0 = (w.alloc (.cells (madeCells #[.slice none 0 0] n) 55)).alloc (.cells (madeCells #[.bool false] n) 4):=⟨_,rfl⟩
 obtain ⟨O,hO⟩:∃ O,O = w.heap.size:=⟨_,rfl⟩
 obtain ⟨D,hD⟩:∃ D,D = w.heap.size + 1:=⟨_,rfl⟩
 have HS0:=zB (show zHy w n O D (fun _=>false) (fun _=>[]) W0 by
  rw [hW0,hO,hD]
  refine ⟨?_,fun i hi=>⟨.slice none 0 0,?_,?_,fun e=>by cases e⟩,(zC _ _).alloc (by simp) _,Nat.le_refl _,by omega,by simp; omega,by omega⟩
  ·have:=zHE (w.alloc (.cells (madeCells #[.slice none 0 0] n) 55)) n
   simpa using this
  ·exact ((zC (w.alloc (.cells (madeCells #[.slice none 0 0] n) 55)) _).cell (p:=⟨w.heap.size,i,none⟩) (by simp)).trans (zMh w n i hi)
  ·simp [go_sem])
 rw [<- hW0,<- hD,<- hO]
 clear hW0
 have hO':w.heap.size <= O:=by omega
 have hOD:O ≠ D:=by omega
 clear hO hD
 go_loopw [8] (fun ir wr=>∃ (r:Nat) (d:Nat -> Bool) (T:Nat -> List OpR),r <= n /\ ir = .int .i64 (r:Int) /\ Hid (zHy w n O D d T wr) /\ Hid (zGH ms U d T) /\ Hid (zA4 n rk d r 0)) (fun ir _=>n - (intOf ir).toNat)
 case atStart=>exact ⟨0,fun _=>false,fun _=>[],Nat.zero_le _,rfl,HS0,zB (fun i hi e=>by cases e),zB (fun j hj h=>by omega)⟩
 case round=>
  clear HS0
  obtain ⟨r,d0,T0,hr,rfl,HS,HE,HRI⟩:=hrel
  obtain ⟨wo,rfl⟩:∃ wo,wo = wr:=⟨_,rfl⟩
  by_cases hrlt:r < n
  ·have hrI:(r:Int) < (n:Int):=by omega
   go_wp2_with fail
   go_loopw [9] (fun ii wr=>∃ (k:Nat) (d:Nat -> Bool) (T:Nat -> List OpR),k <= n /\ ii = .int .i64 (k:Int) /\ Hid (zHy w n O D d T wr) /\ Hid (zGH ms U d T) /\ Hid (zA4 n rk d r k)) (fun ii _=>n - (intOf ii).toNat)
   case atStart=>exact ⟨0,d0,T0,Nat.zero_le _,rfl,HS,HE,HRI⟩
   case round=>
    clear HS HE HRI
    obtain ⟨k,d,T,hk,rfl,HS,HE,HRI⟩:=hrel
    obtain ⟨wi,rfl⟩:∃ wi,wi = wr:=⟨_,rfl⟩
    by_cases hklt:k < n
    ·have hkI:(k:Int) < (n:Int):=by omega
     have hzi:=(zA HS).bel.size
     have hOl:=(zA HS).hOl
     have hDl:=(zA HS).dn.1
     obtain ⟨us,hus⟩:∃ us,us = (atU U k).us:=⟨_,rfl⟩
     obtain ⟨os,hos⟩:∃ os,os = (atU U k).os:=⟨_,rfl⟩
     have hul:us.length <= 20001:=by rw [hus]; exact ((zA HUL) k hklt).1
     have hol:os.length <= 4000:=by rw [hos]; exact ((zA HUL) k hklt).2
     have HINk:=zB (show ∀ u ∈ us,nmF ms u < n by rw [hus]; exact (zA HIN) k hklt)
     have HK1k:=zB (show ∀ u ∈ us,rk (nmF ms u) < rk k by rw [hus]; exact (zA HK1) k hklt)
     have HUS:=zB hus
     have HOS:=zB hos
     clear hus hos
     have hvk:k < vs.length:=by rw [zA HVL]; exact hklt
     have HFAC:=zB (show ∀ W:World,Below w.heap.size w W -> W.cell? ⟨gU,k * 3,none⟩ = some (atV vs k).vu /\ W.cell? ⟨gU,k * 3 + 1,none⟩ = some (atV vs k).vo /\ zz W (atV vs k).vu us /\ ZF W (atV vs k).vo os /\ (∀ g,(atV vs k).vu.ownBlock = some g -> g < w.heap.size) from fun W hb=>by
      obtain ⟨v0,v1,_⟩:=((zA HOV).below hb hgU) k hvk
      have hx:=(zA HUA).belowB hb (Nat.le_refl _)
      obtain ⟨⟨q1,q2,_⟩,q3,_⟩:=hx.2 k hvk
      rw [<- zA HUS] at q1
      rw [<- zA HOS] at q2
      exact ⟨v0,v1,q1,q2,q3⟩)
     obtain ⟨b0,f0⟩:=(zA HS).dn.2 k hklt
     obtain ⟨R0,hR0⟩:∃ R0:Bool,R0 = !d k:=⟨_,rfl⟩
     have HR0:=zB (show rdy ms d k us 0 = !d k by simp [rdy])
     clear hR0 R0
     go_wp2_with fail
     go_loopw [10,11] (fun rv ik wr=>∃ q:Nat,q <= us.length /\ ik = .int .i64 (q:Int) /\ rv = .bool (rdy ms d k us q) /\ wr = wi) (fun _ ik _=>us.length - (intOf ik).toNat)
     case atStart=>exact ⟨0,Nat.zero_le _,rfl,by rw [zA HR0],rfl⟩
     case round=>
      obtain ⟨q,hq,rfl,rfl,rfl⟩:=hrel
      obtain ⟨v0,v1,hst,hop,hbl⟩:=(zA HFAC) wr (zA HS).bel
      by_cases hqlt:q < us.length
      ·have hqI:(q:Int) < (us.length:Int):=by omega
       obtain ⟨gw,cw,hv,hgw,hc⟩:=hst.lt (by omega)
       rw [hv] at v0
       obtain ⟨u,hu⟩:∃ u,us[q]? = some u:=⟨_,List.getElem?_eq_getElem hqlt⟩
       have k0:=hc q u hu
       have hum:u ∈ us:=List.mem_of_getElem? hu
       have HSTEP:=zB (zMg (ms:=ms) (d:=d) (i:=k) hu)
       obtain ⟨m,hm⟩:∃ m,m = nmF ms u:=⟨_,rfl⟩
       rw [<- hm] at HSTEP
       have hmn:m < n:=by rw [hm]; exact (zA HINk) u hum
       have hmI:(m:Int) < (n:Int):=by omega
       obtain ⟨m0,_⟩:=(zA HS).dn.2 m hmn
       cases hrd:rdy ms d k us q
       ·rw [hrd] at HSTEP
        have HX:=zB (show rdy ms d k us (q + 1) = false by rw [zA HSTEP]; rfl)
        clear hc hst hu hum hm hv v1 hop hbl
        go_wp2_with fail
        exact ⟨⟨q + 1,by omega,by go_num,by rw [zA HX],trivial⟩,by simp [intOf]; omega⟩
       ·rw [hrd] at HSTEP
        have HX:=zB (show rdy ms d k us (q + 1) = d m by rw [zA HSTEP]; simp)
        have HCALL:=zB ((zA HNM) u wr (by omega) ((zA HM).below (zA HS).bel))
        have hnm:nmI ms u = (m:Int):=by
         unfold nmI
         rw [<- hm,<- zA HNN,if_pos hmn]
        rw [hnm] at HCALL
        clear hc hst hu hum hm hv v1 hop hbl hnm
        go_wp2_with (first | (go_at_call 50; (with_reducible refine (zA HCALL).mono ?_); rintro e w2 ⟨rfl,hx⟩; obtain rfl:=hx.symm; clear hx))
        exact ⟨⟨q + 1,by omega,by go_num,by rw [zA HX],trivial⟩,by simp [intOf]; omega⟩
      ·obtain ⟨aw,cw,hv,_⟩:=hst
       rw [hv] at v0
       have hqe:q = us.length:=by omega
       obtain ⟨ao,co,hvo,_⟩:=hop
       rw [hvo] at v1
       have HOP:=zB (show ZF wr (.slice ao os.length co) os from hvo ▸ ((zA HFAC) wr (zA HS).bel).2.2.2.1)
       cases hrd:rdy ms d k us q
       ·
        have HRI2:=zB (show zA4 n rk d r (k + 1) from (zA HRI).next (fun hrk=>by
         rw [hqe] at hrd
         unfold rdy at hrd
         rw [List.take_length] at hrd
         cases hdk:d k
         ·rw [hdk] at hrd
          have hall:us.all (fun u=>d (nmF ms u)) = true:=by
           rw [List.all_eq_true]
           intro u hu
           exact (zA HRI) _ ((zA HINk) u hu) (Or.inl (by have:=(zA HK1k) u hu; omega))
          rw [hall] at hrd
          cases hrd
         ·rfl))
        clear hv hvo hqe HOP v1 hbl HRI
        go_wp2_with fail
        exact ⟨⟨k + 1,d,T,by omega,by go_num,HS,HE,HRI2⟩,by simp [intOf]; omega⟩
       ·have hdk:d k = false:=by
         unfold rdy at hrd
         cases h:d k
         ·rfl
         ·rw [h] at hrd; cases hrd
        have HALLU:=zB (show ∀ u ∈ us,d (nmF ms u) = true from fun u hu=>by
         rw [hqe] at hrd
         unfold rdy at hrd
         rw [List.take_length,hdk] at hrd
         exact List.all_eq_true.1 (by simpa using hrd) u hu)
        have HDK:=zB hdk
        have HUN0:=zB (zED (.slice ao os.length co) (.slice none 0 0) os [] os (zB (by simp)) wr (by simp; omega) (zA HOP) ⟨none,0,rfl,Or.inl ⟨rfl,rfl,rfl⟩⟩)
        have huni:Z5 os os.length = ZQ [] os:=by rw [zHs _ _ (Nat.le_refl _),List.take_length]
        rw [huni] at HUN0
        obtain ⟨acc0,hacc0⟩:∃ acc0,acc0 = ZQ [] os:=⟨_,rfl⟩
        rw [<- hacc0] at HUN0
        have HACC0:=zB hacc0
        clear hv hvo hqe HOP hbl huni hacc0 hdk hrd b0 f0
        go_wp2_with fail
        (with_reducible refine (zA HUN0).mono ?_)
        rintro e w1 ⟨⟨h1,c1,rfl,hh1,hf1⟩,hb1⟩
        have z1:=hb1.size
        obtain ⟨B12,hB12⟩:∃ B12,B12 = w1.heap.size:=⟨_,rfl⟩
        obtain ⟨W12,hW12⟩:∃ W12,W12 = w1.alloc (.cells #[.slice (some ⟨h1,0,none⟩) acc0.length c1] 55):=⟨_,rfl⟩
        have t0:W12.cell? ⟨B12,0,none⟩ = some (.slice (some ⟨h1,0,none⟩) acc0.length c1):=by rw [hW12,hB12]; simp [go_sem]
        have t1:W12.frozen? ⟨B12,0,none⟩ = false:=by rw [hW12,hB12]; simp [go_sem]
        have HO12:=zB (show ZF W12 (.slice (some ⟨h1,0,none⟩) acc0.length c1) acc0 by rw [hW12]; exact ⟨_,_,rfl,Or.inr ⟨h1,rfl,by have:=hf1.1; simp; omega,hf1.ops.below (zC _ _) hf1.1⟩⟩)
        have z12:B12 + 1 <= W12.heap.size:=by rw [hW12,hB12]; simp
        have hwi:wr.heap.size <= B12:=by omega
        have hh12:h1 < B12:=by rw [hB12]; exact hf1.1
        have hh11:wr.heap.size <= h1:=hh1
        obtain ⟨wi',rfl⟩:∃ wi',wi' = wr:=⟨_,rfl⟩
        have HWW:=zB hW12
        have HBI:=zB (show Below wi'.heap.size wi' W12 by rw [hW12]; exact hb1.trans ((zC _ _).mono z1))
        clear hf1 hb1 hh1 HUN0 v0 v1
        go_wp2_with fail
        rw [<- zA HWW,<- hB12]
        clear HWW hB12 z1
        go_loopw [13] (fun ik wr=>∃ (q h c:Nat) (acc:List OpR),q <= us.length /\ ik = .int .i64 (q:Int) /\ Hid (acc = zAV (nmF ms) T acc0 (us.take q)) /\ wr.cell? ⟨B12,0,none⟩ = some (.slice (some ⟨h,0,none⟩) acc.length c) /\ wr.frozen? ⟨B12,0,none⟩ = false /\ Hid (ZF wr (.slice (some ⟨h,0,none⟩) acc.length c) acc) /\ (h ≠ B12 /\ wi'.heap.size <= h) /\ Below B12 W12 wr) (fun ik _=>us.length - (intOf ik).toNat)
        case atStart=>exact ⟨0,h1,c1,acc0,Nat.zero_le _,rfl,zB (by simp [zAV]),t0,t1,HO12,⟨by omega,by omega⟩,Below.refl _ _⟩
        case round=>
         clear t0 t1 HO12 hh12 hh11
         obtain ⟨q,h,c,acc,hq,rfl,HACC,t0,t1,HOA,⟨hhB,hhi⟩,hb12⟩:=hrel
         have hBi:=(zA HBI).trans (hb12.mono hwi)
         have z12':B12 + 1 <= wr.heap.size:=Nat.le_trans z12 hb12.size
         have hbw:Below w.heap.size w wr:=(zA HS).bel.trans (hBi.mono hzi)
         obtain ⟨v0,v1,hst,_,hbl⟩:=(zA HFAC) wr hbw
         have HSB:=zB (show acc.Nodup /\ acc.length <= 400000 by
          have h1:acc.Nodup:=by rw [zA HACC,zA HACC0]; exact zD6 _ _ _ _ (zB4 _ _ (by simp))
          refine ⟨h1,Nat.le_trans (zFQ acc (zBg U) h1 (fun o ho=>?_)) (zA HALL)⟩
          rw [zA HACC,zA HACC0,zEb,zA8] at ho
          rcases ho with (ho | ho) | ⟨u,hu,ho⟩
          ·cases ho
          ·exact List.mem_flatMap.2 ⟨atU U k,zKq (by rw [zA HULN]; exact hklt),by rw [<- zA HOS]; exact ho⟩
          ·have hu':=List.mem_of_mem_take hu
           exact ((zA HE) _ (by rw [<- zA HNN]; exact (zA HINk) u hu') ((zA HALLU) u hu')).2.2.2 o ho)
         by_cases hqlt:q < us.length
         ·have hqI:(q:Int) < (us.length:Int):=by omega
          obtain ⟨gw,cw,hv,hgw,hc⟩:=hst.lt (by omega)
          have hgw0:gw < w.heap.size:=hbl gw (by rw [hv]; rfl)
          rw [hv] at v0
          obtain ⟨u,hu⟩:∃ u,us[q]? = some u:=⟨_,List.getElem?_eq_getElem hqlt⟩
          have k0:=hc q u hu
          have hum:u ∈ us:=List.mem_of_getElem? hu
          obtain ⟨m,hm⟩:∃ m,m = nmF ms u:=⟨_,rfl⟩
          have hmn:m < n:=by rw [hm]; exact (zA HINk) u hum
          have hmI:(m:Int) < (n:Int):=by omega
          have hdm:d m = true:=by rw [hm]; exact (zA HALLU) u hum
          obtain ⟨vT,o0,_,o1⟩:=(zA HS).cs m hmn
          obtain ⟨hopT0,_⟩:=o1 hdm
          have hopT:=hopT0.at'
          clear hopT0
          have hopTr:=hopT.below hBi
          have hTm:=(zA HE) m (by rw [<- zA HNN]; exact hmn) hdm
          have hTl:(T m).length <= 400000:=Nat.le_trans (zFQ (T m) (zBg U) hTm.2.2.1 hTm.2.2.2) (zA HALL)
          obtain ⟨aT,cT,hvT,_⟩:=hopT
          rw [hvT] at o0 hopTr
          have o0':wr.cell? ⟨O,m,none⟩ = some (.slice aT (T m).length cT):=(hBi.cell (p:=⟨O,m,none⟩) hOl).trans o0
          have HCALL:=zB ((zA HNM) u wr.drew (by omega) ((zA HM).below hbw.drew))
          have hnm:nmI ms u = (m:Int):=by
           unfold nmI
           rw [<- hm,<- zA HNN,if_pos hmn]
          rw [hnm] at HCALL
          have HUNI:=zB (zED (.slice (some ⟨h,0,none⟩) acc.length c) (.slice aT (T m).length cT) acc (T m) (acc ++ T m) (zB rfl) wr.drew (by have:=(zA HSB).2; omega) ((zA HOA).below (Below.refl _ _).drew) (hopTr.below (Below.refl _ _).drew))
          rw [zNo (zA HSB).1] at HUNI
          obtain ⟨acc',hacc'⟩:∃ acc',acc' = ZQ acc (T m):=⟨_,rfl⟩
          rw [<- hacc'] at HUNI
          have HACC':=zB (show acc' = zAV (nmF ms) T acc0 (us.take (q + 1)) by rw [zKA hu,<- zA HACC,hacc',hm])
          have hS0:(fun W:World=>W.cell? ⟨gU,k * 3,none⟩ = some (.slice (some ⟨gw,0,none⟩) us.length cw) /\ W.cell? ⟨gw,q,none⟩ = some (.string u) /\ W.cell? ⟨O,m,none⟩ = some (.slice aT (T m).length cT)) wr.drew:=⟨v0,k0,o0'⟩
          have t0d:wr.drew.cell? ⟨B12,0,none⟩ = some (.slice (some ⟨h,0,none⟩) acc.length c):=t0
          have hzi':w.heap.size <= wi'.heap.size:=hzi
          clear hc hst hu hum hm hv v1 hbl hnm hdm o1 hopTr hTm hvT o0 hacc' hbw hBi HACC HOA HSB
          go_wp2_with fail
          refine wp_region_held_drew (S:=fun W:World=>W.cell? ⟨gU,k * 3,none⟩ = some (.slice (some ⟨gw,0,none⟩) us.length cw) /\ W.cell? ⟨gw,q,none⟩ = some (.string u) /\ W.cell? ⟨O,m,none⟩ = some (.slice aT (T m).length cT)) (by kernel_rfl) hS0 (fun _=>?_)
          refine wpAnyH_take (i:=1) (v:=?_) rfl (by kernel_rfl) (by kernel_rfl) (by kernel_rfl) (fun _ _ _ h=>h) (Or.inl ⟨by rfl,?_⟩) hS0 ?_
          rotate_left
          ·intro W hW; obtain ⟨s1,s2,s3⟩:=hW; simp only [List.getElem_toArray,List.getElem_cons_succ,List.getElem_cons_zero]; go_simp; first | done | (with_reducible rfl)
          simp only [List.getElem_toArray,List.getElem_cons_succ,List.getElem_cons_zero]
          simp only [Act.put,List.setIfInBounds_toArray,List.set_cons_zero,List.set_cons_succ]
          refine wpAnyH_take (i:=2) (v:=?_) rfl (by kernel_rfl) (by kernel_rfl) (by kernel_rfl) (fun _ _ _ h=>h) (Or.inl ⟨by rfl,?_⟩) hS0 ?_
          rotate_left
          ·intro W hW; obtain ⟨s1,s2,s3⟩:=hW; simp only [List.getElem_toArray,List.getElem_cons_succ,List.getElem_cons_zero]; go_simp; first | done | (with_reducible rfl)
          simp only [List.getElem_toArray,List.getElem_cons_succ,List.getElem_cons_zero]
          simp only [Act.put,List.setIfInBounds_toArray,List.set_cons_zero,List.set_cons_succ]
          refine wpAnyH_take (i:=3) (v:=?_) rfl (by kernel_rfl) (by kernel_rfl) (by kernel_rfl) (fun _ _ _ h=>h) (Or.inl ⟨by rfl,?_⟩) hS0 ?_
          rotate_left
          ·intro W hW; obtain ⟨s1,s2,s3⟩:=hW; simp only [List.getElem_toArray,List.getElem_cons_succ,List.getElem_cons_zero]; go_simp; first | done | (with_reducible rfl)
          simp only [List.getElem_toArray,List.getElem_cons_succ,List.getElem_cons_zero]
          simp only [Act.put,List.setIfInBounds_toArray,List.set_cons_zero,List.set_cons_succ]
          refine wpAnyH_take (i:=4) (v:=?_) rfl (by kernel_rfl) (by kernel_rfl) (by kernel_rfl) (fun _ _ _ h=>h) (Or.inl ⟨by rfl,?_⟩) hS0 ?_
          rotate_left
          ·intro W hW; obtain ⟨s1,s2,s3⟩:=hW; simp only [List.getElem_toArray,List.getElem_cons_succ,List.getElem_cons_zero]; go_simp; first | done | (with_reducible rfl)
          simp only [List.getElem_toArray,List.getElem_cons_succ,List.getElem_cons_zero]
          simp only [Act.put,List.setIfInBounds_toArray,List.set_cons_zero,List.set_cons_succ]
          refine wpAnyH_take (i:=5) (v:=?_) rfl (by kernel_rfl) (by kernel_rfl) (by kernel_rfl) (fun _ _ _ h=>h) (Or.inl ⟨by rfl,?_⟩) hS0 ?_
          rotate_left
          ·intro W hW; obtain ⟨s1,s2,s3⟩:=hW; simp only [List.getElem_toArray,List.getElem_cons_succ,List.getElem_cons_zero]; go_simp; first | done | (with_reducible rfl)
          simp only [List.getElem_toArray,List.getElem_cons_succ,List.getElem_cons_zero]
          simp only [Act.put,List.setIfInBounds_toArray,List.set_cons_zero,List.set_cons_succ]
          refine wpAnyH_take (i:=6) (v:=?_) rfl (by kernel_rfl) (by kernel_rfl) (by kernel_rfl) (fun _ _ _ h=>h) (Or.inl ⟨by rfl,?_⟩) hS0 ?_
          rotate_left
          ·intro W hW; obtain ⟨s1,s2,s3⟩:=hW; simp only [List.getElem_toArray,List.getElem_cons_succ,List.getElem_cons_zero]; go_simp; first | done | (with_reducible rfl)
          simp only [List.getElem_toArray,List.getElem_cons_succ,List.getElem_cons_zero]
          simp only [Act.put,List.setIfInBounds_toArray,List.set_cons_zero,List.set_cons_succ]
          refine wpAnyH_take (i:=7) (v:=?_) rfl (by kernel_rfl) (by kernel_rfl) (by kernel_rfl) (fun _ _ _ h=>h) (Or.inl ⟨by rfl,?_⟩) hS0 ?_
          rotate_left
          ·intro W hW; obtain ⟨s1,s2,s3⟩:=hW; simp only [List.getElem_toArray,List.getElem_cons_succ,List.getElem_cons_zero]; go_simp; first | done | (with_reducible rfl)
          simp only [List.getElem_toArray,List.getElem_cons_succ,List.getElem_cons_zero]
          simp only [Act.put,List.setIfInBounds_toArray,List.set_cons_zero,List.set_cons_succ]
          refine wpAnyH_take (i:=8) (v:=?_) rfl (by kernel_rfl) (by kernel_rfl) (by kernel_rfl) (fun _ _ _ h=>h) (Or.inl ⟨by rfl,?_⟩) hS0 ?_
          rotate_left
          ·intro W hW; obtain ⟨s1,s2,s3⟩:=hW; simp only [List.getElem_toArray,List.getElem_cons_succ,List.getElem_cons_zero]; go_simp; first | done | (with_reducible rfl)
          simp only [List.getElem_toArray,List.getElem_cons_succ,List.getElem_cons_zero]
          simp only [Act.put,List.setIfInBounds_toArray,List.set_cons_zero,List.set_cons_succ]
          refine wpAnyH_take (i:=9) (v:=?_) rfl (by kernel_rfl) (by kernel_rfl) (by kernel_rfl) (fun _ _ _ h=>h) (Or.inl ⟨by rfl,?_⟩) hS0 ?_
          rotate_left
          ·intro W hW; obtain ⟨s1,s2,s3⟩:=hW; simp only [List.getElem_toArray,List.getElem_cons_succ,List.getElem_cons_zero]; go_simp; first | done | (with_reducible rfl)
          simp only [List.getElem_toArray,List.getElem_cons_succ,List.getElem_cons_zero]
          simp only [Act.put,List.setIfInBounds_toArray,List.set_cons_zero,List.set_cons_succ]
          refine wpAnyH_take (i:=10) (v:=?_) rfl (by kernel_rfl) (by kernel_rfl) (by kernel_rfl) (fun _ _ _ h=>h) (Or.inl ⟨by rfl,?_⟩) hS0 ?_
          rotate_left
          ·intro W hW; obtain ⟨s1,s2,s3⟩:=hW; simp only [List.getElem_toArray,List.getElem_cons_succ,List.getElem_cons_zero]; go_simp; first | done | (with_reducible rfl)
          simp only [List.getElem_toArray,List.getElem_cons_succ,List.getElem_cons_zero]
          simp only [Act.put,List.setIfInBounds_toArray,List.set_cons_zero,List.set_cons_succ]
          refine wpAnyH_ready (rs:=[0,11]) (by kernel_rfl) (by simp) ?_
          refine AllReadyH.cons rfl (fun K hK=>?_) (AllReadyH.cons rfl (fun K hK=>?_) AllReadyH.nil)
          ·simp only [List.getElem_toArray,List.getElem_cons_succ,List.getElem_cons_zero]
           go_simp
           refine hK.out _ _ hS0 (fun _=>?_)
           clear hK
           refine wpAnyH_ready (rs:=[11]) (by kernel_rfl) (by simp) ?_
           refine AllReadyH.cons rfl (fun K hK=>?_) AllReadyH.nil
           simp only [List.getElem_toArray,List.getElem_cons_succ,List.getElem_cons_zero]
           go_simp
           go_wp2_with ((go_at_call 50; (with_reducible refine (zA HCALL).mono ?_); rintro e w2 ⟨rfl,hx⟩; obtain rfl:=hx.symm; clear hx))
           refine hK.out _ _ hS0 (fun _=>?_)
           clear hK
           refine wpAnyH_take (i:=12) (v:=?_) rfl (by kernel_rfl) (by kernel_rfl) (by kernel_rfl) (fun _ _ _ h=>h) (Or.inl ⟨by rfl,?_⟩) hS0 ?_
           rotate_left
           ·intro W hW; obtain ⟨s1,s2,s3⟩:=hW; simp only [List.getElem_toArray,List.getElem_cons_succ,List.getElem_cons_zero]; go_simp; first | done | (with_reducible rfl)
           simp only [List.getElem_toArray,List.getElem_cons_succ,List.getElem_cons_zero]
           simp only [Act.put,List.setIfInBounds_toArray,List.set_cons_zero,List.set_cons_succ]
           refine wpAnyH_take (i:=13) (v:=?_) rfl (by kernel_rfl) (by kernel_rfl) (by kernel_rfl) (fun _ _ _ h=>h) (Or.inl ⟨by rfl,?_⟩) hS0 ?_
           rotate_left
           ·intro W hW; obtain ⟨s1,s2,s3⟩:=hW; simp only [List.getElem_toArray,List.getElem_cons_succ,List.getElem_cons_zero]; go_simp; first | done | (with_reducible rfl)
           simp only [List.getElem_toArray,List.getElem_cons_succ,List.getElem_cons_zero]
           simp only [Act.put,List.setIfInBounds_toArray,List.set_cons_zero,List.set_cons_succ]
           refine wpAnyH_ready (rs:=[14]) (by kernel_rfl) (by simp) ?_
           refine AllReadyH.cons rfl (fun K hK=>?_) AllReadyH.nil
           simp only [List.getElem_toArray,List.getElem_cons_succ,List.getElem_cons_zero]
           go_simp
           go_wp2_with ((go_at_call 76; (with_reducible refine (zA HUNI).mono ?_); rintro e w3 ⟨⟨h3,c3,rfl,hh3,hf3⟩,hb3⟩; have z3:=hb3.size; have HF3:=zB hf3; have HB3:=zB hb3; have j1:=(hb3.cell (p:=⟨gU,k * 3,none⟩) (by show gU < wr.heap.size; omega)).trans hS0.1; have j2:=(hb3.cell (p:=⟨gw,q,none⟩) (by show gw < wr.heap.size; omega)).trans hS0.2.1; have j3:=(hb3.cell (p:=⟨O,m,none⟩) (by show O < wr.heap.size; omega)).trans hS0.2.2; have j4:=(hb3.cell (p:=⟨B12,0,none⟩) (by show B12 < wr.heap.size; omega)).trans t0; have j5:=(hb3.frozen (p:=⟨B12,0,none⟩) (by show B12 < wr.heap.size; omega)).trans t1; clear hf3 hb3))
           refine hK.out _ _ ⟨j1,j2,j3⟩ (fun hS4=>?_)
           clear hK
           refine wpAnyH_ready (rs:=[15]) (by kernel_rfl) (by simp) ?_
           refine AllReadyH.cons rfl (fun K hK=>?_) AllReadyH.nil
           simp only [List.getElem_toArray,List.getElem_cons_succ,List.getElem_cons_zero]
           go_simp
           refine hK.out _ _ ⟨by rw [World.cell?_setCell_other _ _ _ _ (fun x=>by injection x with x; omega)]; exact j1,by rw [World.cell?_setCell_other _ _ _ _ (fun x=>by injection x with x; omega)]; exact j2,by rw [World.cell?_setCell_other _ _ _ _ (fun x=>by injection x with x; omega)]; exact j3⟩ (fun _=>?_)
           clear hK
           refine wpAnyH_done (by kernel_rfl) ?_ _
           clear hS4
           have HO3:=zB (show ZF (w3.setCell ⟨B12,0,none⟩ (.slice (some ⟨h3,0,none⟩) acc'.length c3)) (.slice (some ⟨h3,0,none⟩) acc'.length c3) acc' from (show ZF w3 (.slice (some ⟨h3,0,none⟩) acc'.length c3) acc' from ⟨_,_,rfl,Or.inr ⟨h3,rfl,(zA HF3).1,(zA HF3).ops⟩⟩).set B12 0 _ (fun g e=>by have e':h3 = g:=(by simpa [Value.ownBlock] using e); simp at hh3; omega))
           have n0:(w3.setCell ⟨B12,0,none⟩ (.slice (some ⟨h3,0,none⟩) acc'.length c3)).cell? ⟨B12,0,none⟩ = some (.slice (some ⟨h3,0,none⟩) acc'.length c3):=World.cell?_setCell_same _ _ _ j4
           have n1:(w3.setCell ⟨B12,0,none⟩ (.slice (some ⟨h3,0,none⟩) acc'.length c3)).frozen? ⟨B12,0,none⟩ = false:=(World.frozen?_setCell _ _ _ _).trans j5
           have hb3':Below B12 W12 (w3.setCell ⟨B12,0,none⟩ (.slice (some ⟨h3,0,none⟩) acc'.length c3)):=(hb12.drew.trans ((zA HB3).mono (by show B12 <= wr.heap.size; omega))).setCell (p:=⟨B12,0,none⟩) (Nat.le_refl _) _
           have hh3':h3 ≠ B12 /\ wi'.heap.size <= h3:=by simp at hh3; omega
           clear j1 j2 j3 j4 j5 hS0 t0 t1 hh3
           go_wp2_with fail
           exact ⟨⟨q + 1,h3,c3,acc',by omega,by go_num,HACC',n0,n1,HO3,hh3',hb3'⟩,by simp [intOf]; omega⟩
          ·simp only [List.getElem_toArray,List.getElem_cons_succ,List.getElem_cons_zero]
           go_simp
           go_wp2_with ((go_at_call 50; (with_reducible refine (zA HCALL).mono ?_); rintro e w2 ⟨rfl,hx⟩; obtain rfl:=hx.symm; clear hx))
           refine hK.out _ _ hS0 (fun _=>?_)
           clear hK
           refine wpAnyH_take (i:=12) (v:=?_) rfl (by kernel_rfl) (by kernel_rfl) (by kernel_rfl) (fun _ _ _ h=>h) (Or.inl ⟨by rfl,?_⟩) hS0 ?_
           rotate_left
           ·intro W hW; obtain ⟨s1,s2,s3⟩:=hW; simp only [List.getElem_toArray,List.getElem_cons_succ,List.getElem_cons_zero]; go_simp; first | done | (with_reducible rfl)
           simp only [List.getElem_toArray,List.getElem_cons_succ,List.getElem_cons_zero]
           simp only [Act.put,List.setIfInBounds_toArray,List.set_cons_zero,List.set_cons_succ]
           refine wpAnyH_take (i:=13) (v:=?_) rfl (by kernel_rfl) (by kernel_rfl) (by kernel_rfl) (fun _ _ _ h=>h) (Or.inl ⟨by rfl,?_⟩) hS0 ?_
           rotate_left
           ·intro W hW; obtain ⟨s1,s2,s3⟩:=hW; simp only [List.getElem_toArray,List.getElem_cons_succ,List.getElem_cons_zero]; go_simp; first | done | (with_reducible rfl)
           simp only [List.getElem_toArray,List.getElem_cons_succ,List.getElem_cons_zero]
           simp only [Act.put,List.setIfInBounds_toArray,List.set_cons_zero,List.set_cons_succ]
           refine wpAnyH_ready (rs:=[0]) (by kernel_rfl) (by simp) ?_
           refine AllReadyH.cons rfl (fun K hK=>?_) AllReadyH.nil
           simp only [List.getElem_toArray,List.getElem_cons_succ,List.getElem_cons_zero]
           go_simp
           refine hK.out _ _ hS0 (fun _=>?_)
           clear hK
           refine wpAnyH_ready (rs:=[14]) (by kernel_rfl) (by simp) ?_
           refine AllReadyH.cons rfl (fun K hK=>?_) AllReadyH.nil
           simp only [List.getElem_toArray,List.getElem_cons_succ,List.getElem_cons_zero]
           go_simp
           go_wp2_with ((go_at_call 76; (with_reducible refine (zA HUNI).mono ?_); rintro e w3 ⟨⟨h3,c3,rfl,hh3,hf3⟩,hb3⟩; have z3:=hb3.size; have HF3:=zB hf3; have HB3:=zB hb3; have j1:=(hb3.cell (p:=⟨gU,k * 3,none⟩) (by show gU < wr.heap.size; omega)).trans hS0.1; have j2:=(hb3.cell (p:=⟨gw,q,none⟩) (by show gw < wr.heap.size; omega)).trans hS0.2.1; have j3:=(hb3.cell (p:=⟨O,m,none⟩) (by show O < wr.heap.size; omega)).trans hS0.2.2; have j4:=(hb3.cell (p:=⟨B12,0,none⟩) (by show B12 < wr.heap.size; omega)).trans t0; have j5:=(hb3.frozen (p:=⟨B12,0,none⟩) (by show B12 < wr.heap.size; omega)).trans t1; clear hf3 hb3))
           refine hK.out _ _ ⟨j1,j2,j3⟩ (fun hS4=>?_)
           clear hK
           refine wpAnyH_ready (rs:=[15]) (by kernel_rfl) (by simp) ?_
           refine AllReadyH.cons rfl (fun K hK=>?_) AllReadyH.nil
           simp only [List.getElem_toArray,List.getElem_cons_succ,List.getElem_cons_zero]
           go_simp
           refine hK.out _ _ ⟨by rw [World.cell?_setCell_other _ _ _ _ (fun x=>by injection x with x; omega)]; exact j1,by rw [World.cell?_setCell_other _ _ _ _ (fun x=>by injection x with x; omega)]; exact j2,by rw [World.cell?_setCell_other _ _ _ _ (fun x=>by injection x with x; omega)]; exact j3⟩ (fun _=>?_)
           clear hK
           refine wpAnyH_done (by kernel_rfl) ?_ _
           clear hS4
           have HO3:=zB (show ZF (w3.setCell ⟨B12,0,none⟩ (.slice (some ⟨h3,0,none⟩) acc'.length c3)) (.slice (some ⟨h3,0,none⟩) acc'.length c3) acc' from (show ZF w3 (.slice (some ⟨h3,0,none⟩) acc'.length c3) acc' from ⟨_,_,rfl,Or.inr ⟨h3,rfl,(zA HF3).1,(zA HF3).ops⟩⟩).set B12 0 _ (fun g e=>by have e':h3 = g:=(by simpa [Value.ownBlock] using e); simp at hh3; omega))
           have n0:(w3.setCell ⟨B12,0,none⟩ (.slice (some ⟨h3,0,none⟩) acc'.length c3)).cell? ⟨B12,0,none⟩ = some (.slice (some ⟨h3,0,none⟩) acc'.length c3):=World.cell?_setCell_same _ _ _ j4
           have n1:(w3.setCell ⟨B12,0,none⟩ (.slice (some ⟨h3,0,none⟩) acc'.length c3)).frozen? ⟨B12,0,none⟩ = false:=(World.frozen?_setCell _ _ _ _).trans j5
           have hb3':Below B12 W12 (w3.setCell ⟨B12,0,none⟩ (.slice (some ⟨h3,0,none⟩) acc'.length c3)):=(hb12.drew.trans ((zA HB3).mono (by show B12 <= wr.heap.size; omega))).setCell (p:=⟨B12,0,none⟩) (Nat.le_refl _) _
           have hh3':h3 ≠ B12 /\ wi'.heap.size <= h3:=by simp at hh3; omega
           clear j1 j2 j3 j4 j5 hS0 t0 t1 hh3
           go_wp2_with fail
           exact ⟨⟨q + 1,h3,c3,acc',by omega,by go_num,HACC',n0,n1,HO3,hh3',hb3'⟩,by simp [intOf]; omega⟩
         ·have hqe:q = us.length:=by omega
          obtain ⟨aw,cw,hv,_⟩:=hst
          rw [hv] at v0
          have HX:=zB (show acc = zAV (nmF ms) T (ZQ [] (atU U k).os) (atU U k).us by
           rw [zA HACC,hqe,List.take_length,zA HACC0,zA HOS,zA HUS])
          have HSr:=zB ((zA HS).below hBi)
          obtain ⟨vO,o0,o1,_⟩:=(zA HSr).cs k hklt
          obtain ⟨d0',d1'⟩:=(zA HSr).dn.2 k hklt
          have HND:=zB ((zA HSr).done hklt (zBy.of (zA HOA) ⟨h,rfl⟩) (fun g e=>by have e':h = g:=(by simpa [Value.ownBlock] using e); omega))
          have HNE:=zB ((zA HE).step (by rw [zA HULN,zA HNN]) (by rw [<- zA HNN]; exact hklt) (zA HDK) (by rw [<- zA HUS,<- zA HNN]; exact zA HINk) (by rw [<- zA HUS]; exact zA HALLU) (zA HX))
          have HNR:=zB (show zA4 n rk (upB d k) r (k + 1) from (zA HRI).up.next (fun _=>by simp [upB]))
          have hOD':D ≠ O:=fun e=>hOD e.symm
          clear hqe hv v1 hbl HSr hBi hbw
          go_wp2_with fail
          exact ⟨⟨k + 1,upB d k,upT T k acc,by omega,by go_num,HND,HNE,HNR⟩,by simp [intOf]; omega⟩
    ·have hkn:k = n:=by omega
     have HR2:=zB (show zA4 n rk d (r + 1) 0 from (by rw [hkn] at HRI; exact (zA HRI).round))
     clear hkn
     go_wp2_with fail
     exact ⟨⟨r + 1,d,T,by omega,by go_num,HS,HE,HR2⟩,by simp [intOf]; omega⟩
  ·have hrn:r = n:=by omega
   have HAD:=zB (show ∀ i,i < n -> d0 i = true from fun i hi=>(zA HRI) i hi (Or.inl (by have:=(zA HK2) i hi; omega)))
   have HF:=zB (show ScE ms U T0 from fun i hi=>((zA HE) i hi ((zA HAD) i (by rw [zA HNN]; exact hi))).2.1)
   have HC:=zB (show ∀ i,i < n -> (∀ o ∈ T0 i,o ∈ zBg U) /\ ∃ v,wo.cell? ⟨O,i,none⟩ = some v /\ zBy wo v (T0 i) /\ ∀ q,v.ownBlock = some q -> w.heap.size <= q from fun i hi=>by
    obtain ⟨v,h1,_,h3⟩:=(zA HS).cs i hi
    exact ⟨((zA HE) i (by rw [<- zA HNN]; exact hi) ((zA HAD) i hi)).2.2.2,v,h1,(h3 ((zA HAD) i hi)).1,fun q e=>((h3 ((zA HAD) i hi)).2 q e).2.2⟩)
   have hbe:=(zA HS).bel
   have hOl:=(zA HS).hOl
   clear hrn
   go_wp2_with fail
   go_ret
   have e:=zA HNN
   subst e
   exact ⟨O,T0,rfl,hO',hOl,HF,HC,hbe⟩
end Go.Proofs.YtgiemobdmbijiaaGreatDoor
