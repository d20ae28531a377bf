import Derived.Test.YtgiemobdmbijiaaGreatDoorN14
import Derived.Test.YtgiemobdmbijiaaGreatDoorN15
import Derived.Test.YtgiemobdmbijiaaGreatDoorN16
import Derived.Test.YtgiemobdmbijiaaGreatDoorN18
namespace Go.Proofs.YtgiemobdmbijiaaGreatDoor
set_option linter.unusedSimpArgs false
set_option linter.unusedVariables false
set_option maxHeartbeats 16000000
set_option maxRecDepth 100000
open Go.RowKit
theorem zJ1 (w:World):zCZ (w.alloc (.cells #[] 27)) w.heap.size (.slice (some ⟨w.heap.size,0,none⟩) 0 0) []:=by
 have:=World.ownsRow_lit (base:=w.heap.size) (e:=27) (size:=3) w #[] 0 (Nat.le_refl _) (Nat.zero_le _) rfl
 simpa [zCZ,zAX] using this
def zNx (w:World) (ms:List zI) (e:Ending) (w':World):Prop:=∃ (g c:Nat) (vs:List UvR) (U:List UnR),e = .returned (.slice (some ⟨g,0,none⟩) vs.length c) /\ w.heap.size <= g /\ g < w'.heap.size /\ vs.length = ms.length /\ Hid (zJx w' g vs) /\ Hid (zBr w' w'.heap.size vs U) /\ Hid (zBD ms U) /\ Below w.heap.size w w'
def zPb (ms:List zI) (U:List UnR) (k:Nat):Prop:=U.length = k /\ ∀ i,i < k -> zn (atM ms i).t (atU U i).us (atU U i).os (atU U i).b 0 0
theorem zE5 (a:Option Addr) (c0:Nat) (ms:List zI) (w:World) (hn:ms.length <= 100) (hM:zGe w a ms) (hz:zHu ms) (hgood:∀ i,i < ms.length -> ¬ B2 ms i) :
  Calls Tryz.prog 51 #[.slice a ms.length c0] w (zNx w ms):=by
 obtain ⟨i0,hi0,hz0,hz1,hz2⟩:=zQ zO3
 have HI:=zB hi0
 have HZ:=zB (And.intro hz0 (And.intro hz1 hz2))
 have HM:=zB hM
 have HG:=zB hgood
 have HSZ:=zB hz
 clear hi0 hz0 hz1 hz2 hM hgood hz
 have HE:=zB (zJ1 w)
 go_enter Tryz.func51,Tryz.ntmps51
 go_wp2
 go_loopw [3,4] (fun out i wr=>∃ (k g c:Nat) (vs:List UvR) (U:List UnR),k <= ms.length /\ i = .int .i64 (k:Int) /\ out = .slice (some ⟨g,0,none⟩) vs.length c /\ vs.length <= k /\ Hid (vs.length = k) /\ Hid (zPb ms U k) /\ Hid (zCZ wr w.heap.size (.slice (some ⟨g,0,none⟩) vs.length c) vs) /\ Hid (zGC wr (.slice (some ⟨g,0,none⟩) vs.length c) vs U) /\ Below w.heap.size w wr) (fun _ i _=>ms.length - (intOf i).toNat)
 case atStart=>exact ⟨0,w.heap.size,0,[],[],Nat.zero_le _,rfl,rfl,Nat.le_refl _,zB rfl,zB ⟨rfl,fun i hi=>by omega⟩,HE,zB ⟨rfl,fun i hi=>absurd hi (Nat.not_lt_zero i)⟩,zC _ _⟩
 case round=>
  clear HE
  obtain ⟨k,g,c,vs,U,hk,rfl,rfl,hvl,HVK,HUT,HR,HUO,hbel⟩:=hrel
  by_cases hlt:k < ms.length
  ·have hltI:(k:Int) < (ms.length:Int):=by omega
   rcases zA HM with h | ⟨b,off,rfl,hops,hB⟩
   ·omega
   obtain ⟨m0,m1⟩:=(hops k hlt).below hbel hB
   have hg:=((zA HR).lt g rfl).2
   have HRD:=zB (zA9 (atM ms k).t wr ((zA HSZ) k hlt).2)
   clear hops
   go_wp2_with fail
   (with_reducible refine (zA HRD).mono ?_)
   rintro e w1 ⟨vu,vo,us,os,b',c',l',rfl,hi1,ru1,ro1,hne1,hlu,hlo,hb1⟩
   obtain ⟨rfl,rfl,_,_⟩:=zOy ((zA HG) k hlt) hi1
   obtain ⟨a1,c1,rfl⟩:=zV ru1
   obtain ⟨a2,c2,rfl⟩:∃ a c,vo = .slice a os.length c:=zV ro1
   have z1:=hb1.size
   have HB1:=zB hb1
   have HS1:=zB ru1.strs
   have HO1:=zB ro1.ops
   have HLU:=zB (fun q e=>ru1.lt q e)
   have HLO:=zB (fun q e=>ro1.lt q e)
   have HUN:=zB hi1
   clear hi1 ru1 ro1 hne1 hb1 HRD m0 m1
   go_wp2_with (at_builtin; refine wpList_append_own_at _ rfl (.tmp 25) (.tmp 27) 87 rfl w.heap.size 27 i0 _ 3 64 Tryz.underlying87 (zA HI) (zA HZ).1 (zA HZ).2.1 (zA HZ).2.2 rfl (by decide) _ vs.length (zAX vs) rfl (((zA HR).below (zA HB1)).below ((zC _ _).alloc (by simp) _)) ⟨w1.heap.size + 1,0,none⟩ 1 1 (zAX [⟨.slice a1 us.length c1,.slice a2 os.length c2,b'⟩]) rfl rfl (fun j u hj=>(by simpa using zLP (w1.alloc (.cells #[.slice a1 us.length c1,.slice a2 os.length c2,.string b'] 27)) ⟨.slice a1 us.length c1,.slice a2 os.length c2,b'⟩ j u hj)) (fun u hu=>by simp [zAX] at hu; rcases hu with rfl | rfl | rfl <;> rfl) ?b1 ?b2 ?b3 ?next)
   case b1=>unfold maxLen; omega
   case b2=>omega
   case b3=>have:=hbel.size; simp; omega
   case next=>
    intro v4 w4 hown4 hgrow4 hnil4 hat4
    have hbd:Below w1.heap.size w1 ((w1.alloc (.cells #[.slice a1 us.length c1,.slice a2 os.length c2,.string b'] 27)).alloc (.cells #[.slice a1 us.length c1,.slice a2 os.length c2,.string b'] 27)):=(zC _ _).alloc (by simp) _
    have HO:=zB (show zCZ w4 w.heap.size v4 (vs ++ [⟨.slice a1 us.length c1,.slice a2 os.length c2,b'⟩]) by
     unfold zCZ
     rw [zGf,List.length_append]
     exact hown4)
    have HU4:=zB (zGC.step (x:=⟨.slice a1 us.length c1,.slice a2 os.length c2,b'⟩) (y:=⟨us,os,b'⟩) (zA HUO) ((zA HB1).trans (hbd.mono z1)) (fun q e=>by have e':g = q:=(by simpa [Value.ownBlock] using e); omega) ((zA HS1).below hbd) ((zA HO1).below hbd) rfl (fun q e=>by have:=(zA HLU) q e; simp; omega) (fun q e=>by have:=(zA HLO) q e; simp; omega) hgrow4 (hat4.imp id (fun h=>⟨_,h,by simp⟩)))
    have hbel4:Below w.heap.size w w4:=(hbel.trans (((zA HB1).trans (hbd.mono z1)).mono hbel.size)).grown hgrow4 (by have:=hbel.size; simp; omega) (fun q hq=>((zA HR).lt q hq).1)
    obtain ⟨g4,c4,rfl⟩:∃ g4 c4,v4 = .slice (some ⟨g4,0,none⟩) (vs ++ [(⟨.slice a1 us.length c1,.slice a2 os.length c2,b'⟩:UvR)]).length c4:=by
     obtain ⟨_,⟨_,h2⟩ | ⟨g',cap,cur,h1,_⟩⟩:=zA HO
     ·simp at h2
     ·exact ⟨g',cap,h1⟩
    have HUT4:=zB (show zPb ms (U ++ [⟨us,os,b'⟩]) (k + 1) by
     obtain ⟨t1,t2⟩:=zA HUT
     refine ⟨by simp [t1],fun i hi=>?_⟩
     by_cases e:i < k
     ·rw [zI1 (by omega)]; exact t2 i e
     ·have e1:i = U.length:=by omega
      have e2:atU (U ++ [⟨us,os,b'⟩]) i = ⟨us,os,b'⟩:=by rw [e1]; exact zI2
      rw [e2]
      have e3:i = k:=by omega
      rw [e3]
      exact zA HUN)
    obtain ⟨vs4,HLS⟩:∃ vs4,Hid (vs4 = vs ++ [(⟨.slice a1 us.length c1,.slice a2 os.length c2,b'⟩:UvR)]):=⟨_,zB rfl⟩
    have e4:=zA HLS
    rw [<- e4] at HO HU4
    rw [<- e4]
    clear e4 hown4 hgrow4 hnil4 hat4 HS1 HO1 HLU HLO HB1 HR HUO HUT hbd
    go_wp2
    refine ⟨⟨k + 1,g4,c4,vs4,U ++ [⟨us,os,b'⟩],by omega,by go_num,rfl,?_,zB ?_,HUT4,HO,HU4,hbel4⟩,by simp [intOf]; omega⟩
    ·rw [zA HLS]; simp; omega
    ·have:=zA HVK; rw [zA HLS]; simp; omega
  ·have hkn:k = ms.length:=by omega
   have HF:=zB (show zBD ms U by
    obtain ⟨t1,t2⟩:=zA HUT
    exact ⟨by omega,fun i hi=>t2 i (by omega)⟩)
   have HVN:=zB (show vs.length = ms.length by have:=zA HVK; omega)
   clear hkn
   go_wp2
   go_ret
   have hg:=(zA HR).lt g rfl
   exact ⟨g,c,vs,U,rfl,hg.1,hg.2,zA HVN,zB (zA HR).ops,zB (zA HUO).at,HF,hbel⟩
def nmI (ms:List zI) (u:ByteArray):Int:=if nmF ms u < ms.length then (nmF ms u:Int) else -1
theorem zO4 {a b:ByteArray} (h:a ≠ b):(a.toList == b.toList) = false:=by
 cases e:(a.toList == b.toList)
 ·rfl
 ·exact absurd (zB2 (by simpa using e)) h
theorem zCy (a:Option Addr) (c:Nat) (ms:List zI) (u:ByteArray) (w:World) (hn:ms.length <= 1048576) (hM:zGe w a ms) :
  Calls Tryz.prog 50 #[.slice a ms.length c,.string u] w fun e w'=>e = .returned (.int .i64 (nmI ms u)) /\ w' = w:=by
 have HM:=zB hM
 clear hM
 go_enter Tryz.func50,Tryz.ntmps50
 go_wp2
 go_loop [5] (fun i=>∃ k:Nat,k <= ms.length /\ i = .int .i64 (k:Int) /\ Hid (∀ j,j < k -> (atM ms j).n ≠ u)) (fun i=>ms.length - (intOf i).toNat)
 case atStart=>exact ⟨0,Nat.zero_le _,rfl,zB (fun j h=>by omega)⟩
 case round=>
  obtain ⟨k,hk,rfl,hb⟩:=hrel
  by_cases hlt:k < ms.length
  ·have hltI:(k:Int) < (ms.length:Int):=by omega
   rcases zA HM with h | ⟨b,off,rfl,hops,hB⟩
   ·omega
   obtain ⟨m0,m1⟩:=hops k hlt
   by_cases e:(atM ms k).n = u
   ·subst e
    have HR:=zB (show nmI ms (atM ms k).n = (k:Int) by
     unfold nmI
     rw [zKn hlt rfl (zA hb),if_pos hlt])
    go_wp2
    go_ret
    exact ⟨zG (zA HR).symm,rfl⟩
   ·have ne:=zO4 e
    have HX:=zB (show ∀ j,j < k + 1 -> (atM ms j).n ≠ u from fun j hj=>by
     by_cases e2:j = k
     ·subst e2; exact e
     ·exact (zA hb) j (by omega))
    clear e
    go_wp2
    exact ⟨⟨k + 1,by omega,by go_num,HX⟩,by simp [intOf]; omega⟩
  ·have HR:=zB (show nmI ms u = -1 by
    unfold nmI
    rw [zMJ (fun j hj=>(zA hb) j (by omega)),if_neg (Nat.lt_irrefl _)])
   go_wp2
   go_ret
   exact ⟨zG (zA HR).symm,rfl⟩
def zCz (ms:List zI) (U:List UnR) (i j:Nat):Bool:=decide (i < ms.length) && (decide (j < ms.length) && (atU U i).us.any (fun u=>nmF ms u == j))
theorem zHG:(Tryz.prog.info? 4).map (fun i=>(i.zero,i.size,i.bytes)) = some (some (.bool false),1,1):=by kernel_rfl
def zNy (w:World) (n:Nat) (W:Nat -> Nat -> Bool) (e:Ending) (w':World):Prop:=∃ (g c:Nat) (rs:List Nat),e = .returned (.slice (some ⟨g,0,none⟩) n c) /\ w.heap.size <= g /\ g < w'.heap.size /\ Hid (∀ i,i < n -> w'.cell? ⟨g,i,none⟩ = some (.slice (some ⟨atR rs i,0,none⟩) n n)) /\ Hid (∀ i,i < n -> zBl w' (atR rs i) n (W i)) /\ Below w.heap.size w w'
theorem zBr.uses {w:World} {B:Nat} {vs:List UvR} {U:List UnR} (h:zBr w B vs U) {i:Nat} (hi:i < vs.length):zz w (atV vs i).vu (atU U i).us:=(h.2 i hi).1.1
theorem zMW {ms:List zI} {U:List UnR} {i j:Nat} (hi:i < ms.length) (hj:j < ms.length):zCz ms U i j = ((atU U i).us.take (atU U i).us.length).any (fun u=>nmF ms u == j):=by
 rw [List.take_length]
 simp [zCz,hi,hj]
theorem zMX {us:List ByteArray} {k:Nat} {u:ByteArray} (h:us[k]? = some u) (ms:List zI) (j:Nat):(us.take (k + 1)).any (fun u=>nmF ms u == j) = (if j = nmF ms u then true else (us.take k).any (fun u=>nmF ms u == j)):=by
 rw [List.take_add_one,h,List.any_append]
 by_cases e:j = nmF ms u
 ·subst e; simp
 ·have:(nmF ms u == j) = false:=by simp; omega
  simp [e,this]
theorem zI4 (a:Option Addr) (c0 gU cU:Nat) (ms:List zI) (vs:List UvR) (U:List UnR) (w:World) (hn:ms.length <= 100) (hM:zGe w a ms) (hOV:zJx w gU vs) (hgU:gU < w.heap.size) (hUA:zBr w w.heap.size vs U) (hUO:zBD ms U) (hvl:vs.length = ms.length) (h4:∀ i,i < ms.length -> ¬ B4 ms U i) :
  Calls Tryz.prog 52 #[.slice a ms.length c0,.slice (some ⟨gU,0,none⟩) ms.length cU] w (zNy w ms.length (wrN (zCz ms U) ms.length)):=by
 obtain ⟨i0,hi0,hz0,hz1,hz2⟩:=zQ zO0
 have HI:=zB hi0
 have HZ:=zB (And.intro hz0 (And.intro hz1 hz2))
 obtain ⟨n,hnn⟩:∃ n,n = ms.length:=⟨_,rfl⟩
 have hmk:∀ W:World,(Instr.makeSlice 91 (.int .i64 (n:Int)) (.int .i64 (n:Int))).run Tryz.prog W = .ok (.slice (some ⟨W.heap.size,0,none⟩) n n) (W.alloc (.cells (madeCells #[.bool false] n) 4)):=by
  obtain ⟨inf,hi,hz⟩:=Option.map_eq_some_iff.1 zHG
  simp only [Prod.mk.injEq] at hz
  obtain ⟨hz,hsz,hby⟩:=hz
  intro W
  have:=run_make (P:=Tryz.prog) W 91 4 inf _ Tryz.underlying91 hi hz .i64 .i64 n n (by omega) (by omega) (by rw [hby]; omega) (by omega)
  simpa [hsz,Value.cells] using this
 have HMK:=zB hmk
 have HM:=zB hM
 have HOV:=zB hOV
 have HUA:=zB hUA
 have HVL:=zB hvl
 have HNM:=zB (fun u=>zCy a c0 ms u)
 have HIN:=zB (show ∀ i,i < ms.length -> ∀ u ∈ (atU U i).us,nmF ms u < ms.length from fun i hi u hu=>by
  have hle:=zEc ms u
  by_cases e:nmF ms u < ms.length
  ·exact e
  ·refine absurd ⟨u,hu,fun j hj=>?_⟩ (h4 i hi)
   exact (zAL ms u).2 j (by omega))
 have HUL:=zB (show ∀ i,i < ms.length -> (atU U i).us.length <= 20001 from fun i hi=>(zDD (hUO.2 i hi)).1)
 have HE:=zB (show zCc (w.alloc (.cells #[] 91)) w.heap.size n (.slice (some ⟨w.heap.size,0,none⟩) 0 0) [] by
  have:=World.ownsRow_lit (base:=w.heap.size) (e:=91) (size:=1) w #[] 0 (Nat.le_refl _) (Nat.zero_le _) rfl
  simpa [zCc,zAh] using this)
 rw [<- hnn] at HNM HIN HUL HVL hn ⊢
 have HNN:=zB hnn
 clear hi0 hz0 hz1 hz2 hM hOV hUA hUO hvl h4 hmk hnn
 go_enter Tryz.func52,Tryz.ntmps52
 go_wp2
 go_loopw [6,7] (fun out i wr=>∃ (k g c:Nat) (rs:List Nat),k <= n /\ i = .int .i64 (k:Int) /\ out = .slice (some ⟨g,0,none⟩) rs.length c /\ rs.length <= k /\ Hid (rs.length = k) /\ Hid (zCc wr w.heap.size n (.slice (some ⟨g,0,none⟩) rs.length c) rs) /\ Hid (zBN wr w.heap.size n (.slice (some ⟨g,0,none⟩) rs.length c) rs (zCz ms U)) /\ Below w.heap.size w wr) (fun _ i _=>n - (intOf i).toNat)
 case atStart=>exact ⟨0,w.heap.size,0,[],Nat.zero_le _,rfl,rfl,Nat.le_refl _,zB rfl,HE,zB ⟨fun i hi=>absurd hi (Nat.not_lt_zero i),fun i j hi=>absurd hi (Nat.not_lt_zero i),fun i hi=>absurd hi (Nat.not_lt_zero i)⟩,zC _ _⟩
 case round=>
  clear HE
  obtain ⟨k,g,c,rs,hk,rfl,rfl,hrl,HRK,HR,HMT,hbel⟩:=hrel
  obtain ⟨wo,rfl⟩:∃ wo,wo = wr:=⟨_,rfl⟩
  have hzr:=hbel.size
  by_cases hlt:k < n
  ·have hltI:(k:Int) < (n:Int):=by omega
   have hmkr:=(zA HMK) wo
   obtain ⟨us,hus⟩:∃ us,us = (atU U k).us:=⟨_,rfl⟩
   have HUS:=zB hus
   have hul:us.length <= 20001:=by rw [hus]; exact (zA HUL) k hlt
   have HINk:=zB (show ∀ u ∈ us,nmF ms u < n by rw [hus]; exact (zA HIN) k hlt)
   clear hus
   go_wp2_with fail
   clear hmkr
   obtain ⟨W1,hW1⟩:∃ W1,W1 = wo.alloc (.cells (madeCells #[.bool false] n) 4):=⟨_,rfl⟩
   have hbW1:Below wo.heap.size wo W1:=by rw [hW1]; exact zC _ _
   have HBR0:=zB (show zBl W1 wo.heap.size n (fun _=>false) by rw [hW1]; exact zHE wo n)
   have HBW1:=zB (hbel.trans (hbW1.mono hzr))
   have HBWr:=zB hbW1
   have zW1:wo.heap.size + 1 <= W1.heap.size:=by rw [hW1]; simp
   rw [<- hW1]
   clear hW1 hbW1
   go_loopw [9] (fun i wr=>∃ q:Nat,q <= us.length /\ i = .int .i64 (q:Int) /\ Hid (zBl wr wo.heap.size n (fun j=>(us.take q).any (fun u=>nmF ms u == j))) /\ Hid (zF W1 wr wo.heap.size)) (fun i _=>us.length - (intOf i).toNat)
   case atStart=>exact ⟨0,Nat.zero_le _,rfl,zB ((zA HBR0).congr (fun j _=>by simp)),zB (zF.refl _ _)⟩
   case round=>
    clear HBR0
    obtain ⟨q,hq,rfl,HB,HK⟩:=hrel
    have hbk:Below w.heap.size w wr:=(zA HBW1).trans ((zA HK).below (by omega) hzr)
    have hvk:k < vs.length:=by rw [zA HVL]; exact hlt
    obtain ⟨v0,_,_⟩:=((zA HOV).below hbk hgU) k hvk
    have hst:zz wr (atV vs k).vu us:=by
     have h:=((zA HUA).belowB hbk (Nat.le_refl _)).uses hvk
     rw [<- zA HUS] at h
     exact h
    by_cases hqlt:q < us.length
    ·have hqI:(q:Int) < (us.length:Int):=by omega
     obtain ⟨gw,cw,hv,hgw,hc⟩:=hst.lt (by omega)
     rw [hv] at v0
     obtain ⟨u,hu⟩:∃ u,us[q]? = some u:=⟨_,List.getElem?_eq_getElem hqlt⟩
     have k0:=hc q u hu
     have hum:u ∈ us:=List.mem_of_getElem? hu
     obtain ⟨m,hm⟩:∃ m,m = nmF ms u:=⟨_,rfl⟩
     have hmn:m < n:=by rw [hm]; exact (zA HINk) u hum
     have hmI:(m:Int) < (n:Int):=by omega
     have HCALL:=zB ((zA HNM) u wr (by omega) ((zA HM).below hbk))
     have hnm:nmI ms u = (m:Int):=by
      unfold nmI
      rw [<- hm,<- zA HNN,if_pos hmn]
     rw [hnm] at HCALL
     obtain ⟨b0,b1⟩:=(zA HB).2 m hmn
     have HBN:=zB (show zBl (wr.setCell ⟨wo.heap.size,m,none⟩ (.bool true)) wo.heap.size n (fun j=>(us.take (q + 1)).any (fun u=>nmF ms u == j)) from ((zA HB).set hmn true).congr (fun j _=>by rw [zMX hu ms j,<- hm]))
     have HKN:=zB (show zF W1 (wr.setCell ⟨wo.heap.size,m,none⟩ (.bool true)) wo.heap.size from (zA HK).trans (zAw [.bool true] m wr))
     clear hc hst hu hum hm hnm hv HB HK
     go_wp2_with fail
     (with_reducible refine (zA HCALL).mono ?_)
     rintro e w2 ⟨rfl,hx⟩
     obtain rfl:=hx.symm
     clear hx HCALL
     go_wp2_with fail
     exact ⟨⟨q + 1,by omega,by go_num,HBN,HKN⟩,by simp [intOf]; omega⟩
    ·obtain ⟨aw,cw,hv,_⟩:=hst
     rw [hv] at v0
     have hqe:q = us.length:=by omega
     have HBF:=zB (show zBl wr wo.heap.size n (zCz ms U k) by
      refine (zA HB).congr (fun j hj=>?_)
      rw [zMW (by rw [<- zA HNN]; exact hlt) (by rw [<- zA HNN]; exact hj),hqe,zA HUS])
     have HBk:=zB (show Below wo.heap.size wo wr from (zA HBWr).trans ((zA HK).below (by omega) (Nat.le_refl _)))
     have hzk:=(zA HBk).size
     have hg:=((zA HR).lt g rfl).2
     clear hv hqe HB
     go_wp2_with (at_builtin; refine wpList_append_own_at _ rfl (.tmp 45) (.tmp 47) 89 rfl w.heap.size 91 i0 _ 1 24 Tryz.underlying89 (zA HI) (zA HZ).1 (zA HZ).2.1 (zA HZ).2.2 rfl (by decide) _ rs.length (zAh n rs) rfl (((zA HR).below (zA HBk)).below (zC _ _)) ⟨wr.heap.size,0,none⟩ 1 1 (zAh n [wo.heap.size]) rfl rfl (fun j u hj=>zJw wr _ j u hj) (zI0 _ _) ?b1 ?b2 ?b3 ?next)
     case b1=>unfold maxLen; omega
     case b2=>omega
     case b3=>simp; omega
     case next=>
      intro v4 w4 hown4 hgrow4 hnil4 hat4
      have HO:=zB (show zCc w4 w.heap.size n v4 (rs ++ [wo.heap.size]) by
       unfold zCc
       rw [zGB,List.length_append]
       exact hown4)
      have HM4:=zB (show zBN w4 w.heap.size n v4 (rs ++ [wo.heap.size]) (zCz ms U) from
       (zBN.push (zA HMT) ((zA HBk).alloc hzk _) hzr (fun q e=>by have e':g = q:=(by simpa [Value.ownBlock] using e); omega) ((zA HBF).below (zC _ _)) (Nat.le_refl _) hgrow4 (hat4.imp id (fun h=>⟨_,h,by simp⟩))).congr (fun i j _ _=>by
        by_cases e:i = rs.length
        ·rw [if_pos e,e,zA HRK]
        ·rw [if_neg e]))
      have hbel4:Below w.heap.size w w4:=(hbel.trans (((zA HBk).alloc hzk _).mono hzr)).grown hgrow4 (by simp; omega) (fun q hq=>((zA HR).lt q hq).1)
      obtain ⟨g4,c4,rfl⟩:∃ g4 c4,v4 = .slice (some ⟨g4,0,none⟩) (rs ++ [wo.heap.size]).length c4:=by
       obtain ⟨_,⟨_,h2⟩ | ⟨g',cap,cur,h1,_⟩⟩:=zA HO
       ·simp at h2
       ·exact ⟨g',cap,h1⟩
      obtain ⟨rs4,HLS⟩:∃ rs4,Hid (rs4 = rs ++ [wo.heap.size]):=⟨_,zB rfl⟩
      have e4:=zA HLS
      rw [<- e4] at HO HM4
      rw [<- e4]
      clear e4 hown4 hgrow4 hnil4 hat4 v0
      go_wp2_with fail
      refine ⟨⟨k + 1,g4,c4,rs4,by omega,by go_num,rfl,?_,zB ?_,HO,HM4,hbel4⟩,by simp [intOf]; omega⟩
      ·rw [zA HLS]; simp; omega
      ·have:=zA HRK; rw [zA HLS]; simp; omega
  ·have hkn:k = n:=by omega
   have HRN:=zB (show rs.length = n by have:=zA HRK; omega)
   have hrn1:rs.length <= n:=by omega
   have hrn2:n <= rs.length:=by have:=zA HRN; omega
   clear hkn HRK
   go_wp2_with fail
   go_loopw [10] (fun im wr=>∃ m:Nat,m <= n /\ im = .int .i64 (m:Int) /\ Hid (zCc wr w.heap.size n (.slice (some ⟨g,0,none⟩) rs.length c) rs) /\ Hid (zBN wr w.heap.size n (.slice (some ⟨g,0,none⟩) rs.length c) rs (wrN (zCz ms U) m)) /\ Below w.heap.size w wr) (fun im _=>n - (intOf im).toNat)
   case atStart=>exact ⟨0,Nat.zero_le _,rfl,HR,HMT,hbel⟩
   case round=>
    clear HR HMT hbel
    obtain ⟨m,hm,rfl,HR,HMT,hbel⟩:=hrel
    obtain ⟨wm,rfl⟩:∃ wm,wm = wr:=⟨_,rfl⟩
    by_cases hmlt:m < n
    ·have hmI:(m:Int) < (n:Int):=by omega
     have hmR:(m:Int) < (rs.length:Int):=by omega
     obtain ⟨M,hM⟩:∃ M,M = wrN (zCz ms U) m:=⟨_,rfl⟩
     rw [<- hM] at HMT
     have HMM:=zB hM
     clear hM
     go_wp2_with fail
     go_loopw [11] (fun ii wr=>∃ i:Nat,i <= n /\ ii = .int .i64 (i:Int) /\ Hid (zCc wr w.heap.size n (.slice (some ⟨g,0,none⟩) rs.length c) rs) /\ Hid (zBN wr w.heap.size n (.slice (some ⟨g,0,none⟩) rs.length c) rs (prt M m i 0)) /\ Below w.heap.size w wr) (fun ii _=>n - (intOf ii).toNat)
     case atStart=>exact ⟨0,Nat.zero_le _,rfl,HR,zB ((zA HMT).congr (fun i j _ _=>(zLO M m i j).symm)),hbel⟩
     case round=>
      clear HR HMT hbel
      obtain ⟨i,hi,rfl,HR,HMT,hbel⟩:=hrel
      obtain ⟨wi,rfl⟩:∃ wi,wi = wr:=⟨_,rfl⟩
      by_cases hilt:i < n
      ·have hiI:(i:Int) < (n:Int):=by omega
       have hiR:(i:Int) < (rs.length:Int):=by omega
       go_wp2_with fail
       go_loopw [12] (fun jj wr=>∃ j:Nat,j <= n /\ jj = .int .i64 (j:Int) /\ Hid (zCc wr w.heap.size n (.slice (some ⟨g,0,none⟩) rs.length c) rs) /\ Hid (zBN wr w.heap.size n (.slice (some ⟨g,0,none⟩) rs.length c) rs (prt M m i j)) /\ Below w.heap.size w wr) (fun jj _=>n - (intOf jj).toNat)
       case atStart=>exact ⟨0,Nat.zero_le _,rfl,HR,HMT,hbel⟩
       case round=>
        clear HR HMT hbel
        obtain ⟨j,hj,rfl,HR,HMT,hbel⟩:=hrel
        by_cases hjlt:j < n
        ·have hjI:(j:Int) < (n:Int):=by omega
         have c1:=(zA HR).cell (i:=i) (by omega)
         have c2:=(zA HR).cell (i:=m) (by omega)
         obtain ⟨b1,_⟩:=((zA HMT).1 i (by omega)).2 m hmlt
         obtain ⟨b2,_⟩:=((zA HMT).1 m (by omega)).2 j hjlt
         obtain ⟨b3,f3⟩:=((zA HMT).1 i (by omega)).2 j hjlt
         rw [zO1] at b1
         rw [zO2] at b2
         cases h1:M i m
         ·rw [h1] at b1
          have HN:=zB ((zA HMT).congr (fun i' j' _ _=>zMP M m i j (Or.inl h1) i' j'))
          clear HMT h1
          go_wp2_with fail
          exact ⟨⟨j + 1,by omega,by go_num,HR,HN,hbel⟩,by simp [intOf]; omega⟩
         ·rw [h1] at b1
          cases h2:M m j
          ·rw [h2] at b2
           have HN:=zB ((zA HMT).congr (fun i' j' _ _=>zMP M m i j (Or.inr h2) i' j'))
           clear HMT h1 h2
           go_wp2_with fail
           exact ⟨⟨j + 1,by omega,by go_num,HR,HN,hbel⟩,by simp [intOf]; omega⟩
          ·rw [h2] at b2
           have hri:=(zA HMT).2.2 i (by omega)
           have HN:=zB (((zA HMT).set (i:=i) (j:=j) (by omega) hjlt).congr (fun i' j' _ _=>zNv M m i j h1 h2 i' j'))
           have HRN2:=zB ((zA HR).grown (zm wr (atR rs i) j (.bool true)) (fun k e x=>hri.1 (e.trans x.symm)))
           have hbn:Below w.heap.size w (wr.setCell ⟨atR rs i,j,none⟩ (.bool true)):=hbel.setCell (p:=⟨atR rs i,j,none⟩) hri.2 _
           clear HMT HR h1 h2 hri
           go_wp2_with fail
           exact ⟨⟨j + 1,by omega,by go_num,HRN2,HN,hbn⟩,by simp [intOf]; omega⟩
        ·have hjn:j = n:=by omega
         have HN:=zB (show zBN wr w.heap.size n (.slice (some ⟨g,0,none⟩) rs.length c) rs (prt M m (i + 1) 0) from (zA HMT).congr (fun i' j' _ hj'=>by rw [hjn]; exact zNt M m i n i' j' hj'))
         clear HMT hjn
         go_wp2_with fail
         exact ⟨⟨i + 1,by omega,by go_num,HR,HN,hbel⟩,by simp [intOf]; omega⟩
      ·have hin:i = n:=by omega
       have HN:=zB (show zBN wi w.heap.size n (.slice (some ⟨g,0,none⟩) rs.length c) rs (wrN (zCz ms U) (m + 1)) from (zA HMT).congr (fun i' j' hi' _=>by
        show _ = wr1 (wrN (zCz ms U) m) m i' j'
        rw [hin,<- zA HMM]
        exact zNu M m n i' j' (by omega)))
       clear HMT hin
       go_wp2_with fail
       exact ⟨⟨m + 1,by omega,by go_num,HR,HN,hbel⟩,by simp [intOf]; omega⟩
    ·have hmn:m = n:=by omega
     have HF:=zB (show ∀ i,i < n -> zBl wm (atR rs i) n (wrN (zCz ms U) n i) from fun i hi=>by
      have:=(zA HMT).1 i (by omega)
      rw [hmn] at this
      exact this)
     have HC:=zB (show ∀ i,i < n -> wm.cell? ⟨g,i,none⟩ = some (.slice (some ⟨atR rs i,0,none⟩) n n) from fun i hi=>(zA HR).cell (by omega))
     have hg:=(zA HR).lt g rfl
     have HRE:=zB (show Value.slice (some ⟨g,0,none⟩) rs.length c = Value.slice (some ⟨g,0,none⟩) n c by rw [zA HRN])
     clear HMT hmn HR
     go_wp2_with fail
     go_ret
     exact ⟨g,c,rs,congrArg Ending.returned (zA HRE),hg.1,hg.2,HC,HF,hbel⟩
end Go.Proofs.YtgiemobdmbijiaaGreatDoor
namespace Go.Proofs.YtgiemobdmbijiaaGreatDoor
set_option linter.unusedSimpArgs false
set_option linter.unusedVariables false
set_option maxHeartbeats 16000000
set_option maxRecDepth 100000
def zLQ (o:OpR):Prop:=o.s.size <= 20000 /\ (1 <= o.k /\ o.k <= 3) /\ (0 <= o.l /\ o.l < 1000000) /\ (0 <= o.sd /\ o.sd <= 3)
theorem OpW.small {ws:List ByteArray} {o:OpR} (h:OpW ws o) (hs:∀ x ∈ ws,x.size <= 20000):zLQ o:=by
 obtain ⟨k,t,l,hl,h⟩:=h
 have hv:zx l l.size < 1000000:=by
  have h1:=zDj l hl.2.2 l.size (Nat.le_refl _)
  have h2:10 ^ l.size <= 10 ^ 6:=Nat.pow_le_pow_right (by decide) hl.2.1
  omega
 rcases h with ⟨rfl,h⟩ | ⟨sd,rfl,_,hne,rfl⟩
 ·rcases h with ⟨_,rfl⟩ | ⟨_,rfl⟩
  ·exact ⟨hs t (by simp),⟨by simp,by simp⟩,⟨by simp,by simp; omega⟩,⟨by simp,by simp⟩⟩
  ·exact ⟨hs t (by simp),⟨by simp,by simp⟩,⟨by simp,by simp; omega⟩,⟨by simp,by simp⟩⟩
 ·refine ⟨hs t (by simp),⟨by simp,by simp⟩,⟨by simp,by simp; omega⟩,?_⟩
  rcases zF9 sd with e | e | e | e <;> simp [e]
theorem UnF.small {s:ByteArray} (hs:s.size <= 20000):∀ (ls:List (Nat × Nat)) (n:Nat) (us:List ByteArray) (os:List OpR) {u:List ByteArray} {o:List OpR} {b:ByteArray} {c l:Int},UnF s ls n us os u o b c l -> (∀ x ∈ os,zLQ x) -> ∀ x ∈ o,zLQ x
 | [],n,us,os,_,_,_,_,_,h=>by
  obtain ⟨rfl,rfl,rfl,rfl,rfl⟩:=h
  exact fun _ x hx=>by cases hx
 | p :: r,n,us,os,u,o,b,c,l,h=>by
  rcases h with ⟨_,rfl,rfl,rfl,rfl,rfl⟩ | ⟨_,⟨us',os',hl,h⟩ | ⟨_,rfl,rfl,rfl,rfl,rfl⟩⟩
  ·exact fun h=>h
  ·intro h0
   refine UnF.small hs r (n + 1) us' os' h ?_
   rcases hl with ⟨_,rfl,rfl⟩ | ⟨x,hx,rfl,rfl⟩ | ⟨o',ho,rfl,rfl⟩
   ·exact h0
   ·exact h0
   ·intro x hx
    rcases List.mem_append.1 hx with hx | hx
    ·exact h0 x hx
    ·simp at hx
     subst hx
     refine ho.small (fun z hz=>?_)
     unfold wds at hz
     obtain ⟨q,_,rfl⟩:=List.mem_map.1 hz
     simp only [ByteArray.size_extract]
     omega
  ·exact fun _ x hx=>by cases hx
theorem zJ2 {s:ByteArray} {u:List ByteArray} {o:List OpR} {b:ByteArray} {c l:Int} (h:zn s u o b c l):∀ x ∈ o,zLQ x:=by
 rcases h with ⟨_,rfl,rfl,rfl,rfl,rfl⟩ | ⟨h0,h⟩
 ·exact fun x hx=>by cases hx
 ·exact UnF.small h0 _ _ _ _ h (fun x hx=>by cases hx)
theorem zBD.small {ms:List zI} {U:List UnR} (h:zBD ms U):∀ o ∈ zBg U,zLQ o:=by
 intro o ho
 obtain ⟨u,hu,ho⟩:=List.mem_flatMap.1 ho
 obtain ⟨i,hi,rfl⟩:=zKr hu
 exact zJ2 (h.2 i (by rw [<- h.1]; exact hi)) o ho
theorem zI5 {xs:List OpR} (h:∀ o ∈ xs,zLQ o):Zs xs:=fun i hi=>by
 have:=(h _ (zNm hi)).1
 unfold maxLen
 omega
theorem zMY {ms:List zI} {U:List UnR} (h3:∀ i,i < ms.length -> ¬ B3 ms i) (i j:Nat):zCz ms U i j = true ↔ Edg ms U i j:=by
 unfold zCz Edg
 simp only [Bool.and_eq_true,decide_eq_true_eq,List.any_eq_true,beq_iff_eq]
 constructor
 ·rintro ⟨h1,h2,u,hu,rfl⟩
  exact ⟨h1,h2,by rw [(zAL ms u).1 h2]; exact hu⟩
 ·rintro ⟨h1,h2,h⟩
  refine ⟨h1,h2,_,h,?_⟩
  exact zKn h2 rfl (fun q hq e=>h3 j h2 ⟨q,hq,e⟩)
theorem zGD {ms:List zI} {U:List UnR} (h3:∀ i,i < ms.length -> ¬ B3 ms i) (i j:Nat):wrN (zCz ms U) ms.length i j = true ↔ TC (Edg ms U) i j:=
 zOw (zMY h3) (fun i j h=>⟨h.1,h.2.1⟩) i j
theorem zNz {ms:List zI} {U:List UnR} {i:Nat} (hi:i < ms.length) (h4:¬ B4 ms U i) {u:ByteArray} (hu:u ∈ (atU U i).us):nmF ms u < ms.length /\ Edg ms U i (nmF ms u):=by
 have hle:=zEc ms u
 have hlt:nmF ms u < ms.length:=by
  by_cases e:nmF ms u < ms.length
  ·exact e
  ·exact absurd ⟨u,hu,fun j hj=>(zAL ms u).2 j (by omega)⟩ h4
 exact ⟨hlt,hi,hlt,by rw [(zAL ms u).1 hlt]; exact hu⟩
theorem zPc {ms:List zI} {U:List UnR} (h3:∀ i,i < ms.length -> ¬ B3 ms i) (h4:∀ i,i < ms.length -> ¬ B4 ms U i) (h5:∀ i,i < ms.length -> ¬ TC (Edg ms U) i i) :
  ∃ rk:Nat -> Nat,(∀ i,i < ms.length -> ∀ u ∈ (atU U i).us,rk (nmF ms u) < rk i) /\ ∀ i,i < ms.length -> rk i < ms.length:=by
 refine ⟨rkW (wrN (zCz ms U) ms.length) ms.length,fun i hi u hu=>?_,fun i hi=>zPZ (zGD h3) hi (h5 i hi)⟩
 obtain ⟨h1,h2⟩:=zNz hi (h4 i hi) hu
 exact zNp (zGD h3) h2 h1 (h5 _ h1)
end Go.Proofs.YtgiemobdmbijiaaGreatDoor
namespace Go.Proofs.YtgiemobdmbijiaaGreatDoor
set_option linter.unusedSimpArgs false
set_option linter.unusedVariables false
set_option maxHeartbeats 16000000
set_option maxRecDepth 100000
open Go.RowKit
def zDJ (out:List (List OpR)) (i:Nat):List OpR:=out.getD i []
theorem zI6 {n i:Nat} {S:Nat -> List OpR} (h:i < n):zDJ ((List.range n).map S) i = S i:=by
 simp [zDJ,List.getD_eq_getElem?_getD,h]
end Go.Proofs.YtgiemobdmbijiaaGreatDoor
