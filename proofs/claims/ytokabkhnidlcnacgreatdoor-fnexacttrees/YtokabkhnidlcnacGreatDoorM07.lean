import Derived.Laws.AppendOwnNone
import Derived.Test.YtokabkhnidlcnacGreatDoorM00
import Derived.Test.YtokabkhnidlcnacGreatDoorM02
import Derived.Test.YtokabkhnidlcnacGreatDoorM03
import Derived.Test.YtokabkhnidlcnacGreatDoorM04
import Derived.Test.YtokabkhnidlcnacGreatDoorM06
namespace Go.Proofs.YtokabkhnidlcnacGreatDoor
set_option linter.unusedSimpArgs false
set_option linter.unusedVariables false
set_option maxHeartbeats 16000000
set_option maxRecDepth 100000
open Go.RowKit
theorem zKM (w:World):zAc (w.alloc (.cells #[] 64)) w.heap.size (.slice (some ⟨w.heap.size,0,none⟩) 0 0) []:=by
 have:=World.ownsRow_lit (base:=w.heap.size) (e:=64) (size:=3) w #[] 0 (Nat.le_refl _) (Nat.zero_le _) rfl
 simpa [zAc,ZO] using this
def zOT (w:World) (ms:List zJ) (e:Ending) (w':World):Prop:=∃ (g c:Nat) (vs:List UvR) (U:List UnR),e = .returned (.slice (some ⟨g,0,none⟩) vs.length c) /\ w.heap.size <= g /\ g < w'.heap.size /\ vs.length = ms.length /\ Hid (zKI w' g vs) /\ Hid (zBg w' w'.heap.size vs U) /\ Hid (zAL ms U) /\ Below w.heap.size w w'
def zQW (ms:List zJ) (U:List UnR) (k:Nat):Prop:=U.length = k /\ ∀ i,i < k -> zq (atM ms i).t (atU U i).us (atU U i).os (atU U i).b 0 0
theorem zFF (a:Option Addr) (c0:Nat) (ms:List zJ) (w:World) (hn:ms.length <= 100) (hM:zBz w a ms) (hz:zEg ms) (hgood:∀ i,i < ms.length -> ¬ B2 ms i) :
  Calls Tryz.prog 21 #[.slice a ms.length c0] w (zOT w ms):=by
 obtain ⟨i0,hi0,hz0,hz1,hz2⟩:=zQ zMs
 have HI:=zB hi0
 have HZ:=zB (And.intro hz0 (And.intro hz1 hz2))
 have HM:=zB hM
 have HG:=zB hgood
 have HSZ:=zB hz
 clear hi0 hz0 hz1 hz2 hM hgood hz
 have HE:=zB (zKM w)
 go_enter Tryz.func21,Tryz.ntmps21
 go_wp2
 go_loopw [3,4] (fun out i wr=>∃ (k g c:Nat) (vs:List UvR) (U:List UnR),k <= ms.length /\ i = .int .i64 (k:Int) /\ out = .slice (some ⟨g,0,none⟩) vs.length c /\ vs.length <= k /\ Hid (vs.length = k) /\ Hid (zQW ms U k) /\ Hid (zAc wr w.heap.size (.slice (some ⟨g,0,none⟩) vs.length c) vs) /\ Hid (zFD wr (.slice (some ⟨g,0,none⟩) vs.length c) vs U) /\ Below w.heap.size w wr) (fun _ i _=>ms.length - (intOf i).toNat)
 case atStart=>exact ⟨0,w.heap.size,0,[],[],Nat.zero_le _,rfl,rfl,Nat.le_refl _,zB rfl,zB ⟨rfl,fun i hi=>by omega⟩,HE,zB ⟨rfl,fun i hi=>absurd hi (Nat.not_lt_zero i)⟩,zC _ _⟩
 case round=>
  clear HE
  obtain ⟨k,g,c,vs,U,hk,rfl,rfl,hvl,HVK,HUT,HR,HUO,hbel⟩:=hrel
  by_cases hlt:k < ms.length
  ·have hltI:(k:Int) < (ms.length:Int):=by omega
   rcases zA HM with h | ⟨b,off,rfl,hops,hB⟩
   ·omega
   obtain ⟨m0,m1⟩:=(hops k hlt).below hbel hB
   have hg:=((zA HR).lt g rfl).2
   have HRD:=zB (zCR (atM ms k).t wr ((zA HSZ) k hlt).2)
   clear hops
   go_wp2_with fail
   (with_reducible refine (zA HRD).mono ?_)
   rintro e w1 ⟨vu,vo,us,os,b',c',l',rfl,hi1,ru1,ro1,hne1,hlu,hlo,hb1⟩
   obtain ⟨rfl,rfl,_,_⟩:=zMm ((zA HG) k hlt) hi1
   obtain ⟨a1,c1,rfl⟩:=zM ru1
   obtain ⟨a2,c2,rfl⟩:∃ a c,vo = .slice a os.length c:=zM ro1
   have z1:=hb1.size
   have HB1:=zB hb1
   have HS1:=zB ru1.strs
   have HO1:=zB ro1.ops
   have HLU:=zB (fun q e=>ru1.lt q e)
   have HLO:=zB (fun q e=>ro1.lt q e)
   have HUN:=zB hi1
   clear hi1 ru1 ro1 hne1 hb1 HRD m0 m1
   go_wp2_with (at_builtin; refine wpList_append_own_at _ rfl (.tmp 25) (.tmp 27) 52 rfl w.heap.size 64 i0 _ 3 64 Tryz.underlying52 (zA HI) (zA HZ).1 (zA HZ).2.1 (zA HZ).2.2 rfl (by decide) _ vs.length (ZO vs) rfl (((zA HR).below (zA HB1)).below ((zC _ _).alloc (by simp) _)) ⟨w1.heap.size + 1,0,none⟩ 1 1 (ZO [⟨.slice a1 us.length c1,.slice a2 os.length c2,b'⟩]) rfl rfl (fun j u hj=>(by simpa using zEj (w1.alloc (.cells #[.slice a1 us.length c1,.slice a2 os.length c2,.string b'] 64)) ⟨.slice a1 us.length c1,.slice a2 os.length c2,b'⟩ j u hj)) (fun u hu=>by simp [ZO] at hu; rcases hu with rfl | rfl | rfl <;> rfl) ?b1 ?b2 ?b3 ?next)
   case b1=>unfold maxLen; omega
   case b2=>omega
   case b3=>have:=hbel.size; simp; omega
   case next=>
    intro v4 w4 hown4 hgrow4 hnil4 hat4
    have hbd:Below w1.heap.size w1 ((w1.alloc (.cells #[.slice a1 us.length c1,.slice a2 os.length c2,.string b'] 64)).alloc (.cells #[.slice a1 us.length c1,.slice a2 os.length c2,.string b'] 64)):=(zC _ _).alloc (by simp) _
    have HO:=zB (show zAc w4 w.heap.size v4 (vs ++ [⟨.slice a1 us.length c1,.slice a2 os.length c2,b'⟩]) by
     unfold zAc
     rw [zDc,List.length_append]
     exact hown4)
    have HU4:=zB (zFD.step (x:=⟨.slice a1 us.length c1,.slice a2 os.length c2,b'⟩) (y:=⟨us,os,b'⟩) (zA HUO) ((zA HB1).trans (hbd.mono z1)) (fun q e=>by have e':g = q:=(by simpa [Value.ownBlock] using e); omega) ((zA HS1).below hbd) ((zA HO1).below hbd) rfl (fun q e=>by have:=(zA HLU) q e; simp; omega) (fun q e=>by have:=(zA HLO) q e; simp; omega) hgrow4 (hat4.imp id (fun h=>⟨_,h,by simp⟩)))
    have hbel4:Below w.heap.size w w4:=(hbel.trans (((zA HB1).trans (hbd.mono z1)).mono hbel.size)).grown hgrow4 (by have:=hbel.size; simp; omega) (fun q hq=>((zA HR).lt q hq).1)
    obtain ⟨g4,c4,rfl⟩:∃ g4 c4,v4 = .slice (some ⟨g4,0,none⟩) (vs ++ [(⟨.slice a1 us.length c1,.slice a2 os.length c2,b'⟩:UvR)]).length c4:=by
     obtain ⟨_,⟨_,h2⟩ | ⟨g',cap,cur,h1,_⟩⟩:=zA HO
     ·simp at h2
     ·exact ⟨g',cap,h1⟩
    have HUT4:=zB (show zQW ms (U ++ [⟨us,os,b'⟩]) (k + 1) by
     obtain ⟨t1,t2⟩:=zA HUT
     refine ⟨by simp [t1],fun i hi=>?_⟩
     by_cases e:i < k
     ·rw [zF6 (by omega)]; exact t2 i e
     ·have e1:i = U.length:=by omega
      have e2:atU (U ++ [⟨us,os,b'⟩]) i = ⟨us,os,b'⟩:=by rw [e1]; exact zF7
      rw [e2]
      have e3:i = k:=by omega
      rw [e3]
      exact zA HUN)
    obtain ⟨vs4,HLS⟩:∃ vs4,Hid (vs4 = vs ++ [(⟨.slice a1 us.length c1,.slice a2 os.length c2,b'⟩:UvR)]):=⟨_,zB rfl⟩
    have e4:=zA HLS
    rw [<- e4] at HO HU4
    rw [<- e4]
    clear e4 hown4 hgrow4 hnil4 hat4 HS1 HO1 HLU HLO HB1 HR HUO HUT hbd
    go_wp2
    refine ⟨⟨k + 1,g4,c4,vs4,U ++ [⟨us,os,b'⟩],by omega,by go_num,rfl,?_,zB ?_,HUT4,HO,HU4,hbel4⟩,by simp [intOf]; omega⟩
    ·rw [zA HLS]; simp; omega
    ·have:=zA HVK; rw [zA HLS]; simp; omega
  ·have hkn:k = ms.length:=by omega
   have HF:=zB (show zAL ms U by
    obtain ⟨t1,t2⟩:=zA HUT
    exact ⟨by omega,fun i hi=>t2 i (by omega)⟩)
   have HVN:=zB (show vs.length = ms.length by have:=zA HVK; omega)
   clear hkn
   go_wp2
   go_ret
   have hg:=(zA HR).lt g rfl
   exact ⟨g,c,vs,U,rfl,hg.1,hg.2,zA HVN,zB (zA HR).ops,zB (zA HUO).at,HF,hbel⟩
def nmI (ms:List zJ) (u:ByteArray):Int:=if nmF ms u < ms.length then (nmF ms u:Int) else -1
theorem zP1 {a b:ByteArray} (h:a ≠ b):(a.toList == b.toList) = false:=by
 cases e:(a.toList == b.toList)
 ·rfl
 ·exact absurd (zCO (by simpa using e)) h
theorem zC9 (a:Option Addr) (c:Nat) (ms:List zJ) (u:ByteArray) (w:World) (hn:ms.length <= 1048576) (hM:zBz w a ms) :
  Calls Tryz.prog 47 #[.slice a ms.length c,.string u] w fun e w'=>e = .returned (.int .i64 (nmI ms u)) /\ w' = w:=by
 have HM:=zB hM
 clear hM
 go_enter Tryz.func47,Tryz.ntmps47
 go_wp2
 go_loop [5] (fun i=>∃ k:Nat,k <= ms.length /\ i = .int .i64 (k:Int) /\ Hid (∀ j,j < k -> (atM ms j).n ≠ u)) (fun i=>ms.length - (intOf i).toNat)
 case atStart=>exact ⟨0,Nat.zero_le _,rfl,zB (fun j h=>by omega)⟩
 case round=>
  obtain ⟨k,hk,rfl,hb⟩:=hrel
  by_cases hlt:k < ms.length
  ·have hltI:(k:Int) < (ms.length:Int):=by omega
   rcases zA HM with h | ⟨b,off,rfl,hops,hB⟩
   ·omega
   obtain ⟨m0,m1⟩:=hops k hlt
   by_cases e:(atM ms k).n = u
   ·subst e
    have HR:=zB (show nmI ms (atM ms k).n = (k:Int) by
     unfold nmI
     rw [zK9 hlt rfl (zA hb),if_pos hlt])
    go_wp2
    go_ret
    exact ⟨zG (zA HR).symm,rfl⟩
   ·have ne:=zP1 e
    have HX:=zB (show ∀ j,j < k + 1 -> (atM ms j).n ≠ u from fun j hj=>by
     by_cases e2:j = k
     ·subst e2; exact e
     ·exact (zA hb) j (by omega))
    clear e
    go_wp2
    exact ⟨⟨k + 1,by omega,by go_num,HX⟩,by simp [intOf]; omega⟩
  ·have HR:=zB (show nmI ms u = -1 by
    unfold nmI
    rw [zMj (fun j hj=>(zA hb) j (by omega)),if_neg (Nat.lt_irrefl _)])
   go_wp2
   go_ret
   exact ⟨zG (zA HR).symm,rfl⟩
def zDA (ms:List zJ) (U:List UnR) (i j:Nat):Bool:=decide (i < ms.length) && (decide (j < ms.length) && (atU U i).us.any (fun u=>nmF ms u == j))
theorem zHU:(Tryz.prog.info? 4).map (fun i=>(i.zero,i.size,i.bytes)) = some (some (.bool false),1,1):=by kernel_rfl
def zOU (w:World) (n:Nat) (W:Nat -> Nat -> Bool) (e:Ending) (w':World):Prop:=∃ (g c:Nat) (rs:List Nat),e = .returned (.slice (some ⟨g,0,none⟩) n c) /\ w.heap.size <= g /\ g < w'.heap.size /\ Hid (∀ i,i < n -> w'.cell? ⟨g,i,none⟩ = some (.slice (some ⟨atR rs i,0,none⟩) n n)) /\ Hid (∀ i,i < n -> zB1 w' (atR rs i) n (W i)) /\ Below w.heap.size w w'
theorem zBg.uses {w:World} {B:Nat} {vs:List UvR} {U:List UnR} (h:zBg w B vs U) {i:Nat} (hi:i < vs.length):zj w (atV vs i).vu (atU U i).us:=(h.2 i hi).1.1
theorem zMw {ms:List zJ} {U:List UnR} {i j:Nat} (hi:i < ms.length) (hj:j < ms.length):zDA ms U i j = ((atU U i).us.take (atU U i).us.length).any (fun u=>nmF ms u == j):=by
 rw [List.take_length]
 simp [zDA,hi,hj]
theorem zMx {us:List ByteArray} {k:Nat} {u:ByteArray} (h:us[k]? = some u) (ms:List zJ) (j:Nat):(us.take (k + 1)).any (fun u=>nmF ms u == j) = (if j = nmF ms u then true else (us.take k).any (fun u=>nmF ms u == j)):=by
 rw [List.take_add_one,h,List.any_append]
 by_cases e:j = nmF ms u
 ·subst e; simp
 ·have:(nmF ms u == j) = false:=by simp; omega
  simp [e,this]
theorem zJE (a:Option Addr) (c0 gU cU:Nat) (ms:List zJ) (vs:List UvR) (U:List UnR) (w:World) (hn:ms.length <= 100) (hM:zBz w a ms) (hOV:zKI w gU vs) (hgU:gU < w.heap.size) (hUA:zBg w w.heap.size vs U) (hUO:zAL ms U) (hvl:vs.length = ms.length) (h4:∀ i,i < ms.length -> ¬ B4 ms U i) :
  Calls Tryz.prog 48 #[.slice a ms.length c0,.slice (some ⟨gU,0,none⟩) ms.length cU] w (zOU w ms.length (wrN (zDA ms U) ms.length)):=by
 obtain ⟨i0,hi0,hz0,hz1,hz2⟩:=zQ zPy
 have HI:=zB hi0
 have HZ:=zB (And.intro hz0 (And.intro hz1 hz2))
 obtain ⟨n,hnn⟩:∃ n,n = ms.length:=⟨_,rfl⟩
 have hmk:∀ W:World,(Instr.makeSlice 85 (.int .i64 (n:Int)) (.int .i64 (n:Int))).run Tryz.prog W = .ok (.slice (some ⟨W.heap.size,0,none⟩) n n) (W.alloc (.cells (madeCells #[.bool false] n) 4)):=by
  obtain ⟨inf,hi,hz⟩:=Option.map_eq_some_iff.1 zHU
  simp only [Prod.mk.injEq] at hz
  obtain ⟨hz,hsz,hby⟩:=hz
  intro W
  have:=run_make (P:=Tryz.prog) W 85 4 inf _ Tryz.underlying85 hi hz .i64 .i64 n n (by omega) (by omega) (by rw [hby]; omega) (by omega)
  simpa [hsz,Value.cells] using this
 have HMK:=zB hmk
 have HM:=zB hM
 have HOV:=zB hOV
 have HUA:=zB hUA
 have HVL:=zB hvl
 have HNM:=zB (fun u=>zC9 a c0 ms u)
 have HIN:=zB (show ∀ i,i < ms.length -> ∀ u ∈ (atU U i).us,nmF ms u < ms.length from fun i hi u hu=>by
  have hle:=zEi ms u
  by_cases e:nmF ms u < ms.length
  ·exact e
  ·refine absurd ⟨u,hu,fun j hj=>?_⟩ (h4 i hi)
   exact (Zz ms u).2 j (by omega))
 have HUL:=zB (show ∀ i,i < ms.length -> (atU U i).us.length <= 20001 from fun i hi=>(zCN (hUO.2 i hi)).1)
 have HE:=zB (show zC2 (w.alloc (.cells #[] 85)) w.heap.size n (.slice (some ⟨w.heap.size,0,none⟩) 0 0) [] by
  have:=World.ownsRow_lit (base:=w.heap.size) (e:=85) (size:=1) w #[] 0 (Nat.le_refl _) (Nat.zero_le _) rfl
  simpa [zC2,zAS] using this)
 rw [<- hnn] at HNM HIN HUL HVL hn ⊢
 have HNN:=zB hnn
 clear hi0 hz0 hz1 hz2 hM hOV hUA hUO hvl h4 hmk hnn
 go_enter Tryz.func48,Tryz.ntmps48
 go_wp2
 -- the single steps
 go_loopw [6,7] (fun out i wr=>∃ (k g c:Nat) (rs:List Nat),k <= n /\ i = .int .i64 (k:Int) /\ out = .slice (some ⟨g,0,none⟩) rs.length c /\ rs.length <= k /\ Hid (rs.length = k) /\ Hid (zC2 wr w.heap.size n (.slice (some ⟨g,0,none⟩) rs.length c) rs) /\ Hid (zBD wr w.heap.size n (.slice (some ⟨g,0,none⟩) rs.length c) rs (zDA ms U)) /\ Below w.heap.size w wr) (fun _ i _=>n - (intOf i).toNat)
 case atStart=>exact ⟨0,w.heap.size,0,[],Nat.zero_le _,rfl,rfl,Nat.le_refl _,zB rfl,HE,zB ⟨fun i hi=>absurd hi (Nat.not_lt_zero i),fun i j hi=>absurd hi (Nat.not_lt_zero i),fun i hi=>absurd hi (Nat.not_lt_zero i)⟩,zC _ _⟩
 case round=>
  clear HE
  obtain ⟨k,g,c,rs,hk,rfl,rfl,hrl,HRK,HR,HMT,hbel⟩:=hrel
  obtain ⟨wo,rfl⟩:∃ wo,wo = wr:=⟨_,rfl⟩
  have hzr:=hbel.size
  by_cases hlt:k < n
  ·have hltI:(k:Int) < (n:Int):=by omega
   have hmkr:=(zA HMK) wo
   obtain ⟨us,hus⟩:∃ us,us = (atU U k).us:=⟨_,rfl⟩
   have HUS:=zB hus
   have hul:us.length <= 20001:=by rw [hus]; exact (zA HUL) k hlt
   have HINk:=zB (show ∀ u ∈ us,nmF ms u < n by rw [hus]; exact (zA HIN) k hlt)
   clear hus
   go_wp2_with fail
   clear hmkr
   obtain ⟨W1,hW1⟩:∃ W1,W1 = wo.alloc (.cells (madeCells #[.bool false] n) 4):=⟨_,rfl⟩
   have hbW1:Below wo.heap.size wo W1:=by rw [hW1]; exact zC _ _
   have HBR0:=zB (show zB1 W1 wo.heap.size n (fun _=>false) by rw [hW1]; exact zHS wo n)
   have HBW1:=zB (hbel.trans (hbW1.mono hzr))
   have HBWr:=zB hbW1
   have zW1:wo.heap.size + 1 <= W1.heap.size:=by rw [hW1]; simp
   rw [<- hW1]
   clear hW1 hbW1
   go_loopw [9] (fun i wr=>∃ q:Nat,q <= us.length /\ i = .int .i64 (q:Int) /\ Hid (zB1 wr wo.heap.size n (fun j=>(us.take q).any (fun u=>nmF ms u == j))) /\ Hid (zI W1 wr wo.heap.size)) (fun i _=>us.length - (intOf i).toNat)
   case atStart=>exact ⟨0,Nat.zero_le _,rfl,zB ((zA HBR0).congr (fun j _=>by simp)),zB (zI.refl _ _)⟩
   case round=>
    clear HBR0
    obtain ⟨q,hq,rfl,HB,HK⟩:=hrel
    have hbk:Below w.heap.size w wr:=(zA HBW1).trans ((zA HK).below (by omega) hzr)
    have hvk:k < vs.length:=by rw [zA HVL]; exact hlt
    obtain ⟨v0,_,_⟩:=((zA HOV).below hbk hgU) k hvk
    have hst:zj wr (atV vs k).vu us:=by
     have h:=((zA HUA).belowB hbk (Nat.le_refl _)).uses hvk
     rw [<- zA HUS] at h
     exact h
    by_cases hqlt:q < us.length
    ·have hqI:(q:Int) < (us.length:Int):=by omega
     obtain ⟨gw,cw,hv,hgw,hc⟩:=hst.lt (by omega)
     rw [hv] at v0
     obtain ⟨u,hu⟩:∃ u,us[q]? = some u:=⟨_,List.getElem?_eq_getElem hqlt⟩
     have k0:=hc q u hu
     have hum:u ∈ us:=List.mem_of_getElem? hu
     obtain ⟨m,hm⟩:∃ m,m = nmF ms u:=⟨_,rfl⟩
     have hmn:m < n:=by rw [hm]; exact (zA HINk) u hum
     have hmI:(m:Int) < (n:Int):=by omega
     have HCALL:=zB ((zA HNM) u wr (by omega) ((zA HM).below hbk))
     have hnm:nmI ms u = (m:Int):=by
      unfold nmI
      rw [<- hm,<- zA HNN,if_pos hmn]
     rw [hnm] at HCALL
     obtain ⟨b0,b1⟩:=(zA HB).2 m hmn
     have HBN:=zB (show zB1 (wr.setCell ⟨wo.heap.size,m,none⟩ (.bool true)) wo.heap.size n (fun j=>(us.take (q + 1)).any (fun u=>nmF ms u == j)) from ((zA HB).set hmn true).congr (fun j _=>by rw [zMx hu ms j,<- hm]))
     have HKN:=zB (show zI W1 (wr.setCell ⟨wo.heap.size,m,none⟩ (.bool true)) wo.heap.size from (zA HK).trans (zAl [.bool true] m wr))
     clear hc hst hu hum hm hnm hv HB HK
     go_wp2_with fail
     (with_reducible refine (zA HCALL).mono ?_)
     rintro e w2 ⟨rfl,hx⟩
     obtain rfl:=hx.symm
     clear hx HCALL
     go_wp2_with fail
     exact ⟨⟨q + 1,by omega,by go_num,HBN,HKN⟩,by simp [intOf]; omega⟩
    ·obtain ⟨aw,cw,hv,_⟩:=hst
     rw [hv] at v0
     have hqe:q = us.length:=by omega
     have HBF:=zB (show zB1 wr wo.heap.size n (zDA ms U k) by
      refine (zA HB).congr (fun j hj=>?_)
      rw [zMw (by rw [<- zA HNN]; exact hlt) (by rw [<- zA HNN]; exact hj),hqe,zA HUS])
     have HBk:=zB (show Below wo.heap.size wo wr from (zA HBWr).trans ((zA HK).below (by omega) (Nat.le_refl _)))
     have hzk:=(zA HBk).size
     have hg:=((zA HR).lt g rfl).2
     clear hv hqe HB
     go_wp2_with (at_builtin; refine wpList_append_own_at _ rfl (.tmp 45) (.tmp 47) 105 rfl w.heap.size 85 i0 _ 1 24 Tryz.underlying105 (zA HI) (zA HZ).1 (zA HZ).2.1 (zA HZ).2.2 rfl (by decide) _ rs.length (zAS n rs) rfl (((zA HR).below (zA HBk)).below (zC _ _)) ⟨wr.heap.size,0,none⟩ 1 1 (zAS n [wo.heap.size]) rfl rfl (fun j u hj=>zKH wr _ j u hj) (zI8 _ _) ?b1 ?b2 ?b3 ?next)
     case b1=>unfold maxLen; omega
     case b2=>omega
     case b3=>simp; omega
     case next=>
      intro v4 w4 hown4 hgrow4 hnil4 hat4
      have HO:=zB (show zC2 w4 w.heap.size n v4 (rs ++ [wo.heap.size]) by
       unfold zC2
       rw [zF4,List.length_append]
       exact hown4)
      have HM4:=zB (show zBD w4 w.heap.size n v4 (rs ++ [wo.heap.size]) (zDA ms U) from
       (zBD.push (zA HMT) ((zA HBk).alloc hzk _) hzr (fun q e=>by have e':g = q:=(by simpa [Value.ownBlock] using e); omega) ((zA HBF).below (zC _ _)) (Nat.le_refl _) hgrow4 (hat4.imp id (fun h=>⟨_,h,by simp⟩))).congr (fun i j _ _=>by
        by_cases e:i = rs.length
        ·rw [if_pos e,e,zA HRK]
        ·rw [if_neg e]))
      have hbel4:Below w.heap.size w w4:=(hbel.trans (((zA HBk).alloc hzk _).mono hzr)).grown hgrow4 (by simp; omega) (fun q hq=>((zA HR).lt q hq).1)
      obtain ⟨g4,c4,rfl⟩:∃ g4 c4,v4 = .slice (some ⟨g4,0,none⟩) (rs ++ [wo.heap.size]).length c4:=by
       obtain ⟨_,⟨_,h2⟩ | ⟨g',cap,cur,h1,_⟩⟩:=zA HO
       ·simp at h2
       ·exact ⟨g',cap,h1⟩
      obtain ⟨rs4,HLS⟩:∃ rs4,Hid (rs4 = rs ++ [wo.heap.size]):=⟨_,zB rfl⟩
      have e4:=zA HLS
      rw [<- e4] at HO HM4
      rw [<- e4]
      clear e4 hown4 hgrow4 hnil4 hat4 v0
      go_wp2_with fail
      refine ⟨⟨k + 1,g4,c4,rs4,by omega,by go_num,rfl,?_,zB ?_,HO,HM4,hbel4⟩,by simp [intOf]; omega⟩
      ·rw [zA HLS]; simp; omega
      ·have:=zA HRK; rw [zA HLS]; simp; omega
  ·have hkn:k = n:=by omega
   have HRN:=zB (show rs.length = n by have:=zA HRK; omega)
   have hrn1:rs.length <= n:=by omega
   have hrn2:n <= rs.length:=by have:=zA HRN; omega
   clear hkn HRK
   go_wp2_with fail
   -- ways are joined
   go_loopw [10] (fun im wr=>∃ m:Nat,m <= n /\ im = .int .i64 (m:Int) /\ Hid (zC2 wr w.heap.size n (.slice (some ⟨g,0,none⟩) rs.length c) rs) /\ Hid (zBD wr w.heap.size n (.slice (some ⟨g,0,none⟩) rs.length c) rs (wrN (zDA ms U) m)) /\ Below w.heap.size w wr) (fun im _=>n - (intOf im).toNat)
   case atStart=>exact ⟨0,Nat.zero_le _,rfl,HR,HMT,hbel⟩
   case round=>
    clear HR HMT hbel
    obtain ⟨m,hm,rfl,HR,HMT,hbel⟩:=hrel
    obtain ⟨wm,rfl⟩:∃ wm,wm = wr:=⟨_,rfl⟩
    by_cases hmlt:m < n
    ·have hmI:(m:Int) < (n:Int):=by omega
     have hmR:(m:Int) < (rs.length:Int):=by omega
     obtain ⟨M,hM⟩:∃ M,M = wrN (zDA ms U) m:=⟨_,rfl⟩
     rw [<- hM] at HMT
     have HMM:=zB hM
     clear hM
     go_wp2_with fail
     go_loopw [11] (fun ii wr=>∃ i:Nat,i <= n /\ ii = .int .i64 (i:Int) /\ Hid (zC2 wr w.heap.size n (.slice (some ⟨g,0,none⟩) rs.length c) rs) /\ Hid (zBD wr w.heap.size n (.slice (some ⟨g,0,none⟩) rs.length c) rs (prt M m i 0)) /\ Below w.heap.size w wr) (fun ii _=>n - (intOf ii).toNat)
     case atStart=>exact ⟨0,Nat.zero_le _,rfl,HR,zB ((zA HMT).congr (fun i j _ _=>(zLt M m i j).symm)),hbel⟩
     case round=>
      clear HR HMT hbel
      obtain ⟨i,hi,rfl,HR,HMT,hbel⟩:=hrel
      obtain ⟨wi,rfl⟩:∃ wi,wi = wr:=⟨_,rfl⟩
      by_cases hilt:i < n
      ·have hiI:(i:Int) < (n:Int):=by omega
       have hiR:(i:Int) < (rs.length:Int):=by omega
       go_wp2_with fail
       go_loopw [12] (fun jj wr=>∃ j:Nat,j <= n /\ jj = .int .i64 (j:Int) /\ Hid (zC2 wr w.heap.size n (.slice (some ⟨g,0,none⟩) rs.length c) rs) /\ Hid (zBD wr w.heap.size n (.slice (some ⟨g,0,none⟩) rs.length c) rs (prt M m i j)) /\ Below w.heap.size w wr) (fun jj _=>n - (intOf jj).toNat)
       case atStart=>exact ⟨0,Nat.zero_le _,rfl,HR,HMT,hbel⟩
       case round=>
        clear HR HMT hbel
        obtain ⟨j,hj,rfl,HR,HMT,hbel⟩:=hrel
        by_cases hjlt:j < n
        ·have hjI:(j:Int) < (n:Int):=by omega
         have c1:=(zA HR).cell (i:=i) (by omega)
         have c2:=(zA HR).cell (i:=m) (by omega)
         obtain ⟨b1,_⟩:=((zA HMT).1 i (by omega)).2 m hmlt
         obtain ⟨b2,_⟩:=((zA HMT).1 m (by omega)).2 j hjlt
         obtain ⟨b3,f3⟩:=((zA HMT).1 i (by omega)).2 j hjlt
         rw [zPz] at b1
         rw [zP0] at b2
         cases h1:M i m
         ·rw [h1] at b1
          have HN:=zB ((zA HMT).congr (fun i' j' _ _=>zMr M m i j (Or.inl h1) i' j'))
          clear HMT h1
          go_wp2_with fail
          exact ⟨⟨j + 1,by omega,by go_num,HR,HN,hbel⟩,by simp [intOf]; omega⟩
         ·rw [h1] at b1
          cases h2:M m j
          ·rw [h2] at b2
           have HN:=zB ((zA HMT).congr (fun i' j' _ _=>zMr M m i j (Or.inr h2) i' j'))
           clear HMT h1 h2
           go_wp2_with fail
           exact ⟨⟨j + 1,by omega,by go_num,HR,HN,hbel⟩,by simp [intOf]; omega⟩
          ·rw [h2] at b2
           have hri:=(zA HMT).2.2 i (by omega)
           have HN:=zB (((zA HMT).set (i:=i) (j:=j) (by omega) hjlt).congr (fun i' j' _ _=>zOR M m i j h1 h2 i' j'))
           have HRN2:=zB ((zA HR).grown (ze wr (atR rs i) j (.bool true)) (fun k e x=>hri.1 (e.trans x.symm)))
           have hbn:Below w.heap.size w (wr.setCell ⟨atR rs i,j,none⟩ (.bool true)):=hbel.setCell (p:=⟨atR rs i,j,none⟩) hri.2 _
           clear HMT HR h1 h2 hri
           go_wp2_with fail
           exact ⟨⟨j + 1,by omega,by go_num,HRN2,HN,hbn⟩,by simp [intOf]; omega⟩
        ·have hjn:j = n:=by omega
         have HN:=zB (show zBD wr w.heap.size n (.slice (some ⟨g,0,none⟩) rs.length c) rs (prt M m (i + 1) 0) from (zA HMT).congr (fun i' j' _ hj'=>by rw [hjn]; exact zOP M m i n i' j' hj'))
         clear HMT hjn
         go_wp2_with fail
         exact ⟨⟨i + 1,by omega,by go_num,HR,HN,hbel⟩,by simp [intOf]; omega⟩
      ·have hin:i = n:=by omega
       have HN:=zB (show zBD wi w.heap.size n (.slice (some ⟨g,0,none⟩) rs.length c) rs (wrN (zDA ms U) (m + 1)) from (zA HMT).congr (fun i' j' hi' _=>by
        show _ = wr1 (wrN (zDA ms U) m) m i' j'
        rw [hin,<- zA HMM]
        exact zOQ M m n i' j' (by omega)))
       clear HMT hin
       go_wp2_with fail
       exact ⟨⟨m + 1,by omega,by go_num,HR,HN,hbel⟩,by simp [intOf]; omega⟩
    ·have hmn:m = n:=by omega
     have HF:=zB (show ∀ i,i < n -> zB1 wm (atR rs i) n (wrN (zDA ms U) n i) from fun i hi=>by
      have:=(zA HMT).1 i (by omega)
      rw [hmn] at this
      exact this)
     have HC:=zB (show ∀ i,i < n -> wm.cell? ⟨g,i,none⟩ = some (.slice (some ⟨atR rs i,0,none⟩) n n) from fun i hi=>(zA HR).cell (by omega))
     have hg:=(zA HR).lt g rfl
     have HRE:=zB (show Value.slice (some ⟨g,0,none⟩) rs.length c = Value.slice (some ⟨g,0,none⟩) n c by rw [zA HRN])
     clear HMT hmn HR
     go_wp2_with fail
     go_ret
     exact ⟨g,c,rs,congrArg Ending.returned (zA HRE),hg.1,hg.2,HC,HF,hbel⟩
end Go.Proofs.YtokabkhnidlcnacGreatDoor
namespace Go.Proofs.YtokabkhnidlcnacGreatDoor
set_option maxHeartbeats 16000000
set_option maxRecDepth 100000
open Go.RowKit
theorem zJF (w:World) (o1 o2 o3:Obj):((((w.alloc o1).alloc o2).alloc o3).alloc (.cells #[] 41)).ownsRow (w.heap.size + 3) 41 4 (.slice (some ⟨w.heap.size + 1 + 1 + 1,0,none⟩) 0 0) 0 []:=by
 have h:=World.ownsRow_lit (base:=w.heap.size + 3) (e:=41) (size:=4) (((w.alloc o1).alloc o2).alloc o3) #[] 0 (by simp) (Nat.zero_le _) rfl
 simpa using h
end Go.Proofs.YtokabkhnidlcnacGreatDoor
namespace Go.Proofs.YtokabkhnidlcnacGreatDoor
set_option linter.unusedSimpArgs false
set_option linter.unusedVariables false
set_option maxHeartbeats 16000000
set_option maxRecDepth 100000
open Go.RowKit
theorem zLG {w:World} {ops:Array Oper} {rest:List Oper} {o:Oper} {a:Act} {Q:Exit -> Act -> World -> Prop} (hgd:o.guard = none) (s x:Operand) (ho:o.op = .call { callee:=.builtin .append,args:=#[s,x],argTypes:=#[59,59] })
  (base g c:Nat) (xs ys:List OpR) (v2:Value) (hs:a.eval s = .slice (some ⟨g,0,none⟩) xs.length c) (hown:w.ownsRow base 41 4 (.slice (some ⟨g,0,none⟩) xs.length c) xs.length (zP xs)) (hx:a.eval x = v2) (h2:ZC w v2 ys) (hm:xs.length + ys.length <= 1048576) (hbase:base <= w.heap.size)
  (h:∀ g' c' w',w'.ownsRow base 41 4 (.slice (some ⟨g',0,none⟩) (xs ++ ys).length c') (xs ++ ys).length (zP (xs ++ ys)) -> w.grownBy w' (some g) -> wpList Tryz.prog ops Q rest (a.put o.dst (.slice (some ⟨g',0,none⟩) (xs ++ ys).length c')) w'):wpList Tryz.prog ops Q (o :: rest) a w:=by
 obtain ⟨i0,hi,hz0,hz1,hz2⟩:=zQ zD1
 obtain ⟨a2,c2,rfl,⟨h0,rfl,rfl⟩ | ⟨g2,rfl,hg2,hops⟩⟩:=h2
 ·have hy:ys = []:=List.length_eq_zero_iff.1 h0
  subst hy
  refine wpList_append_own_none hgd s x 59 ho base 41 i0 4 Tryz.underlying59 hi _ xs.length (zP xs) hs hown hx ?_
  have:=h g c w (by simpa using hown) (zF (Below.refl _ _) _)
  simpa using this
 ·refine wpList_append_own w hgd s x 59 ho base 41 i0 _ 4 40 Tryz.underlying59 hi hz0 hz1 hz2 rfl (by decide) _ xs.length (zP xs) hs hown ⟨g2,0,none⟩ ys.length c2 (zP ys) hx (zCe ys) (zMb hops) (ZT ys) (by unfold maxLen; omega) (by omega) hbase ?_
  intro v' w' hown' hg' hnil
  obtain ⟨g',c',rfl⟩:=zCf hown' (by simp [hnil])
  rw [<- Z0,<- List.length_append] at hown'
  have:=h g' c' w' hown' (by simpa [Value.ownBlock] using hg')
  rw [<- List.length_append]
  exact this
theorem zEA (v v':Value) (xs ys zs:List OpR) (HZS:Hid (zs = xs ++ ys)) (w:World) (hm:xs.length + ys.length <= 1048576) (hx:ZC w v xs) (hy:ZC w v' ys) :
  Calls Tryz.prog 80 #[.agg #[v],.agg #[v']] w fun e w'=>(∃ h cap,e = .returned (.agg #[.slice (some ⟨h,0,none⟩) (zAC zs zs.length).length cap]) /\ w.heap.size <= h /\ zDj w' h (zAC zs zs.length) (zAC zs zs.length).length) /\ Below w.heap.size w w':=by
 obtain ⟨i0,hi,hz0,hz1,hz2⟩:=zQ zD1
 have ho0:=zJF w
 have HX:=zB (show ∀ o1 o2 o3 o4,ZC ((((w.alloc o1).alloc o2).alloc o3).alloc o4) v xs from fun o1 o2 o3 o4=>hx.grown (row:=none) (zF ((((zC w o1).alloc (by simp) o2).alloc (by simp; omega) o3).alloc (by simp; omega) o4) none) (fun g _ e=>by cases e))
 have HO:=zB ho0
 have HY:=zB hy
 have HI:=zB hi
 have HZ:=zB (And.intro hz0 (And.intro hz1 hz2))
 have hxv:=hx
 have hyv:=hy
 obtain ⟨a1,c1,rfl,_⟩:=hxv
 obtain ⟨a2,c2,rfl,_⟩:=hyv
 clear ho0 hx hy hi hz0 hz1 hz2
 go_enter Tryz.func80,Tryz.ntmps80
 go_wp2_with (at_builtin; refine zLG rfl (.tmp 9) (.tmp 11) rfl (w.heap.size + 3) _ _ [] xs _ rfl (zA HO _ _ _) rfl (zA HX _ _ _ _) (by simp; omega) (by simp) ?next)
 case next=>
  intro ga ca w1 hown1 hgrow1
  try simp only [List.nil_append] at hown1
  try simp only [List.nil_append]
  have hb1:Below (w.heap.size + 3) _ w1:=zE7 hgrow1 (by simp) (fun k hk=>by simp at hk; omega)
  have hbw:Below w.heap.size w w1:=((((zC _ _).alloc (by simp) _).alloc (by simp; omega) _).alloc (by simp; omega) _).trans (hb1.mono (by omega))
  have d1:w1.cell? ⟨w.heap.size + 1,0,none⟩ = some (.slice a2 ys.length c2):=by rw [hb1.cell (p:=⟨w.heap.size + 1,0,none⟩) (show w.heap.size + 1 < _ by omega)]; simp [go_sem]
  have d2:w1.cell? ⟨w.heap.size + 1 + 1,0,none⟩ = some (.slice none 0 0):=by rw [hb1.cell (p:=⟨w.heap.size + 1 + 1,0,none⟩) (show w.heap.size + 1 + 1 < _ by omega)]; simp [go_sem]
  have d3:w1.frozen? ⟨w.heap.size + 1 + 1,0,none⟩ = false:=by rw [hb1.frozen (p:=⟨w.heap.size + 1 + 1,0,none⟩) (show w.heap.size + 1 + 1 < _ by omega)]; simp [go_sem]
  have z1:w.heap.size + 3 <= w1.heap.size:=by have:=hb1.size; simp at this; omega
  have hga:=(hown1.lt ga rfl).1
  have HOW:=zB hown1
  have HY1:=zB ((zA HY).grown (row:=none) (zF hbw none) (fun g _ e=>by cases e))
  clear hown1 hgrow1 hb1 HY HX HO
  go_wp2_with (at_builtin; refine zLG rfl (.tmp 13) (.tmp 15) rfl (w.heap.size + 3) ga ca xs ys _ rfl (zA HOW) rfl (zA HY1) hm z1 ?next)
  case next=>
   intro gb cb w2 hown2 hgrow2
   have hb2:Below (w.heap.size + 3) w1 w2:=zE7 hgrow2 z1 (fun k hk=>by injection hk with hk; omega)
   have hbw2:Below w.heap.size w w2:=hbw.trans (hb2.mono (by omega))
   have e2:w2.cell? ⟨w.heap.size + 1 + 1,0,none⟩ = some (.slice none 0 0):=(hb2.cell (p:=⟨w.heap.size + 1 + 1,0,none⟩) (show w.heap.size + 1 + 1 < _ by omega)).trans d2
   have e3:w2.frozen? ⟨w.heap.size + 1 + 1,0,none⟩ = false:=(hb2.frozen (p:=⟨w.heap.size + 1 + 1,0,none⟩) (show w.heap.size + 1 + 1 < _ by omega)).trans d3
   have z2:w.heap.size + 3 <= w2.heap.size:=Nat.le_trans z1 hb2.size
   have hzl:zs.length <= 1048576:=by rw [zA HZS]; simp; omega
   have hlen:xs.length + ys.length = zs.length:=by rw [zA HZS]; simp
   rw [hlen]
   rw [<- zA HZS,hlen] at hown2
   clear hlen
   obtain ⟨hgb,hfil⟩:=zC3 hown2
   obtain ⟨hcap,hcap2⟩:=zMc hown2
   have HF:=zB hfil
   have hgbl:=hfil.1
   have ho2:(w2.alloc (.cells #[] 41)).ownsRow w2.heap.size 41 4 (.slice (some ⟨w2.heap.size,0,none⟩) 0 0) 0 (zP []):=by
    rw [zJ9]
    simpa using World.ownsRow_lit (base:=w2.heap.size) (e:=41) (size:=4) w2 #[] 0 (Nat.le_refl _) (Nat.zero_le _) rfl
   have HO2:=zB ho2
   clear hown2 hgrow2 hb2 HOW HY1 d1 d2 d3 hga hm hfil ho2 hbw z1
   go_wp2_with fail
   go_loopw [6,7] (fun out i wr=>∃ (k go co:Nat),k <= zs.length /\ i = .int .i64 (k:Int) /\ out = .slice (some ⟨go,0,none⟩) (zAC zs k).length co /\ Hid (wr.ownsRow w2.heap.size 41 4 (.slice (some ⟨go,0,none⟩) (zAC zs k).length co) (zAC zs k).length (zP (zAC zs k))) /\ Below w2.heap.size w2 wr) (fun _ i _=>zs.length - (intOf i).toNat)
   case atStart=>exact ⟨0,w2.heap.size,0,Nat.zero_le _,rfl,rfl,HO2,zC _ _⟩
   case round=>
    clear HO2
    obtain ⟨k,go,co,hk,rfl,rfl,hown,hbel⟩:=hrel
    by_cases hlt:k < zs.length
    ·have hops:=(zA HF).ops.below hbel (zA HF).1
     obtain ⟨a0,a1,a2,a3⟩:=hops k hlt
     simp only [Nat.zero_add] at a0 a1 a2 a3
     have hltI:(k:Int) < (zs.length:Int):=by omega
     have hkcb:(k:Int) <= (cb:Int):=by omega
     have zgb:gb < wr.heap.size:=Nat.lt_of_lt_of_le hgbl hbel.size
     have HOPS:=zB hops
     clear hops
     go_wp2_with fail
     go_region_held (fun w'=>w'.cell? ⟨gb,k * 4,none⟩ = some (.string (atO zs k).s) /\ w'.cell? ⟨gb,k * 4 + 1,none⟩ = some (.int .i64 (atO zs k).k) /\ w'.cell? ⟨gb,k * 4 + 2,none⟩ = some (.int .i64 (atO zs k).l) /\ w'.cell? ⟨gb,k * 4 + 3,none⟩ = some (.int .i64 (atO zs k).sd)) (go_keep)
      (first | (go_at_call 35; refine (zLn gb _ k zs (atO zs k) _ hzl (by omega) (show Ops wr.drew gb 0 zs from zA HOPS) zgb).mono ?_; rintro e w3 ⟨⟨v,rfl,hv⟩,hb3⟩; have HV:=zB hv; have HB3:=zB ((Below.refl wr.heap.size wr).drew.trans hb3); have q0:=(hb3.cell (p:=⟨gb,k * 4,none⟩) zgb).trans (show wr.drew.cell? ⟨gb,k * 4,none⟩ = _ from a0); have q1:=(hb3.cell (p:=⟨gb,k * 4 + 1,none⟩) zgb).trans (show wr.drew.cell? ⟨gb,k * 4 + 1,none⟩ = _ from a1); have q2:=(hb3.cell (p:=⟨gb,k * 4 + 2,none⟩) zgb).trans (show wr.drew.cell? ⟨gb,k * 4 + 2,none⟩ = _ from a2); have q3:=(hb3.cell (p:=⟨gb,k * 4 + 3,none⟩) zgb).trans (show wr.drew.cell? ⟨gb,k * 4 + 3,none⟩ = _ from a3); clear hv hb3))
     have hbel3:=hbel.trans ((zA HB3).mono hbel.size)
     have hown3:=zB ((zA hown).kept (w':=w3) (row:=none) ⟨(zA HB3).os,(zA HB3).tape,(zA HB3).output,(zA HB3).size,fun i hi _=>(zA HB3).block i hi⟩ (Or.inr (by simp [Value.ownBlock])))
     have hul:=zK6 zs k
     clear hown HB3 hbel a0 a1 a2 a3
     cases v
     ·have hmi:=zB (zIr (fun h=>Bool.false_ne_true ((zA HV).2 h)))
      clear HV
      go_wp2_with (at_builtin; refine wpList_append_own _ rfl (.tmp 33) (.tmp 38) 59 rfl w2.heap.size 41 i0 _ 4 40 Tryz.underlying59 (zA HI) (zA HZ).1 (zA HZ).2.1 (zA HZ).2.2 rfl (by decide) _ (zAC zs k).length (zP (zAC zs k)) rfl ((zA hown3).alloc _) ⟨w3.heap.size,0,none⟩ 1 1 (zP [atO zs k]) rfl rfl (zAh w3 (atO zs k)) (ZT _) ?b1 ?b2 ?b3 ?next)
      case b1=>unfold maxLen; omega
      case b2=>omega
      case b3=>have:=hbel3.size; simp; omega
      case next=>
       intro v4 w4 hown4 hgrow4 hnil4
       have hgo:=(zA hown3).lt go rfl
       have hbel4:Below w2.heap.size w2 w4:=(hbel3.alloc hbel3.size _).grown hgrow4 (by have:=hbel3.size; simp; omega) (fun q hq=>by simp [Value.ownBlock] at hq; omega)
       obtain ⟨g4,c4,rfl⟩:=zCf hown4 (by simp [hnil4])
       have hlen4:(zAC zs (k + 1)).length = (zAC zs k).length + 1:=by rw [zA hmi]; simp
       rw [<- Z0,<- zA hmi,<- hlen4] at hown4
       have HW4:=zB hown4
       rw [<- hlen4]
       clear hown4 hgrow4 hnil4 hown3 hlen4 hmi
       go_wp2
       exact ⟨⟨k + 1,g4,c4,by omega,by go_num,rfl,HW4,hbel4⟩,by simp [intOf]; omega⟩
     ·have hhi:=zB (zK5 ((zA HV).1 rfl))
      clear HV
      go_wp2
      refine ⟨⟨k + 1,go,co,by omega,by go_num,?_,?_,hbel3⟩,by simp [intOf]; omega⟩
      ·rw [zA hhi]
      ·rw [zA hhi]; exact hown3
    ·have hkz:k = zs.length:=by omega
     have c2:wr.cell? ⟨w.heap.size + 1 + 1,0,none⟩ = some (.slice none 0 0):=(hbel.cell (p:=⟨w.heap.size + 1 + 1,0,none⟩) (show w.heap.size + 1 + 1 < _ by omega)).trans e2
     have c3:wr.frozen? ⟨w.heap.size + 1 + 1,0,none⟩ = false:=(hbel.frozen (p:=⟨w.heap.size + 1 + 1,0,none⟩) (show w.heap.size + 1 + 1 < _ by omega)).trans e3
     obtain ⟨hgo,hfo⟩:=zC3 (zA hown)
     have HFO:=zB hfo
     have HKZ:=zB hkz
     clear hfo hown hkz e2 e3
     go_wp2
     have hkz:=zA HKZ
     subst hkz
     refine bodyPost_ret (v:=.agg #[.slice (some ⟨go,0,none⟩) (zAC zs zs.length).length co]) (by simp [results,Tryz.results80,go_sem,c2]) rfl ⟨⟨go,co,rfl,by omega,?_⟩,?_⟩
     ·exact (zA HFO).setCell _ _ (by simp; omega)
     ·exact (hbw2.trans (hbel.mono (by omega))).setCell (by simp; omega) _
end Go.Proofs.YtokabkhnidlcnacGreatDoor
