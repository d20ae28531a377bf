import Derived.Deep.RegionHeldLaw
import Derived.Maps.RangeWalk
import Derived.Defers
import Derived.Recover
import Derived.Laws.Pointers
import Derived.Test.YtgiemobdmbijiaaGreatDoorN02
import Derived.Test.YtgiemobdmbijiaaGreatDoorN08
import Derived.Test.YtgiemobdmbijiaaGreatDoorN12
import Derived.Test.YtgiemobdmbijiaaGreatDoorN13
import Derived.Test.YtgiemobdmbijiaaGreatDoorN32
import Derived.Test.YtgiemobdmbijiaaGreatDoorN34
import Derived.Test.YtgiemobdmbijiaaGreatDoorN37
import Derived.Test.YtgiemobdmbijiaaGreatDoorN39
namespace Go.Proofs.YtgiemobdmbijiaaGreatDoor
set_option linter.unusedSimpArgs false
set_option linter.unusedVariables false
set_option maxHeartbeats 16000000
set_option maxRecDepth 100000
open Go.RowKit
theorem zH9 {H:List Int} {k:Nat} (h:k < H.length):H.take (k + 1) = H.take k ++ [atI H k]:=by
 rw [List.take_add_one]
 simp [atI,List.getD,h]
theorem zJL {H:List Int} {i k:Nat} (h:i < k):atI (H.take k) i = atI H i:=by
 simp [atI,List.getD,List.getElem?_take,h]
theorem zIA (bn cn:Nat) (ns:List zD) (H:List Int) (w:World) (hw:zAs w bn 0 ns) (hB:bn < w.heap.size) (hl:ns.length <= 100000) (h1:1 <= ns.length) (hH:H.length = ns.length) (hat:∀ i,i < ns.length -> zMu (atN ns i) H 0 i) (hbd:∀ i,i < ns.length -> 0 <= atI H i /\ atI H i <= 100000) :
  Calls Tryz.prog 88 #[.agg #[.slice (some ⟨bn,0,none⟩) ns.length cn]] w fun e w'=>e = .returned (.int .i64 (atI H (ns.length - 1))) /\ Below w.heap.size w w':=by
 obtain ⟨i0,hi0,hz0,hz1,hz2⟩:=info_parts zOC
 have HI0:=zB hi0
 have HZ0:=zB (And.intro hz0 (And.intro hz1 hz2))
 have HW:=zB hw
 have HAT:=zB hat
 have HBD:=zB hbd
 have HLN:=zB hH
 clear hi0 hz0 hz1 hz2 hw hat hbd hH
 have HO:=zB (show ((w.alloc (.cells #[.slice (some ⟨bn,0,none⟩) ns.length cn] 97)).alloc (.cells #[] 3)).ownsRow (w.heap.size + 1) 3 1 (.slice (some ⟨w.heap.size + 1,0,none⟩) 0 0) 0 (zt []) by
  have h0:=World.ownsRow_lit (base:=w.heap.size + 1) (e:=3) (size:=1) (w.alloc (.cells #[.slice (some ⟨bn,0,none⟩) ns.length cn] 97)) #[] 0 (by simp) (Nat.zero_le _) rfl
  simpa [zt] using h0)
 have hb0:Below (w.heap.size + 1) (w.alloc (.cells #[.slice (some ⟨bn,0,none⟩) ns.length cn] 97)) ((w.alloc (.cells #[.slice (some ⟨bn,0,none⟩) ns.length cn] 97)).alloc (.cells #[] 3)):=(zC _ _).mono (by simp)
 go_enter Tryz.func88,Tryz.ntmps88
 go_wp2_with fail
 go_loopw [3,4] (fun hv iv wr=>∃ (k go co:Nat),k <= ns.length /\ iv = .int .i64 (k:Int) /\ hv = .slice (some ⟨go,0,none⟩) k co /\ Hid (wr.ownsRow (w.heap.size + 1) 3 1 (.slice (some ⟨go,0,none⟩) k co) k (zt (H.take k))) /\ Hid (Below (w.heap.size + 1) (w.alloc (.cells #[.slice (some ⟨bn,0,none⟩) ns.length cn] 97)) wr) /\ w.heap.size + 1 < wr.heap.size) (fun _ iv _=>ns.length - (intOf iv).toNat)
 case atStart=>exact ⟨0,w.heap.size + 1,0,Nat.zero_le _,rfl,rfl,HO,zB hb0,by simp⟩
 case round=>
  clear HO hb0
  obtain ⟨k,go,co,hk,rfl,rfl,hown,hbel,hz⟩:=hrel
  have tc:wr.cell? ⟨w.heap.size,0,none⟩ = some (.slice (some ⟨bn,0,none⟩) ns.length cn):=by
   rw [(zA hbel).cell (p:=⟨w.heap.size,0,none⟩) (show w.heap.size < _ by omega)]; simp [go_sem]
  have hbw:Below w.heap.size w wr:=(zC _ _).trans ((zA hbel).mono (by omega))
  have HFI:=zB (show zFU wr go (H.take k) (H.take k).length by
   have hlk:(H.take k).length = k:=by rw [List.length_take,zA HLN]; omega
   have ho:=zA hown
   refine (zEG (base:=w.heap.size + 1) (cap:=co) (e:=3) ?_).2
   rw [hlk]; exact ho)
  have hlk:(H.take k).length = k:=by rw [List.length_take,zA HLN]; omega
  have HLK:=zB hlk
  have hgo:=(zA hown).lt go rfl
  have HGO:=zB hgo
  by_cases hlt:k < ns.length
  ·have hltI:(k:Int) < (ns.length:Int):=by omega
   obtain ⟨a0,a1,a2,a3⟩:=((zA HW) k hlt).below hbw hB
   rw [Nat.zero_add] at a0 a1 a2 a3
   have hb1:=(zA HBD) k hlt
   have hbn:bn < wr.heap.size:=by have:=hbw.size; omega
   have HTK:=zB (zH9 (H:=H) (k:=k) (by rw [zA HLN]; exact hlt))
   have HCL:=zB (show ∀ i,i < k -> wr.cell? ⟨go,i,none⟩ = some (.int .i64 (atI H i)) from fun i hi=>by
    have:=(zA HFI).2.2 i (by rw [zA HLK]; exact hi)
    rw [this,zJL hi])
   rcases (zA HAT) k hlt with ⟨k0,e⟩ | ⟨k1,a,e1,e2,e3⟩ | ⟨k2,a,c,e1,e2,e3,e4,e5⟩
   ·have HKK:=zB k0
    have HVE:=zB e
    clear k0 e
    go_wp2_with (first | (go_at_call 83; refine (zN (zA HKK) 0 rfl _).mono ?_; rintro e w' ⟨rfl,hx⟩; obtain rfl:=hx.symm) | (at_builtin; refine wpList_append_own _ rfl (.tmp 47) (.tmp 50) 127 rfl (w.heap.size + 1) 3 i0 _ 1 8 Tryz.underlying127 (zA HI0) (zA HZ0).1 (zA HZ0).2.1 (zA HZ0).2.2 rfl (by decide) _ k (zt (H.take k)) rfl (((zA hown).alloc _).alloc _) ⟨wr.heap.size + 1,0,none⟩ 1 1 (zt [1]) rfl rfl (by simpa using zDF (wr.alloc (.cells #[.int .i64 (atN ns k).k,.string (atN ns k).t,.int .i64 (atN ns k).a,.int .i64 (atN ns k).b] 120)) (1)) (zBi _) ?b1 ?b2 ?b3 ?next))
    case b1=>unfold maxLen; omega
    case b2=>omega
    case b3=>simp; omega
    case next=>
     intro v4 w4 hown4 hgrow4 hnil4
     have hbel4:Below (w.heap.size + 1) (w.alloc (.cells #[.slice (some ⟨bn,0,none⟩) ns.length cn] 97)) w4:=(((zA hbel).alloc (by omega) _).alloc (by simp; omega) _).grown hgrow4 (by simp; omega) (fun q hq=>by have:=(zA HGO).1; simp [Value.ownBlock] at hq; omega)
     have z4:w.heap.size + 1 < w4.heap.size:=by have:=hgrow4.size; simp at this; omega
     obtain ⟨g4,c4,rfl⟩:=ZS hown4 (by simp [hnil4])
     rw [<- zAf,<- zA HVE,<- zA HTK] at hown4
     have HO4:=zB hown4
     have HB4:=zB hbel4
     clear hown4 hgrow4 hnil4 hbel4
     go_wp2_with fail
     exact ⟨⟨k + 1,g4,c4,by omega,by go_num,rfl,HO4,HB4,z4⟩,by simp [intOf]; omega⟩
   ·have HKK:=zB k1
    have HVE:=zB e3
    rw [Nat.zero_add] at e1
    have ca:=(zA HCL) a e2
    have hgl:go < wr.heap.size:=(zA HGO).2
    have hgn:go ≠ wr.heap.size:=by omega
    have hba:=(zA HBD) a (by omega)
    obtain ⟨hba1,hba2⟩:=hba
    have haI:(a:Int) < (k:Int):=by omega
    rw [e1] at a2
    clear k1 e3 e1
    go_wp2_with (first | (go_at_call 83; refine (zN (zA HKK) 1 rfl _).mono ?_; rintro e w' ⟨rfl,hx⟩; obtain rfl:=hx.symm) | (at_builtin; refine wpList_append_own _ rfl (.tmp 47) (.tmp 50) 127 rfl (w.heap.size + 1) 3 i0 _ 1 8 Tryz.underlying127 (zA HI0) (zA HZ0).1 (zA HZ0).2.1 (zA HZ0).2.2 rfl (by decide) _ k (zt (H.take k)) rfl (((zA hown).alloc _).alloc _) ⟨wr.heap.size + 1,0,none⟩ 1 1 (zt [atI H a + 1]) rfl rfl (by simpa using zDF (wr.alloc (.cells #[.int .i64 (atN ns k).k,.string (atN ns k).t,.int .i64 (a:Int),.int .i64 (atN ns k).b] 120)) (atI H a + 1)) (zBi _) ?b1 ?b2 ?b3 ?next))
    case b1=>unfold maxLen; omega
    case b2=>omega
    case b3=>simp; omega
    case next=>
     intro v4 w4 hown4 hgrow4 hnil4
     have hbel4:Below (w.heap.size + 1) (w.alloc (.cells #[.slice (some ⟨bn,0,none⟩) ns.length cn] 97)) w4:=(((zA hbel).alloc (by omega) _).alloc (by simp; omega) _).grown hgrow4 (by simp; omega) (fun q hq=>by have:=(zA HGO).1; simp [Value.ownBlock] at hq; omega)
     have z4:w.heap.size + 1 < w4.heap.size:=by have:=hgrow4.size; simp at this; omega
     obtain ⟨g4,c4,rfl⟩:=ZS hown4 (by simp [hnil4])
     rw [<- zAf,<- zA HVE,<- zA HTK] at hown4
     have HO4:=zB hown4
     have HB4:=zB hbel4
     clear hown4 hgrow4 hnil4 hbel4
     go_wp2_with fail
     exact ⟨⟨k + 1,g4,c4,by omega,by go_num,rfl,HO4,HB4,z4⟩,by simp [intOf]; omega⟩
   ·have HKK:=zB k2
    rw [Nat.zero_add] at e1 e2
    have ca:=(zA HCL) a e3
    have cc:=(zA HCL) c e4
    have hgl:go < wr.heap.size:=(zA HGO).2
    have hgn:go ≠ wr.heap.size:=by omega
    obtain ⟨hba1,hba2⟩:=(zA HBD) a (by omega)
    obtain ⟨hbc1,hbc2⟩:=(zA HBD) c (by omega)
    have haI:(a:Int) < (k:Int):=by omega
    have hcI:(c:Int) < (k:Int):=by omega
    rw [e1] at a2
    rw [e2] at a3
    by_cases hg:atI H a < atI H c
    ·have HVE:=zB (show atI H k = atI H c + 1 by omega)
     clear k2 e5 e1 e2 hb1
     go_wp2_with (first | (go_at_call 83; refine (zN (zA HKK) 2 rfl _).mono ?_; rintro e w' ⟨rfl,hx⟩; obtain rfl:=hx.symm) | (at_builtin; refine wpList_append_own _ rfl (.tmp 47) (.tmp 50) 127 rfl (w.heap.size + 1) 3 i0 _ 1 8 Tryz.underlying127 (zA HI0) (zA HZ0).1 (zA HZ0).2.1 (zA HZ0).2.2 rfl (by decide) _ k (zt (H.take k)) rfl (((zA hown).alloc _).alloc _) ⟨wr.heap.size + 1,0,none⟩ 1 1 (zt [atI H c + 1]) rfl rfl (by simpa using zDF (wr.alloc (.cells #[.int .i64 (atN ns k).k,.string (atN ns k).t,.int .i64 (a:Int),.int .i64 (c:Int)] 120)) (atI H c + 1)) (zBi _) ?b1 ?b2 ?b3 ?next))
     case b1=>unfold maxLen; omega
     case b2=>omega
     case b3=>simp; omega
     case next=>
      intro v4 w4 hown4 hgrow4 hnil4
      have hbel4:Below (w.heap.size + 1) (w.alloc (.cells #[.slice (some ⟨bn,0,none⟩) ns.length cn] 97)) w4:=(((zA hbel).alloc (by omega) _).alloc (by simp; omega) _).grown hgrow4 (by simp; omega) (fun q hq=>by have:=(zA HGO).1; simp [Value.ownBlock] at hq; omega)
      have z4:w.heap.size + 1 < w4.heap.size:=by have:=hgrow4.size; simp at this; omega
      obtain ⟨g4,c4,rfl⟩:=ZS hown4 (by simp [hnil4])
      rw [<- zAf,<- zA HVE,<- zA HTK] at hown4
      have HO4:=zB hown4
      have HB4:=zB hbel4
      clear hown4 hgrow4 hnil4 hbel4
      go_wp2_with fail
      exact ⟨⟨k + 1,g4,c4,by omega,by go_num,rfl,HO4,HB4,z4⟩,by simp [intOf]; omega⟩
    ·have HVE:=zB (show atI H k = atI H a + 1 by omega)
     clear k2 e5 e1 e2 hb1
     go_wp2_with (first | (go_at_call 83; refine (zN (zA HKK) 2 rfl _).mono ?_; rintro e w' ⟨rfl,hx⟩; obtain rfl:=hx.symm) | (at_builtin; refine wpList_append_own _ rfl (.tmp 47) (.tmp 50) 127 rfl (w.heap.size + 1) 3 i0 _ 1 8 Tryz.underlying127 (zA HI0) (zA HZ0).1 (zA HZ0).2.1 (zA HZ0).2.2 rfl (by decide) _ k (zt (H.take k)) rfl (((zA hown).alloc _).alloc _) ⟨wr.heap.size + 1,0,none⟩ 1 1 (zt [atI H a + 1]) rfl rfl (by simpa using zDF (wr.alloc (.cells #[.int .i64 (atN ns k).k,.string (atN ns k).t,.int .i64 (a:Int),.int .i64 (c:Int)] 120)) (atI H a + 1)) (zBi _) ?b1 ?b2 ?b3 ?next))
     case b1=>unfold maxLen; omega
     case b2=>omega
     case b3=>simp; omega
     case next=>
      intro v4 w4 hown4 hgrow4 hnil4
      have hbel4:Below (w.heap.size + 1) (w.alloc (.cells #[.slice (some ⟨bn,0,none⟩) ns.length cn] 97)) w4:=(((zA hbel).alloc (by omega) _).alloc (by simp; omega) _).grown hgrow4 (by simp; omega) (fun q hq=>by have:=(zA HGO).1; simp [Value.ownBlock] at hq; omega)
      have z4:w.heap.size + 1 < w4.heap.size:=by have:=hgrow4.size; simp at this; omega
      obtain ⟨g4,c4,rfl⟩:=ZS hown4 (by simp [hnil4])
      rw [<- zAf,<- zA HVE,<- zA HTK] at hown4
      have HO4:=zB hown4
      have HB4:=zB hbel4
      clear hown4 hgrow4 hnil4 hbel4
      go_wp2_with fail
      exact ⟨⟨k + 1,g4,c4,by omega,by go_num,rfl,HO4,HB4,z4⟩,by simp [intOf]; omega⟩
  ·have hltI:¬ (k:Int) < (ns.length:Int):=by omega
   have e:k = ns.length:=by omega
   subst e
   have hlast:=(zA HFI).2.2 (ns.length - 1) (by rw [zA HLK]; omega)
   rw [zJL (by omega)] at hlast
   have ec:((ns.length:Int) - 1) = ((ns.length - 1:Nat):Int):=by omega
   have hs1:((ns.length:Int) - 1) < (ns.length:Int):=by omega
   have hs0:(0:Int) <= (ns.length:Int) - 1:=by omega
   have et:((ns.length:Int) - 1).toNat = ns.length - 1:=by omega
   go_wp2_with fail
   go_ret
   exact ⟨rfl,hbw⟩
end Go.Proofs.YtgiemobdmbijiaaGreatDoor
namespace Go.Proofs.YtgiemobdmbijiaaGreatDoor
set_option linter.unusedSimpArgs false
set_option linter.unusedVariables false
set_option maxHeartbeats 16000000
set_option maxRecDepth 100000
open Go.RowKit Go.Maps
end Go.Proofs.YtgiemobdmbijiaaGreatDoor
namespace Go.Proofs.YtgiemobdmbijiaaGreatDoor
set_option linter.unusedSimpArgs false
set_option linter.unusedVariables false
set_option maxHeartbeats 16000000
set_option maxRecDepth 100000
open Go.RowKit Go.Maps
end Go.Proofs.YtgiemobdmbijiaaGreatDoor
namespace Go.Proofs.YtgiemobdmbijiaaGreatDoor
set_option linter.unusedSimpArgs false
set_option linter.unusedVariables false
set_option maxHeartbeats 16000000
set_option maxRecDepth 100000
open Go.RowKit Go.Maps
end Go.Proofs.YtgiemobdmbijiaaGreatDoor
namespace Go.Proofs.YtgiemobdmbijiaaGreatDoor
set_option linter.unusedSimpArgs false
set_option linter.unusedVariables false
set_option maxHeartbeats 16000000
set_option maxRecDepth 100000
open Go.RowKit
end Go.Proofs.YtgiemobdmbijiaaGreatDoor
namespace Go.Proofs.YtgiemobdmbijiaaGreatDoor
set_option linter.unusedSimpArgs false
set_option linter.unusedVariables false
set_option maxHeartbeats 16000000
set_option maxRecDepth 100000
open Go.RowKit Go.Maps
end Go.Proofs.YtgiemobdmbijiaaGreatDoor
namespace Go.Proofs.YtgiemobdmbijiaaGreatDoor
set_option maxHeartbeats 16000000
set_option maxRecDepth 100000
open Go.RowKit Go.Maps
end Go.Proofs.YtgiemobdmbijiaaGreatDoor
namespace Go.Proofs.YtgiemobdmbijiaaGreatDoor
set_option linter.unusedSimpArgs false
set_option linter.unusedVariables false
set_option maxHeartbeats 16000000
set_option maxRecDepth 100000
open Go.RowKit
def zJM (us:List zT):List UInt8:=us.flatMap fun t=>t.g.data.toList ++ t.t.data.toList
theorem zE6 (us:List zT):∀ k,k <= us.length -> zAJ us k = zJM (us.take k)
 | 0,_=>rfl
 | k + 1,h=>by
  have ih:=zE6 us k (by omega)
  have e:us.take (k + 1) = us.take k ++ [atT us k]:=by
   rw [List.take_add_one,List.getElem?_eq_getElem (by omega)]
   simp [atT,List.getD,List.getElem?_eq_getElem (show k < us.length by omega)]
  rw [e]
  show zAJ us k ++ (atT us k).g.data.toList ++ (atT us k).t.data.toList = _
  rw [ih]
  simp [zJM]
theorem zGQ (us:List zT):zAJ us us.length = zJM us:=by
 rw [zE6 us us.length (Nat.le_refl _),List.take_length]
theorem zGR (s:ByteArray) (i j:Nat):(s.extract i j).data.toList = (s.data.toList.drop i).take (j - i):=by
 simp [ByteArray.data_extract,List.extract_eq_take_drop]
theorem zGS {xs:List OpR} {s:ByteArray}:∀ (us:List zT) (i:Nat),zAx xs s i us -> zJM us = s.data.toList.drop i /\ us.length + i <= s.size + 1
 | [],_,h=>h.elim
 | t :: out,i,h=>by
  have hsl:s.data.toList.length = s.size:=by simp
  rcases h with ⟨rfl,hi,_,rfl⟩ | ⟨j,n,k,hij,hj,_,_,htok,rfl,hout⟩
  ·refine ⟨?_,by simp; omega⟩
   show (s.extract i s.size).data.toList ++ [] ++ [] = _
   rw [zGR,List.append_nil,List.append_nil,List.take_of_length_le (by rw [List.length_drop,hsl]; exact Nat.le_refl _)]
  ·obtain ⟨ih1,ih2⟩:=zGS out (j + n) hout
   have h1:=htok.1
   refine ⟨?_,by simp; omega⟩
   show (s.extract i j).data.toList ++ (s.extract j (j + n)).data.toList ++ zJM out = _
   rw [ih1,zGR,zGR]
   have e1:s.data.toList.drop (j + n) = (s.data.toList.drop j).drop n:=by rw [List.drop_drop]
   have e2:s.data.toList.drop j = (s.data.toList.drop i).drop (j - i):=by rw [List.drop_drop]; congr 1; omega
   rw [List.append_assoc,e1,Nat.add_sub_cancel_left,List.take_append_drop,e2,List.take_append_drop]
theorem zHS {xs:List OpR} {s:ByteArray} {us:List zT} (h:zAx xs s 0 us):(⟨(zAJ us us.length).toArray⟩:ByteArray) = s /\ us.length <= s.size + 1 /\ Zp us us.length = s.size:=by
 obtain ⟨h1,h2⟩:=zGS us 0 h
 rw [List.drop_zero] at h1
 have h3:=zCp us us.length
 rw [zGQ,h1] at h3
 refine ⟨?_,by omega,by rw [<- h3]; simp⟩
 rw [zGQ,h1]
end Go.Proofs.YtgiemobdmbijiaaGreatDoor
namespace Go.Proofs.YtgiemobdmbijiaaGreatDoor
set_option linter.unusedSimpArgs false
set_option linter.unusedVariables false
set_option maxHeartbeats 16000000
set_option maxRecDepth 100000
open Go.RowKit Go.Maps
def zBV (xs:List OpR) (s:ByteArray) (w:World) (e:Ending) (w':World):Prop:=
 (∃ (a:Option Addr) (cc:Nat) (us:List zD) (c p:Int),e = .returned (.tuple #[.agg #[.slice a us.length cc],.int .i64 c,.int .i64 p]) /\ Hid (ZP w' w.heap.size a us) /\ Hid (zCP xs s us c p)) /\ Below w.heap.size w w'
theorem zBV.empty {xs:List OpR} {s:ByteArray} {w w':World} {c p:Int} (h:zCP xs s [] c p) (hb:Below w.heap.size w w'):zBV xs s w (.returned (.tuple #[.agg #[.slice none 0 0],.int .i64 c,.int .i64 p])) w':=
 ⟨⟨none,0,[],c,p,rfl,zB (show ZP w' w.heap.size none [] from Or.inl ⟨rfl,rfl⟩),zB h⟩,hb⟩
end Go.Proofs.YtgiemobdmbijiaaGreatDoor
namespace Go.Proofs.YtgiemobdmbijiaaGreatDoor
set_option linter.unusedSimpArgs false
set_option linter.unusedVariables false
set_option maxHeartbeats 16000000
set_option maxRecDepth 100000
open Go.RowKit
def SpF (N b off n cap:Nat) (W:World):Prop:=
 W.cell? ⟨N,0,none⟩ = some (.slice (some ⟨b,off,none⟩) n cap) /\ W.cell? ⟨N + 1,0,none⟩ = some (.slice none 0 0) /\ W.frozen? ⟨N + 1,0,none⟩ = false
theorem SpF.grown {N b off n cap:Nat} {W W':World} {row:Option Nat} (h:SpF N b off n cap W) (hg:W.grownBy W' row) (hr:∀ k,row = some k -> N + 2 <= k):SpF N b off n cap W':=by
 obtain ⟨h0,h1,h2⟩:=h
 have l0:N < W.heap.size:=block_lt_of_cell h0
 have l1:N + 1 < W.heap.size:=block_lt_of_cell h1
 exact ⟨(zE hg l0 (fun e=>by have:=hr _ e; omega) 0).trans h0,(zE hg l1 (fun e=>by have:=hr _ e; omega) 0).trans h1,(World.frozen?_of_block (w:=W) (hg.block (N + 1) l1 (fun e=>by have:=hr _ e.symm; omega))).trans h2⟩
theorem SpF.below {N b off n cap:Nat} {W W':World} (h:SpF N b off n cap W) (hb:Below W.heap.size W W'):SpF N b off n cap W':=h.grown (zO hb none) (fun k hk=>by cases hk)
theorem zM3 {ns:List OpR} {ts:List zT} (hv:zZ ns 0) (hf:zCX ns ts ts.length) (hl:0 < ts.length /\ (atT ts (ts.length - 1)).k = 7) {n:Nat} (hn:ts.length <= n) :
  (∀ T,bld ns n (sgs ns ts 0 (ts.length - 1)) = some T -> RD ns 0 none (sgs ns ts 0 ts.length) = some (T,[eoS])) /\ (bld ns n (sgs ns ts 0 (ts.length - 1)) = none -> RD ns 0 none (sgs ns ts 0 ts.length) = none):=by
 obtain ⟨hseg,hend⟩:=zKi hf hl.1 hl.2
 have hb:=fun T=>zOq hv hseg (n:=n) (by rw [zDA]; omega) T
 rw [hend]
 refine ⟨fun T h=>(hb T).1 h,fun h=>?_⟩
 cases hr:RD ns 0 none (sgs ns ts 0 (ts.length - 1) ++ [eoS]) with
 | none=>rfl
 | some y=>
  obtain ⟨T,r⟩:=y
  have hre:=zOo hv hseg hr
  simp only at hre
  rw [hre] at hr
  have:=(hb T).2 hr
  rw [h] at this
  cases this
theorem TF.of {ns:List OpR} {ts:List zT} {s:ByteArray} (hv:zZ ns 0) (hs:s.size <= 20000) (hx:zAx ns s 0 ts) (hf:zCX ns ts ts.length) (hno:∀ j,j < ts.length -> (atT ts j).k ≠ 6):TF ns ts (Zn ns ts ts.length) where
 len:=by have:=(zHS hx).2.1; omega
 us:=rfl
 all:=fun i hi=>by
  refine ⟨zPI (hf i hi),?_⟩
  rcases zKg (zDm (zH4 hv)) ts 0 hx i hi with h | h | h | h | h | h
  ·have:=h.1; exact ⟨by omega,by omega,hno i hi⟩
  ·have:=h.1; exact ⟨by omega,by omega,hno i hi⟩
  ·have:=h.1; exact ⟨by omega,by omega,hno i hi⟩
  ·have:=h.1; exact ⟨by omega,by omega,hno i hi⟩
  ·exact absurd h (hno i hi)
  ·have:=h.1; exact ⟨by omega,by omega,hno i hi⟩
theorem zGi (b off cap:Nat) (xs:List OpR) (s:ByteArray) (w:World) (hmx:xs.length <= 1048576) (hw:Ops w b off xs) (hsz:Zs xs) (hB:b < w.heap.size) (hs:s.size <= 1048576) :
  Calls Tryz.prog 61 #[.agg #[.slice (some ⟨b,off,none⟩) xs.length cap],.string s] w (zBV xs s w):=by
 have HW:=zB hw
 have HS:=zB hsz
 clear hw hsz
 have bel0:Below w.heap.size w ((w.alloc (.cells #[.slice (some ⟨b,off,none⟩) xs.length cap] 55)).alloc (.cells #[.slice none 0 0] 97)):=(zC _ _).alloc (by simp) _
 have HX:=ZU b off cap xs _ hmx ((zA HW).below bel0 hB) (zA HS) (by have:=bel0.size; omega)
 go_enter Tryz.func61,Tryz.ntmps61
 go_wp2_with fail
 refine HX.mono ?_
 clear HX
 rintro e w1 ⟨⟨c,rfl,hc⟩,hb1⟩
 have HC:=zB hc
 have z1:w.heap.size + 2 <= w1.heap.size:=by have:=hb1.size; simp at this; omega
 have bel1:Below w.heap.size w w1:=bel0.trans (hb1.mono bel0.size)
 have HF:=zB (show SpF w.heap.size b off xs.length cap w1 from SpF.below ⟨by simp [go_sem],by simp [go_sem],by simp [go_sem]⟩ hb1)
 obtain ⟨t0,t1,u1⟩:=zA HF
 clear hc hb1 bel0
 by_cases hc0:c = 0
 case neg=>
  have hc0':(c != 0) = true:=by simpa using hc0
  have HN:=zB (show ¬ zZ xs 0 from fun h=>hc0 (zA6 (zA HC) h))
  clear hc0
  go_wp2_with fail
  refine bodyPost_ret (v:=.tuple #[.agg #[.slice none 0 0],.int .i64 1,.int .i64 0]) ?_ rfl (zBV.empty (Or.inl ⟨zA HN,rfl,rfl,rfl⟩) (bel1.setCell (by simp only; omega) _))
  simp [results,Tryz.results61,go_sem,t1]
 subst hc0
 have HX:=zH5 b off cap xs s w1 hmx ((zA HW).below bel1 hB) (zA HS) (Nat.lt_of_lt_of_le hB bel1.size) (by unfold maxLen; omega)
 go_wp2_with fail
 refine HX.mono ?_
 clear HX t0 t1 u1
 rintro e w2 ⟨⟨g,ct,ts,v,rfl,⟨hg,hct,hcm⟩,hfil,hlex⟩,hb2⟩
 have bel2:=bel1.trans (hb2.mono bel1.size)
 replace HF:=zB ((zA HF).below hb2)
 have hgw:w.heap.size <= g:=by omega
 obtain ⟨t0,t1,u1⟩:=zA HF
 rcases hlex with ⟨⟨_,h20⟩,rfl,hlex⟩ | ⟨hno,rfl,_⟩
 case inr=>
  have HN:=zB (show 20000 < s.size by
   rcases Nat.lt_or_ge 20000 s.size with h | h
   ·exact h
   ·exact absurd ⟨zA HC,h⟩ hno)
  clear hno hfil
  go_wp2_with fail
  refine bodyPost_ret (v:=.tuple #[.agg #[.slice none 0 0],.int .i64 2,.int .i64 0]) ?_ rfl (zBV.empty (Or.inr ⟨zA HC,Or.inl ⟨zA HN,rfl,rfl,rfl⟩⟩) (bel2.setCell (by simp only; omega) _))
  simp [results,Tryz.results61,go_sem,t1]
 have HLX:=zB hlex
 have hg2:g < w2.heap.size:=hfil.1
 have HT:=zB (show zEP w2 g 0 ts from hfil.2.2)
 have HR:=zB (zHS hlex)
 have HZ:=zB (zFx ts 0 hlex)
 have hm3:ts.length + Zp ts ts.length <= 1048576:=by have:=zA HR; omega
 have hln:ts.length <= 20001:=by have:=zA HR; omega
 have hla:=zFw ts 0 hlex
 have h1l:=hla.1
 have HLA:=zB hla
 clear hfil hlex hb2 hla
 go_wp2_with fail
 go_loop [9] (fun iv=>∃ k:Nat,k <= ts.length /\ iv = .int .i64 (k:Int) /\ Hid (∀ j,j < k -> (atT ts j).k ≠ 6)) (fun iv=>ts.length - (intOf iv).toNat)
 case atStart=>exact ⟨0,Nat.zero_le _,rfl,zB (fun j hj=>absurd hj (Nat.not_lt_zero j))⟩
 case round=>
  obtain ⟨k,hk,rfl,hno⟩:=hrel
  by_cases hlt:k < ts.length
  ·have hltI:(k:Int) < (ts.length:Int):=by omega
   obtain ⟨k0,k1,k2⟩:=(zA HT) k hlt
   rw [Nat.zero_add] at k0 k1 k2
   by_cases h6:(atT ts k).k = 6
   ·have e6:((atT ts k).k == 6) = true:=by rw [h6]; rfl
    have H6:=zB h6
    have HX:=zEJ g 0 ct k ts w2 hm3 hlt hct hcm (zA HT) hg2 (by have:=((zA HZ) k hlt).1; omega)
    clear h6
    go_wp2_with fail
    refine HX.mono ?_
    clear HX
    rintro e w3 ⟨rfl,hb3⟩
    have bel3:=bel2.trans (hb3.mono bel2.size)
    obtain ⟨s0,s1,s2⟩:=(zA HF).below hb3
    go_wp2_with fail
    refine bodyPost_ret (v:=.tuple #[.agg #[.slice none 0 0],.int .i64 3,.int .i64 (zJn ts k:Int)]) ?_ rfl (zBV.empty (Or.inr ⟨zA HC,Or.inr ⟨h20,ts,zA HLX,Or.inl ⟨k,hlt,zA H6,zA hno,rfl,rfl,rfl⟩⟩⟩) (bel3.setCell (by simp only; omega) _))
    simp [results,Tryz.results61,go_sem,s1]
   ·have e6:((atT ts k).k == 6) = false:=by simpa using h6
    have HNX:=zB (show ∀ j,j < k + 1 -> (atT ts j).k ≠ 6 from fun j hj=>by
     by_cases e:j = k
     ·subst e; exact h6
     ·exact (zA hno) j (by omega))
    clear h6
    go_wp2_with fail
    exact ⟨⟨k + 1,by omega,by go_num,HNX⟩,by simp [intOf]; omega⟩
  ·have hltI:¬ (k:Int) < (ts.length:Int):=by omega
   have e:k = ts.length:=by omega
   subst e
   have HX:=zGh b off cap g 0 ct xs ts w2 hmx (by omega) ((zA HW).below bel2 hB) (zA HS) (Nat.lt_of_lt_of_le hB bel2.size) (zA HT) hg2
   go_wp2_with fail
   refine HX.mono ?_
   clear HX t0 t1 u1
   rintro e w3 ⟨⟨gr,cr,us,at_,rfl,hgr,hfr,hroles⟩,hb3⟩
   have bel3:=bel2.trans (hb3.mono bel2.size)
   replace HF:=zB ((zA HF).below hb3)
   replace HT:=zB ((zA HT).below hb3 hg2)
   have hg3:g < w3.heap.size:=Nat.lt_of_lt_of_le hg2 hb3.size
   obtain ⟨t0,t1,u1⟩:=zA HF
   rcases hroles with ⟨hnc,_⟩ | ⟨_,⟨i,hi,hfi,hro,_,rfl⟩ | ⟨hfit,⟨_,hus,rfl⟩ | ⟨hnl,_⟩⟩⟩
   ·exact absurd (zA HC) hnc
   ·have eA:decide ((i:Int) ≥ 0) = true:=by simp
    have HFI:=zB hfi
    have HRO:=zB hro
    have HX:=zEJ g 0 ct i ts w3 hm3 hi hct hcm (zA HT) hg3 (by have:=((zA HZ) i hi).1; omega)
    clear hfi hro hfr
    go_wp2_with fail
    refine HX.mono ?_
    clear HX
    rintro e w4 ⟨rfl,hb4⟩
    have bel4:=bel3.trans (hb4.mono bel3.size)
    obtain ⟨s0,s1,s2⟩:=(zA HF).below hb4
    go_wp2_with fail
    refine bodyPost_ret (v:=.tuple #[.agg #[.slice none 0 0],.int .i64 4,.int .i64 (zJn ts i:Int)]) ?_ rfl (zBV.empty (Or.inr ⟨zA HC,Or.inr ⟨h20,ts,zA HLX,Or.inr ⟨zA hno,Or.inl ⟨i,hi,zA HFI,zA HRO,rfl,rfl,rfl⟩⟩⟩⟩) (bel4.setCell (by simp only; omega) _))
    simp [results,Tryz.results61,go_sem,s1]
   case inr.inr.inr=>exact absurd (zA HLA) hnl
   have HFT:=zB hfit
   have HTF:=zB (show TF xs ts us by rw [hus]; exact TF.of (zA HC) h20 (zA HLX) hfit (zA hno))
   have hgr3:gr < w3.heap.size:=hfr.1
   have hBE:BE w3 w3.heap.size b off g 0 gr xs ts us:=⟨(zA HW).below bel3 hB,Nat.lt_of_lt_of_le hB bel3.size,zA HT,hg3,⟨hfr.1,hfr.2.2⟩,hgr3,Nat.le_refl _⟩
   have HBE:=zB (hBE.below (zC w3 (.cells #[] 120)))
   have HROW:=zB (show zr (w3.alloc (.cells #[] 120)) w3.heap.size (.slice (some ⟨w3.heap.size,0,none⟩) 0 0) [] by
    have h0:=World.ownsRow_lit (base:=w3.heap.size) (e:=120) (size:=4) w3 #[] 0 (Nat.le_refl _) (Nat.zero_le _) rfl
    simpa [zr,zM] using h0)
   have HSG:=zB (zKi hfit h1l (zA HLA).2).1
   have HX:=zAr (cap:=cap) (ct:=ct) (cr:=cr) (zA HC) hmx (zA HS) (zA HTF) ts.length 0 (ts.length - 1) (.slice (some ⟨w3.heap.size,0,none⟩) 0 0) [] _ (Nat.zero_le _) (by omega) (by omega) (by rw [Nat.sub_zero]; exact zA HSG) (zA HBE) (zA HROW) (by simp; omega)
   rw [Nat.sub_zero,show ((0:Nat):Int) = 0 from rfl,show ((ts.length - 1:Nat):Int) = (ts.length:Int) - 1 by omega] at HX
   have HRB:=zB (zM3 (zA HC) hfit (zA HLA) (n:=ts.length) (Nat.le_refl _))
   have HGD:=zB (show ∀ T,bld xs ts.length (sgs xs ts 0 (ts.length - 1)) = some T -> Zk xs T from fun T h=>(Zr (zA HC) _ _ _ (zA HSG) h).1)
   obtain ⟨bl,hbl⟩:∃ bl,bl = bld xs ts.length (sgs xs ts 0 (ts.length - 1)):=⟨_,rfl⟩
   rw [<- hbl] at HX HRB HGD
   have z3:w.heap.size + 2 <= w3.heap.size:=by have:=hb3.size; omega
   clear hfit hus hfr hBE HROW HSG HTF hbl hb3
   go_wp2_with fail
   refine HX.mono ?_
   clear HX t0 t1 u1
   rintro e w4 ⟨u4,vs,ok,rfl,HR4,HG4,HA4,hl4,HO4⟩
   have HG:=zB (zc (zC w3 (.cells #[] 120)) (zA HG4))
   have HB4:=zB (show Below w.heap.size w w4 from bel3.grown (zA HG) bel3.size (fun q hq=>by simp [Value.ownBlock] at hq; omega))
   replace HF:=zB ((zA HF).grown (zA HG) (fun q hq=>by simp [Value.ownBlock] at hq; omega))
   have z4:=(zA HG).size
   obtain ⟨t0,t1,u1⟩:=zA HF
   rcases zA HO4 with ⟨T,hbT,rfl,hvs⟩ | ⟨hbN,rfl⟩
   case inr=>
    have HRN:=zB ((zA HRB).2 hbN)
    clear hbN HO4 HRB HGD
    go_wp2_with fail
    refine bodyPost_ret (v:=.tuple #[.agg #[.slice none 0 0],.int .i64 5,.int .i64 0]) ?_ rfl (zBV.empty (Or.inr ⟨zA HC,Or.inr ⟨h20,ts,zA HLX,Or.inr ⟨zA hno,Or.inr ⟨zA HFT,Or.inl ⟨zA HRN,rfl,rfl,rfl⟩⟩⟩⟩⟩) ((zA HB4).setCell (by simp only; omega) _))
    simp [results,Tryz.results61,go_sem,t1]
   rw [List.nil_append,List.length_nil] at hvs
   have HGT:=zB ((zA HGD) T hbT)
   have HRS:=zB ((zA HRB).1 T hbT)
   have hv1:1 <= vs.length:=by rw [hvs,ZI]; exact Sh.pos (zA HGT).sh
   obtain ⟨g4,c4,rfl,hg4,hfl⟩:=zCV (zA HR4) hv1
   rw [List.length_nil,Nat.zero_add] at hl4
   have htz:tsz T = vs.length:=by rw [hvs,ZI]
   have hb5:=zC w4 (.cells #[.slice (some ⟨g4,0,none⟩) vs.length c4] 97)
   have HFL:=zB hfl
   have HX:=zIA g4 c4 vs (hL T) _ (hfl.below hb5 hfl.1).2.2 (by have:=hb5.size; have:=hfl.1; omega) (by omega) hv1 (by rw [zDg,htz]) (fun i hi=>by rw [hvs]; exact zMv T (zA HGT).sh 0 i (by omega)) (fun i hi=>by have:=zOD T (i:=i) (by omega); omega)
   have hlast:atI (hL T) (vs.length - 1) = (hT T:Int):=by rw [<- htz]; exact zFV (zA HGT).sh
   rw [hlast] at HX
   have HVS:=zB hvs
   obtain ⟨hh,hhe⟩:∃ hh,hh = hT T:=⟨_,rfl⟩
   rw [<- hhe] at HX
   have HHE:=zB hhe
   clear hvs hbT HO4 HRB HGD htz hfl hlast hhe HR4 HG4 HA4 HG
   go_wp2_with fail
   refine HX.mono ?_
   clear HX
   rintro e w5 ⟨rfl,hb6⟩
   have HB5:=zB (((zA HB4).trans (hb5.mono (zA HB4).size)).trans (hb6.mono (by have:=(zA HB4).size; simp; omega)))
   have HF5:=zB (((zA HF).below hb5).below hb6)
   have HFL5:=zB (((zA HFL).below hb5 (zA HFL).1).below hb6 (by have:=hb5.size; have:=(zA HFL).1; omega))
   have tr5:w5.cell? ⟨w4.heap.size,0,none⟩ = some (.slice (some ⟨g4,0,none⟩) vs.length c4):=(hb6.cell (p:=⟨w4.heap.size,0,none⟩) (by simp)).trans (by simp [go_sem])
   obtain ⟨s0,s1,s2⟩:=zA HF5
   clear t0 t1 u1 hb5 hb6 HF HFL
   by_cases hgt:1000 < hh
   ·have hgI:(1000:Int) < (hh:Int):=by omega
    have HHT:=zB (show 1000 < hT T by rw [<- zA HHE]; exact hgt)
    clear hgt
    go_wp2_with fail
    refine bodyPost_ret (v:=.tuple #[.agg #[.slice none 0 0],.int .i64 6,.int .i64 0]) ?_ rfl (zBV.empty (Or.inr ⟨zA HC,Or.inr ⟨h20,ts,zA HLX,Or.inr ⟨zA hno,Or.inr ⟨zA HFT,Or.inr ⟨T,_,zA HRS,Or.inl ⟨zA HHT,rfl,rfl,rfl⟩⟩⟩⟩⟩⟩) ((zA HB5).setCell (by simp only; omega) _))
    simp [results,Tryz.results61,go_sem,s1]
   ·have hgI:¬ (1000:Int) < (hh:Int):=by omega
    have HHT:=zB (show hT T <= 1000 by rw [<- zA HHE]; omega)
    clear hgt
    go_wp2_with fail
    refine bodyPost_ret (v:=.tuple #[.agg #[.slice (some ⟨g4,0,none⟩) vs.length c4],.int .i64 0,.int .i64 0]) ?_ rfl ⟨⟨some ⟨g4,0,none⟩,c4,vs,0,0,rfl,zB (Or.inr ⟨g4,rfl,by omega,?_⟩),zB (Or.inr ⟨zA HC,Or.inr ⟨h20,ts,zA HLX,Or.inr ⟨zA hno,Or.inr ⟨zA HFT,Or.inr ⟨T,_,zA HRS,Or.inr ⟨zA HHT,zA HVS,rfl,rfl⟩⟩⟩⟩⟩⟩)⟩,(zA HB5).setCell (by simp only; omega) _⟩
    ·simp [results,Tryz.results61,go_sem,s1]
    ·exact (zA HFL5).setCell _ _ _ (by omega)
theorem zCP.code {ns:List OpR} {s:ByteArray} {us:List zD} {c p:Int} (h:zCP ns s us c p):0 <= c /\ c <= 6:=by
 rcases h with ⟨_,_,rfl,_⟩ | ⟨hv,⟨_,_,rfl,_⟩ | ⟨h20,ts,hx,⟨i,_,_,_,_,rfl,_⟩ | ⟨hno,⟨i,_,_,_,_,rfl,_⟩ | ⟨hf,⟨_,_,rfl,_⟩ | ⟨T,r,hr,⟨_,_,rfl,_⟩ | ⟨_,_,rfl,_⟩⟩⟩⟩⟩⟩ <;> decide
end Go.Proofs.YtgiemobdmbijiaaGreatDoor
