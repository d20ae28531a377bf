import Derived.Test.YtgiemobdmbijiaaGreatDoorN01
import Derived.Test.YtgiemobdmbijiaaGreatDoorN02
namespace Go.Proofs.YtgiemobdmbijiaaGreatDoor
set_option maxHeartbeats 16000000
set_option maxRecDepth 100000
open Go.RowKit
theorem zEr (c:UInt8) (w:World) :
  Calls Tryz.prog 111 #[.int .u8 (c.toNat:Int)] w fun e w'=>e = .returned (.bool (decide (cls c = 1))) /\ w' = w:=by
 go_enter Tryz.func111,Tryz.ntmps111
 go_wp2
 all_goals (go_ret; refine ⟨ZA ?_,rfl⟩; go_light; (try simp only [beq_iff_eq,beq_eq_false_iff_ne,ne_eq] at *); rw [Bool.eq_iff_iff]; simp [zK7] <;> omega)
theorem zAi (b off cap:Nat) (xs:List OpR) (t:ByteArray) (kd:Int) (w:World) (hm:xs.length <= 1048576) (hw:Ops w b off xs) (hB:b < w.heap.size) :
  Calls Tryz.prog 105 #[.agg #[.slice (some ⟨b,off,none⟩) xs.length cap],.string t,.int .i64 kd] w fun e w'=>(∃ r:Int,e = .returned (.int .i64 r) /\ (0 <= r ↔ ∃ j,j < xs.length /\ (atO xs j).s = t /\ (atO xs j).k = kd)) /\ Below w.heap.size w w':=by
 go_enter Tryz.func105,Tryz.ntmps105
 go_wp2
 have hops:Ops (w.alloc (.cells #[.slice (some ⟨b,off,none⟩) xs.length cap] 55)) b off xs:=hw.below (zC _ _) hB
 have HO:=zB hops
 clear hops hw
 go_loop [7] (fun i=>∃ k:Nat,k <= xs.length /\ i = .int .i64 k /\ Hid (∀ j,j < k -> ¬ ((atO xs j).s = t /\ (atO xs j).k = kd))) (fun i=>xs.length - (intOf i).toNat)
 case atStart=>exact ⟨0,Nat.zero_le _,rfl,zB (fun j h=>by omega)⟩
 case round=>
  obtain ⟨k,hk,rfl,hn⟩:=hrel
  by_cases hlt:k < xs.length
  ·obtain ⟨a0,a1,a2,a3⟩:=(zA HO) k hlt
   have hnx:=zB (show ∀ (_:¬ ((atO xs k).s = t /\ (atO xs k).k = kd)),∀ j,j < k + 1 -> ¬ ((atO xs j).s = t /\ (atO xs j).k = kd) from fun hne j hj=>by
    by_cases e:j = k
    ·subst e; exact hne
    ·exact (zA hn) j (by omega))
   go_wp2
   ·rename_i hs1 hk1 _
    go_ret
    exact ⟨⟨(k:Int),rfl,⟨fun _=>⟨k,hlt,zB2 hs1,by simpa using hk1⟩,fun _=>by omega⟩⟩,zC _ _⟩
   ·refine ⟨⟨k + 1,by omega,by go_num,zB ((zA hnx) ?_)⟩,by simp [intOf]; omega⟩
    rintro ⟨_,h⟩
    simp_all
   ·refine ⟨⟨k + 1,by omega,by go_num,zB ((zA hnx) ?_)⟩,by simp [intOf]; omega⟩
    rintro ⟨h,_⟩
    simp_all
  ·go_wp2
   go_ret
   refine ⟨⟨-1,rfl,⟨fun h=>absurd h (by decide),fun ⟨j,hj,h⟩=>absurd h ((zA hn) j (by omega))⟩⟩,zC _ _⟩
theorem zHc (s:ByteArray) (k:Nat) (h:k < s.size) (hb:sgB s[k] = false):zFW s = false:=by
 simp [zFW,zK5 s k h hb]
theorem zOl (s:ByteArray) (k:Nat) (hk:¬ k < s.size) (h:zGa (s.data.toList.take k) = true):zFW s = (decide (1 <= s.size) && decide (s.size <= 16)):=by
 rw [zLg s k hk] at h
 simp [zFW,h]
theorem zLs (s:ByteArray) (k:Nat) (h:k < s.size) (hs:zGa (s.data.toList.take k) = true) (hb:sgB s[k] = true):zGa (s.data.toList.take (k + 1)) = true:=by
 rw [zK4 s k h,zLf,hs,hb]; rfl
theorem zCi (s:ByteArray) (w:World) (hs:s.size <= maxLen) :
  Calls Tryz.prog 101 #[.string s] w fun e w'=>e = .returned (.bool (zFW s)) /\ w' = w:=by
 unfold maxLen at hs
 go_enter Tryz.func101,Tryz.ntmps101
 go_wp2
 go_loop [3] (fun i=>∃ k:Nat,k <= s.size /\ i = .int .i64 k /\ Hid (zGa (s.data.toList.take k) = true)) (fun i=>s.size - (intOf i).toNat)
 case atStart=>exact ⟨0,Nat.zero_le _,rfl,zB rfl⟩
 case round=>
  obtain ⟨k,hk,rfl,hn⟩:=hrel
  by_cases hlt:k < s.size
  ·cases hb:sgB s[k]
   ·have Hb:=zB hb
    go_wp2_with (go_at_call 77; refine (ZX _ _).mono ?_; rintro e w' ⟨rfl,rfl⟩)
    go_ret
    exact ⟨ZA (zHc s k hlt (zA Hb)).symm,rfl⟩
   ·have Hb:=zB hb
    go_wp2_with (go_at_call 77; refine (ZX _ _).mono ?_; rintro e w' ⟨rfl,rfl⟩)
    exact ⟨⟨k + 1,by omega,by go_num,zB (zLs s k hlt (zA hn) (zA Hb))⟩,by simp [intOf]; omega⟩
  ·have ht:=zB (zOl s k hlt (zA hn))
   by_cases h1:1 <= s.size
   ·have h1':(1:Int) <= (s.size:Int):=by omega
    go_wp2
    go_ret
    exact ⟨ZA (by rw [zA ht]; simp [h1]; omega),rfl⟩
   ·go_wp2
    go_ret
    exact ⟨ZA (by rw [zA ht]; simp [h1]),rfl⟩
theorem zJg (k:Int) (w:World) :
  Calls Tryz.prog 83 #[.int .i64 k] w fun e w'=>e = .returned (.int .i64 (zY k:Int)) /\ w' = w:=by
 by_cases h4:k = 4
 ·subst h4
  go_enter Tryz.func83,Tryz.ntmps83
  go_wp2
  go_ret
  exact ⟨zG (by simp [zY]),rfl⟩
 by_cases h3:k = 3
 ·subst h3
  go_enter Tryz.func83,Tryz.ntmps83
  go_wp2
  go_ret
  exact ⟨zG (by simp [zY]),rfl⟩
 by_cases h5:k = 5
 ·subst h5
  go_enter Tryz.func83,Tryz.ntmps83
  go_wp2
  go_ret
  exact ⟨zG (by simp [zY]),rfl⟩
 by_cases h6:k = 6
 ·subst h6
  go_enter Tryz.func83,Tryz.ntmps83
  go_wp2
  go_ret
  exact ⟨zG (by simp [zY]),rfl⟩
 have e4:(k == 4) = false:=by simpa using h4
 have e3:(k == 3) = false:=by simpa using h3
 have e5:(k == 5) = false:=by simpa using h5
 have e6:(k == 6) = false:=by simpa using h6
 have HK:=zB (show zY k = 0 by simp [zY,h4,h3,h5,h6])
 clear h4 h3 h5 h6
 go_enter Tryz.func83,Tryz.ntmps83
 go_wp2
 go_ret
 exact ⟨zG (by rw [zA HK]; rfl),rfl⟩
theorem zN {k:Int} {n:Nat} (h:zY k = n) (z:Int) (hz:(n:Int) = z) (w:World) :
  Calls Tryz.prog 83 #[.int .i64 k] w fun e w'=>e = .returned (.int .i64 z) /\ w' = w:=by
 subst hz
 subst h
 exact zJg k w
def frI (xs:List zD) (i:Nat):Int:=match frS xs i with
 | some f=>(f:Int)
 | none=>-1
theorem zFd {xs:List zD} {i f:Nat} (h:frS xs i = some f):frI xs i = (f:Int):=by unfold frI; rw [h]
theorem zAC {xs:List zD} {i:Nat} (h:frS xs i = none):frI xs i = -1:=by unfold frI; rw [h]
theorem zFe (a:Option Addr) (n cap:Nat) (w:World) :
  Calls Tryz.prog 125 #[.slice a n cap,.int .i64 (-1)] w fun e w'=>e = .returned (.int .i64 (-1)) /\ w' = w:=by
 go_enter Tryz.func125,Tryz.ntmps125
 go_wp2
 go_ret
 exact ⟨rfl,rfl⟩
theorem zDV (b off cap:Nat) (xs:List zD) (hm:xs.length <= 1048576):∀ (n i:Nat) (w:World),i < n -> i < xs.length -> zAs w b off xs -> b < w.heap.size ->
  Calls Tryz.prog 125 #[.slice (some ⟨b,off,none⟩) xs.length cap,.int .i64 (i:Int)] w fun e w'=>e = .returned (.int .i64 (frI xs i)) /\ Below w.heap.size w w'
 | 0,_,_,h,_,_,_=>absurd h (Nat.not_lt_zero _)
 | n + 1,i,w,hin,hi,hw,hB=>by
  obtain ⟨h0,h1,h2,h3⟩:=hw i hi
  have IH:=zB (zDV b off cap xs hm n)
  have HW:=zB hw
  have hiI:(i:Int) < (xs.length:Int):=by omega
  have hi0:¬ (i:Int) < 0:=by omega
  clear hw
  rcases zDT (atN xs i).k with hk | hk | hk
  ·have HK:=zB hk
   have HF:=zB (zDn hk)
   clear hk
   by_cases ha:(atN xs i).a = 0
   ·rw [ha] at h2
    by_cases hb:(atN xs i).b = 0
    ·rw [hb] at h3
     have HR:=zB (show frI xs i = (i:Int) from zFd (by rw [zA HF,if_pos ⟨ha,hb⟩]))
     clear ha hb
     go_enter Tryz.func125,Tryz.ntmps125
     go_wp2_with (go_at_call 83; refine (zN (zA HK) 0 rfl _).mono ?_; rintro e w' ⟨rfl,rfl⟩)
     go_ret
     exact ⟨zG (zA HR).symm,zC _ _⟩
    ·have hb':((atN xs i).b == 0) = false:=by simpa using hb
     have hb'':((atN xs i).b != 0) = true:=by simpa using hb
     have HR:=zB (show frI xs i = -1 from zAC (by rw [zA HF,if_neg (fun h=>hb h.2)]))
     clear ha hb
     go_enter Tryz.func125,Tryz.ntmps125
     go_wp2_with (go_at_call 83; refine (zN (zA HK) 0 rfl _).mono ?_; rintro e w' ⟨rfl,rfl⟩)
     go_ret
     exact ⟨zG (zA HR).symm,zC _ _⟩
   ·have ha':((atN xs i).a == 0) = false:=by simpa using ha
    have ha'':((atN xs i).a != 0) = true:=by simpa using ha
    have HR:=zB (show frI xs i = -1 from zAC (by rw [zA HF,if_neg (fun h=>ha h.1)]))
    clear ha
    go_enter Tryz.func125,Tryz.ntmps125
    go_wp2_with (go_at_call 83; refine (zN (zA HK) 0 rfl _).mono ?_; rintro e w' ⟨rfl,rfl⟩)
    go_ret
    exact ⟨zG (zA HR).symm,zC _ _⟩
  ·have HK:=zB hk
   have HF:=zB (zFK hk)
   clear hk
   by_cases ha:(atN xs i).a = (i:Int) - 1
   ·rw [ha] at h2
    by_cases hb:(atN xs i).b = 0
    ·rw [hb] at h3
     by_cases h1i:1 <= i
     ·have HR:=zB (show frI xs i = frI xs (i - 1) by unfold frI; rw [zA HF,if_pos ⟨h1i,ha,hb⟩])
      have ei:(i:Int) - 1 = ((i - 1:Nat):Int):=by omega
      clear ha hb
      go_enter Tryz.func125,Tryz.ntmps125
      go_wp2_with (first | (go_at_call 83; refine (zN (zA HK) 1 rfl _).mono ?_; rintro e w' ⟨rfl,rfl⟩) | (go_at_call 125; refine ((zA IH) (i - 1) _ (by omega) (by omega) ((zA HW).below (zC _ _) hB) (by simp; omega)).mono ?_; rintro e w' ⟨rfl,hb1⟩))
      go_ret
      exact ⟨zG (zA HR).symm,(zC _ _).trans (hb1.mono (by simp))⟩
     ·have HR:=zB (show frI xs i = -1 from zAC (by rw [zA HF,if_neg (fun h=>h1i h.1)]))
      have ei:(i:Int) - 1 = -1:=by omega
      clear ha hb h1i
      go_enter Tryz.func125,Tryz.ntmps125
      go_wp2_with (first | (go_at_call 83; refine (zN (zA HK) 1 rfl _).mono ?_; rintro e w' ⟨rfl,rfl⟩) | (go_at_call 125; refine (zFe _ _ _ _).mono ?_; rintro e w' ⟨rfl,rfl⟩))
      go_ret
      exact ⟨zG (zA HR).symm,zC _ _⟩
    ·have hb':((atN xs i).b == 0) = false:=by simpa using hb
     have hb'':((atN xs i).b != 0) = true:=by simpa using hb
     have HR:=zB (show frI xs i = -1 from zAC (by rw [zA HF,if_neg (fun h=>hb h.2.2)]))
     clear ha hb
     go_enter Tryz.func125,Tryz.ntmps125
     go_wp2_with (go_at_call 83; refine (zN (zA HK) 1 rfl _).mono ?_; rintro e w' ⟨rfl,rfl⟩)
     go_ret
     exact ⟨zG (zA HR).symm,zC _ _⟩
   ·have ha':((atN xs i).a == (i:Int) - 1) = false:=by simpa using ha
    have ha'':((atN xs i).a != (i:Int) - 1) = true:=by simpa using ha
    have HR:=zB (show frI xs i = -1 from zAC (by rw [zA HF,if_neg (fun h=>ha h.2.1)]))
    clear ha
    go_enter Tryz.func125,Tryz.ntmps125
    go_wp2_with (go_at_call 83; refine (zN (zA HK) 1 rfl _).mono ?_; rintro e w' ⟨rfl,rfl⟩)
    go_ret
    exact ⟨zG (zA HR).symm,zC _ _⟩
  ·have HK:=zB hk
   have HN:=zB (zDo (xs:=xs) (i:=i) hk)
   have HP:=zB (fun (p1:1 <= i) p2 f p3 p4 p5=>zFL (xs:=xs) (i:=i) (f:=f) hk p1 p2 p3 p4 p5)
   clear hk
   by_cases hb:(atN xs i).b = (i:Int) - 1
   case neg=>
    have hb':((atN xs i).b == (i:Int) - 1) = false:=by simpa using hb
    have hb'':((atN xs i).b != (i:Int) - 1) = true:=by simpa using hb
    have HR:=zB (show frI xs i = -1 from zAC ((zA HN) (fun h=>hb h.2.1)))
    clear hb
    go_enter Tryz.func125,Tryz.ntmps125
    go_wp2_with (go_at_call 83; refine (zN (zA HK) 2 rfl _).mono ?_; rintro e w' ⟨rfl,rfl⟩)
    go_ret
    exact ⟨zG (zA HR).symm,zC _ _⟩
   rw [hb] at h3
   by_cases h1i:1 <= i
   case neg=>
    have HR:=zB (show frI xs i = -1 from zAC ((zA HN) (fun h=>h1i h.1)))
    have ei:(i:Int) - 1 = -1:=by omega
    clear hb h1i
    go_enter Tryz.func125,Tryz.ntmps125
    go_wp2_with (first | (go_at_call 83; refine (zN (zA HK) 2 rfl _).mono ?_; rintro e w' ⟨rfl,rfl⟩) | (go_at_call 125; refine (zFe _ _ _ _).mono ?_; rintro e w' ⟨rfl,rfl⟩))
    go_ret
    exact ⟨zG (zA HR).symm,zC _ _⟩
   have ei:(i:Int) - 1 = ((i - 1:Nat):Int):=by omega
   cases hf:frS xs (i - 1) with
   | none=>
    have HR:=zB (show frI xs i = -1 from zAC ((zA HN) (fun ⟨_,_,f,h,_⟩=>by rw [hf] at h; cases h)))
    have HI:=zB (zAC hf)
    clear hb hf
    go_enter Tryz.func125,Tryz.ntmps125
    go_wp2_with (first | (go_at_call 83; refine (zN (zA HK) 2 rfl _).mono ?_; rintro e w' ⟨rfl,rfl⟩) | (go_at_call 125; refine ((zA IH) (i - 1) _ (by omega) (by omega) ((zA HW).below (zC _ _) hB) (by simp; omega)).mono ?_; rw [zA HI]; rintro e w' ⟨rfl,hb1⟩))
    go_ret
    exact ⟨zG (zA HR).symm,(zC _ _).trans (hb1.mono (by simp))⟩
   | some f=>
    have hle:=zAA hf
    have HI:=zB (zFd hf)
    by_cases hf1:1 <= f
    case neg=>
     have HR:=zB (show frI xs i = -1 from zAC ((zA HN) (fun ⟨_,_,f',h,h',_⟩=>by rw [hf] at h; injection h with h; omega)))
     have hf0:(f:Int) < 1:=by omega
     clear hb hf
     go_enter Tryz.func125,Tryz.ntmps125
     go_wp2_with (first | (go_at_call 83; refine (zN (zA HK) 2 rfl _).mono ?_; rintro e w' ⟨rfl,rfl⟩) | (go_at_call 125; refine ((zA IH) (i - 1) _ (by omega) (by omega) ((zA HW).below (zC _ _) hB) (by simp; omega)).mono ?_; rw [zA HI]; rintro e w' ⟨rfl,hb1⟩))
     go_ret
     exact ⟨zG (zA HR).symm,(zC _ _).trans (hb1.mono (by simp))⟩
    have hf0:¬ (f:Int) < 1:=by omega
    have hfm:(f:Int) <= 1048576:=by omega
    by_cases ha:(atN xs i).a = (f:Int) - 1
    case neg=>
     have ha':((atN xs i).a == (f:Int) - 1) = false:=by simpa using ha
     have ha'':((atN xs i).a != (f:Int) - 1) = true:=by simpa using ha
     have HR:=zB (show frI xs i = -1 from zAC ((zA HN) (fun ⟨_,_,f',h,_,h'⟩=>by rw [hf] at h; injection h with h; subst h; exact ha h')))
     clear hb hf ha
     go_enter Tryz.func125,Tryz.ntmps125
     go_wp2_with (first | (go_at_call 83; refine (zN (zA HK) 2 rfl _).mono ?_; rintro e w' ⟨rfl,rfl⟩) | (go_at_call 125; refine ((zA IH) (i - 1) _ (by omega) (by omega) ((zA HW).below (zC _ _) hB) (by simp; omega)).mono ?_; rw [zA HI]; rintro e w' ⟨rfl,hb1⟩; have c1:w'.cell? ⟨w.heap.size,2,none⟩ = some (.int .i64 (atN xs i).a):=(hb1.cell (p:=⟨w.heap.size,2,none⟩) (by simp)).trans (by simp [go_sem])))
     go_ret
     exact ⟨zG (zA HR).symm,(zC _ _).trans (hb1.mono (by simp))⟩
    rw [ha] at h2
    have HR:=zB (show frI xs i = frI xs (f - 1) by unfold frI; rw [(zA HP) h1i hb f hf hf1 ha])
    have ef:(f:Int) - 1 = ((f - 1:Nat):Int):=by omega
    clear hb hf ha
    go_enter Tryz.func125,Tryz.ntmps125
    go_wp2_with (go_at_call 83; refine (zN (zA HK) 2 rfl _).mono ?_; rintro e w' ⟨rfl,rfl⟩)
    refine ((zA IH) (i - 1) _ (by omega) (by omega) ((zA HW).below (zC _ _) hB) (by simp; omega)).mono ?_
    rw [zA HI]
    rintro e w1 ⟨rfl,hb1⟩
    have c1:w1.cell? ⟨w.heap.size,2,none⟩ = some (.int .i64 ((f:Int) - 1)):=(hb1.cell (p:=⟨w.heap.size,2,none⟩) (by simp)).trans (by simp [go_sem,ef])
    go_wp2_with fail
    refine ((zA IH) (f - 1) _ (by omega) (by omega) ((zA HW).below ((zC _ _).trans (hb1.mono (by simp))) hB) (by have:=hb1.size; simp at this; omega)).mono ?_
    rintro e w2 ⟨rfl,hb2⟩
    go_wp2_with fail
    go_ret
    exact ⟨zG (zA HR).symm,((zC _ _).trans (hb1.mono (by simp))).trans (hb2.mono (by have:=hb1.size; simp at this; omega))⟩
theorem Zq (c:UInt8) (w:World) :
  Calls Tryz.prog 94 #[.int .u8 (c.toNat:Int)] w fun e w'=>e = .returned (.int .i64 (cls c:Int)) /\ w' = w:=by
 have hsg:=zHT c
 go_enter Tryz.func94,Tryz.ntmps94
 go_wp2_with (go_at_call 120; refine (zJf _ _).mono ?_; rintro e w' ⟨rfl,hx⟩; obtain rfl:=hx.symm)
 all_goals (go_ret; refine ⟨zG ?_,rfl⟩; go_light; (try simp only [beq_iff_eq,beq_eq_false_iff_ne,ne_eq] at *); unfold cls; (repeat' split) <;> (try simp_all) <;> (try omega))
def zBb (first:Nat) (c:UInt8):Bool:=decide (cls c = 2 \/ (cls c = 3 /\ first = 3))
theorem zDK (first:Nat) (c:UInt8) (w:World) :
  Calls Tryz.prog 95 #[.int .i64 (first:Int),.int .u8 (c.toNat:Int)] w fun e w'=>e = .returned (.bool (zBb first c)) /\ w' = w:=by
 by_cases h2:cls c = 2
 ·have HR:=zB (show zBb first c = true by simp [zBb,h2])
  have HC:=zB (show (cls c:Int) = 2 by omega)
  clear h2
  go_enter Tryz.func95,Tryz.ntmps95
  go_wp2_with (go_at_call 94; refine (Zq _ _).mono ?_; rw [zA HC]; rintro e w' ⟨rfl,hx⟩; obtain rfl:=hx.symm)
  go_ret
  exact ⟨ZA (zA HR).symm,rfl⟩
 by_cases h3:cls c = 3
 ·have HC:=zB (show (cls c:Int) = 3 by omega)
  by_cases hf:first = 3
  ·have HR:=zB (show zBb first c = true by simp [zBb,h3,hf])
   subst hf
   clear h2 h3
   go_enter Tryz.func95,Tryz.ntmps95
   go_wp2_with (go_at_call 94; refine (Zq _ _).mono ?_; rw [zA HC]; rintro e w' ⟨rfl,hx⟩; obtain rfl:=hx.symm)
   go_ret
   exact ⟨ZA (zA HR).symm,rfl⟩
  ·have HR:=zB (show zBb first c = false by simp [zBb,h3,hf])
   have hf':((first:Int) == 3) = false:=by simp; omega
   clear h2 h3 hf
   go_enter Tryz.func95,Tryz.ntmps95
   go_wp2_with (go_at_call 94; refine (Zq _ _).mono ?_; rw [zA HC]; rintro e w' ⟨rfl,hx⟩; obtain rfl:=hx.symm)
   go_ret
   exact ⟨ZA (zA HR).symm,rfl⟩
 ·have HR:=zB (show zBb first c = false by simp [zBb,h2,h3])
  have h2':((cls c:Int) == 2) = false:=by simp; omega
  have h3':((cls c:Int) == 3) = false:=by simp; omega
  clear h2 h3
  go_enter Tryz.func95,Tryz.ntmps95
  go_wp2_with (go_at_call 94; refine (Zq _ _).mono ?_; rintro e w' ⟨rfl,hx⟩; obtain rfl:=hx.symm)
  go_ret
  exact ⟨ZA (zA HR).symm,rfl⟩
theorem zKZ (t:ByteArray):∀ (n i:Nat) (r:List UInt8),n = t.size - i -> r ≠ [] -> ByteArray.toList.loop t i r ≠ []
 | 0,i,r,h,hr=>by
  unfold ByteArray.toList.loop
  rw [if_neg (by omega)]
  simpa using hr
 | n + 1,i,r,h,hr=>by
  unfold ByteArray.toList.loop
  rw [if_pos (by omega)]
  exact zKZ t n (i + 1) _ (by omega) (by simp)
theorem zER {t:ByteArray} (h:t.size ≠ 0):t.toList.isEmpty = false:=by
 rw [List.isEmpty_eq_false_iff]
 unfold ByteArray.toList ByteArray.toList.loop
 rw [if_pos (by omega)]
 exact zKZ t (t.size - 1) 1 _ rfl (by simp)
theorem zES {t:ByteArray} (h:t.size = 0):t = ⟨#[]⟩:=by
 obtain ⟨d⟩:=t
 congr 1
 exact Array.eq_empty_of_size_eq_zero h
theorem zu {p:Prop} (h:¬ p):zIX false p:=⟨fun e=>(by cases e),fun e=>absurd e h⟩
theorem zB3 {p:Prop} (h:p):zIX true p:=⟨fun _=>h,fun _=>rfl⟩
theorem zLC {o:zD} (h:20000 < o.t.size):¬ zBR o:=fun h'=>by have:=h'.1; omega
theorem zNV {o:zD} (h:o.t.size <= 20000) (hk:o.k = 1):zBR o ↔ zDS o.t:=by
 unfold zBR; rw [hk]; simp [h]
theorem zNW {o:zD} (h:o.t.size <= 20000) (hk:o.k = 2):zBR o ↔ zBY o.t:=by
 unfold zBR; rw [hk]; simp [h]
theorem zNX {o:zD} (hk:o.k = 6):zBR o ↔ o.t.size = 0:=by
 unfold zBR; rw [hk]
 refine ⟨fun h=>?_,fun h=>⟨by omega,Or.inr (Or.inr (Or.inl ⟨rfl,h⟩))⟩⟩
 rcases h.2 with h | h | h | h
 ·omega
 ·omega
 ·exact h.2
 ·omega
theorem zNY {o:zD} (h:o.t.size <= 20000) (hk:o.k = 3 \/ o.k = 4 \/ o.k = 5):zBR o ↔ zFW o.t = true:=by
 unfold zBR; rcases hk with hk | hk | hk <;> rw [hk] <;> simp [h]
theorem zKa {o:zD} (hk:¬ (o.k = 1 \/ o.k = 2 \/ o.k = 3 \/ o.k = 4 \/ o.k = 5 \/ o.k = 6)):¬ zBR o:=by
 unfold zBR; rintro ⟨_,h | h | h | h⟩
 ·omega
 ·omega
 ·omega
 ·omega
theorem zHd (o:zD) (w:World) (hs:o.t.size <= maxLen) :
  Calls Tryz.prog 126 #[.agg #[.int .i64 o.k,.string o.t,.int .i64 o.a,.int .i64 o.b]] w fun e w'=>zHb e (zBR o) /\ Below w.heap.size w w':=by
 have HS:=zB hs
 unfold maxLen at hs
 by_cases hbig:20000 < o.t.size
 ·have hbigI:(20000:Int) < (o.t.size:Int):=by omega
  have HN:=zB (zLC hbig)
  clear hbig
  go_enter Tryz.func126,Tryz.ntmps126
  go_wp2_with fail
  go_ret
  exact ⟨⟨_,rfl,zu (zA HN)⟩,zC _ _⟩
 have hbigI:¬ (20000:Int) < (o.t.size:Int):=by omega
 have hsm:o.t.size <= 20000:=by omega
 clear hbig
 by_cases k1:o.k = 1
 ·have HT:=zB (zNV hsm k1)
  rw [k1]
  clear k1
  go_enter Tryz.func126,Tryz.ntmps126
  go_wp2_with (go_at_call 39; refine (zAB _ _ (zA HS)).mono ?_; rintro e w' ⟨⟨v,rfl,hv⟩,rfl⟩)
  go_ret
  exact ⟨⟨_,rfl,hv.trans (zA HT).symm⟩,zC _ _⟩
 by_cases k2:o.k = 2
 ·have HT:=zB (zNW hsm k2)
  rw [k2]
  clear k1 k2
  go_enter Tryz.func126,Tryz.ntmps126
  go_wp2_with (go_at_call 49; refine (zCE _ _ (zA HS)).mono ?_; rintro e w' ⟨⟨v,rfl,hv⟩,rfl⟩)
  go_ret
  exact ⟨⟨_,rfl,hv.trans (zA HT).symm⟩,zC _ _⟩
 by_cases k6:o.k = 6
 ·have HT:=zB (zNX k6)
  rw [k6]
  clear k1 k2 k6
  by_cases h0:o.t.size = 0
  ·rw [zES h0]
   go_enter Tryz.func126,Tryz.ntmps126
   go_wp2_with fail
   go_ret
   exact ⟨⟨_,rfl,zB3 ((zA HT).2 h0)⟩,zC _ _⟩
  ·have hne:o.t.toList.isEmpty = false:=zER h0
   go_enter Tryz.func126,Tryz.ntmps126
   go_wp2_with fail
   go_ret
   exact ⟨⟨_,rfl,zu (fun h=>h0 ((zA HT).1 h))⟩,zC _ _⟩
 have e1:(o.k == 1) = false:=by simpa using k1
 have e2:(o.k == 2) = false:=by simpa using k2
 have e6:(o.k == 6) = false:=by simpa using k6
 by_cases k3:3 <= o.k
 ·by_cases k5:o.k <= 5
  ·have HT:=zB (zNY hsm (by omega))
   clear k1 k2 k6
   go_enter Tryz.func126,Tryz.ntmps126
   go_wp2_with (go_at_call 101; refine (zCi _ _ (zA HS)).mono ?_; rintro e w' ⟨rfl,rfl⟩)
   go_ret
   exact ⟨⟨_,rfl,(zA HT).symm⟩,zC _ _⟩
  ·have HT:=zB (zKa (o:=o) (by omega))
   clear k1 k2 k6
   go_enter Tryz.func126,Tryz.ntmps126
   go_wp2_with fail
   go_ret
   exact ⟨⟨_,rfl,zu (zA HT)⟩,zC _ _⟩
 ·have HT:=zB (zKa (o:=o) (by omega))
  clear k1 k2 k6
  go_enter Tryz.func126,Tryz.ntmps126
  go_wp2_with fail
  go_ret
  exact ⟨⟨_,rfl,zu (zA HT)⟩,zC _ _⟩
theorem zDL (b off cap:Nat) (xs:List zD) (w:World) (hm:xs.length <= 1048576) (hw:zAs w b off xs) (hs:zEQ xs) (hB:b < w.heap.size) :
  Calls Tryz.prog 103 #[.agg #[.slice (some ⟨b,off,none⟩) xs.length cap]] w fun e w'=>zHb e (zAn xs) /\ Below w.heap.size w w':=by
 have HW:=zB hw
 have HS:=zB hs
 clear hw hs
 by_cases h1:xs.length < 1
 ·have h1I:(xs.length:Int) < 1:=by omega
  have HN:=zB (show ¬ zAn xs from fun h=>by have:=h.1; omega)
  go_enter Tryz.func103,Tryz.ntmps103
  go_wp2_with fail
  go_ret
  exact ⟨⟨_,rfl,zu (zA HN)⟩,zC _ _⟩
 have h1I:¬ (xs.length:Int) < 1:=by omega
 by_cases h2:20000 < xs.length
 ·have h2I:(20000:Int) < (xs.length:Int):=by omega
  have HN:=zB (show ¬ zAn xs from fun h=>by have:=h.2.1; omega)
  go_enter Tryz.func103,Tryz.ntmps103
  go_wp2_with fail
  go_ret
  exact ⟨⟨_,rfl,zu (zA HN)⟩,zC _ _⟩
 have h2I:¬ (20000:Int) < (xs.length:Int):=by omega
 have ei:(xs.length:Int) - 1 = ((xs.length - 1:Nat):Int):=by omega
 by_cases h3:frS xs (xs.length - 1) = some 0
 case neg=>
  have h3I:(frI xs (xs.length - 1) != 0) = true:=by
   unfold frI
   cases hf:frS xs (xs.length - 1) with
   | none=>rfl
   | some f=>
    simp only [bne_iff_ne,ne_eq]
    intro e
    have:f = 0:=by omega
    subst this
    exact h3 hf
  have HN:=zB (show ¬ zAn xs from fun h=>h3 h.2.2.1)
  clear h3
  go_enter Tryz.func103,Tryz.ntmps103
  go_wp2_with (go_at_call 125; refine (zDV b off cap xs hm xs.length (xs.length - 1) _ (by omega) (by omega) ((zA HW).below (zC _ _) hB) (by simp; omega)).mono ?_; rintro e w' ⟨rfl,hb1⟩)
  go_ret
  exact ⟨⟨_,rfl,zu (zA HN)⟩,(zC _ _).trans (hb1.mono (by simp))⟩
 have HI:=zB (zFd h3)
 have H3:=zB h3
 clear h3
 go_enter Tryz.func103,Tryz.ntmps103
 go_wp2_with fail
 refine (zDV b off cap xs hm xs.length (xs.length - 1) _ (by omega) (by omega) ((zA HW).below (zC _ _) hB) (by simp; omega)).mono ?_
 rw [zA HI]
 rintro e w1 ⟨rfl,hb1⟩
 have bel1:Below w.heap.size w w1:=(zC _ _).trans (hb1.mono (by simp))
 clear hb1
 go_wp2_with fail
 go_loopw [4] (fun i wr=>∃ k:Nat,k <= xs.length /\ i = .int .i64 (k:Int) /\ Hid (∀ j,j < k -> zBR (atN xs j)) /\ Below w.heap.size w wr) (fun i _=>xs.length - (intOf i).toNat)
 case atStart=>exact ⟨0,Nat.zero_le _,rfl,zB (fun j hj=>absurd hj (Nat.not_lt_zero j)),bel1⟩
 case round=>
  obtain ⟨k,hk,rfl,hok,hbel⟩:=hrel
  by_cases hlt:k < xs.length
  ·obtain ⟨c0,c1,c2,c3⟩:=((zA HW) k hlt).below hbel hB
   have hltI:(k:Int) < (xs.length:Int):=by omega
   go_wp2_with fail
   refine (zHd (atN xs k) _ ((zA HS) k hlt)).mono ?_
   rintro e w2 ⟨⟨v,rfl,hv⟩,hb2⟩
   have bel2:=hbel.trans (hb2.mono hbel.size)
   have HV:=zB hv
   clear hv hb2
   cases v
   ·go_wp2_with fail
    go_ret
    exact ⟨⟨_,rfl,zu (fun h=>Bool.false_ne_true ((zA HV).2 (h.2.2.2 k hlt)))⟩,bel2⟩
   ·go_wp2_with fail
    refine ⟨⟨k + 1,by omega,by go_num,zB (fun j hj=>?_),bel2⟩,by simp [intOf]; omega⟩
    by_cases e:j = k
    ·subst e; exact (zA HV).1 rfl
    ·exact (zA hok) j (by omega)
  ·have hkn:k = xs.length:=by omega
   go_wp2_with fail
   go_ret
   exact ⟨⟨_,rfl,zB3 ⟨by omega,by omega,zA H3,fun i hi=>(zA hok) i (by omega)⟩⟩,hbel⟩
def zM (zs:List zD):List Value:=zs.flatMap fun o=>[.int .i64 o.k,.string o.t,.int .i64 o.a,.int .i64 o.b]
theorem zi (xs ys:List zD):zM (xs ++ ys) = zM xs ++ zM ys:=by simp [zM]
theorem zFf:∀ zs:List zD,(zM zs).length = zs.length * 4
 | []=>rfl
 | o :: r=>by
  have:=zFf r
  simp only [zM,List.flatMap_cons,List.length_append,List.length_cons,List.length_nil] at *
  omega
theorem zGv:∀ (zs:List zD) (i:Nat),i < zs.length -> (zM zs)[i * 4]? = some (.int .i64 (atN zs i).k) /\ (zM zs)[i * 4 + 1]? = some (.string (atN zs i).t) /\ (zM zs)[i * 4 + 2]? = some (.int .i64 (atN zs i).a) /\ (zM zs)[i * 4 + 3]? = some (.int .i64 (atN zs i).b)
 | [],i,h=>absurd h (Nat.not_lt_zero i)
 | o :: r,0,_=>⟨rfl,rfl,rfl,rfl⟩
 | o :: r,i + 1,h=>by
  have ih:=zGv r i (by simpa using h)
  have e:∀ j,(zM (o :: r))[(i + 1) * 4 + j]? = (zM r)[i * 4 + j]?:=fun j=>by
   have:(i + 1) * 4 + j = (i * 4 + j) + 4:=by omega
   rw [this]
   rfl
  exact ⟨(e 0).trans ih.1,(e 1).trans ih.2.1,(e 2).trans ih.2.2.1,(e 3).trans ih.2.2.2⟩
theorem zR (zs:List zD):∀ u ∈ zM zs,u.oneCell' = true:=by
 intro u hu
 simp only [zM,List.mem_flatMap] at hu
 obtain ⟨o,_,ho⟩:=hu
 simp at ho
 rcases ho with rfl | rfl | rfl | rfl <;> rfl
theorem zAz {w:World} {base g cap:Nat} {e:TypeId} {zs:List zD} (h:w.ownsRow base e 4 (.slice (some ⟨g,0,none⟩) zs.length cap) zs.length (zM zs)):base <= g /\ ZB w g zs zs.length:=by
 have hlt:=h.lt g rfl
 refine ⟨hlt.1,hlt.2,fun j hj=>⟨?_,h.frozenAt _⟩,fun i hi=>?_⟩
 ·rw [h.cellAt (0 + j) (by omega)]
  have:0 + j < (zM zs).length:=by rw [zFf]; omega
  rw [List.getElem?_eq_getElem this]
  rfl
 ·obtain ⟨c0,c1,c2,c3⟩:=zGv zs i hi
  have e:=fun j (hj:j < 4)=>h.cellAt (i * 4 + j) (by omega)
  exact ⟨by simpa using (e 0 (by omega)).trans c0,by simpa using (e 1 (by omega)).trans c1,by simpa using (e 2 (by omega)).trans c2,by simpa using (e 3 (by omega)).trans c3⟩
theorem zIY {w:World} {base n size:Nat} {e:TypeId} {v:Value} {xs:List Value} (h:w.ownsRow base e size v n xs) (hv:v ≠ .slice none 0 0):∃ g cap,v = .slice (some ⟨g,0,none⟩) n cap:=by
 obtain ⟨_,h | ⟨g,cap,cur,hv',_⟩⟩:=h
 ·exact absurd h.1 hv
 ·exact ⟨g,cap,hv'⟩
theorem zLD {w:World} {base n size g cap:Nat} {e:TypeId} {xs:List Value} (h:w.ownsRow base e size (.slice (some ⟨g,0,none⟩) n cap) n xs):n <= cap /\ cap <= maxLen:=by
 obtain ⟨_,h | ⟨g',cap',cur,hv',_,_,h1,h2,_⟩⟩:=h
 ·simp at h
 ·simp only [Value.slice.injEq,Option.some.injEq] at hv'
  obtain ⟨_,_,rfl⟩:=hv'
  exact ⟨h1,h2⟩
theorem ZD (w:World) (o:zD):∀ j u,(zM [o])[j]? = some u -> (w.alloc (.cells #[.int .i64 o.k,.string o.t,.int .i64 o.a,.int .i64 o.b] 120)).cell? ((⟨w.heap.size,0,none⟩:Addr).add j) = some u:=by
 intro j u hj
 rw [Addr.add_mid]
 have:=World.rangeAt_of_block (w:=w.alloc (.cells #[.int .i64 o.k,.string o.t,.int .i64 o.a,.int .i64 o.b] 120)) (b:=w.heap.size) (heap_alloc_new w _) 0 4
 exact this j u (by simpa [zM] using hj)
def ZP (w:World) (n:Nat) (a:Option Addr) (us:List zD):Prop:=(us.length = 0 /\ a = none) \/ ∃ g,a = some ⟨g,0,none⟩ /\ n <= g /\ ZB w g us us.length
theorem ZP.grown {w w':World} {n:Nat} {a:Option Addr} {us:List zD} {row:Option Nat} (h:ZP w n a us) (hg:w.grownBy w' row) (hr:∀ k,row = some k -> k < n):ZP w' n a us:=by
 rcases h with h | ⟨g,rfl,hn,hf⟩
 ·exact Or.inl h
 ·exact Or.inr ⟨g,rfl,hn,hf.grown hg (fun e=>by have:=hr g e.symm; omega)⟩
theorem ZP.step {w w':World} {n:Nat} {a:Option Addr} {us:List zD} (h:ZP w n a us) (hb:Below w.heap.size w w'):ZP w' n a us:=
 h.grown (zO hb none) (fun k hk=>by cases hk)
theorem ZP.lt {w:World} {n:Nat} {a:Option Addr} {us:List zD} (h:ZP w n a us):∀ k,a.map (·.block) = some k -> n <= k /\ k < w.heap.size:=by
 rcases h with ⟨_,rfl⟩ | ⟨g,rfl,hn,hf⟩
 ·intro k hk; cases hk
 ·intro k hk; injection hk with hk; subst hk; exact ⟨hn,hf.1⟩
end Go.Proofs.YtgiemobdmbijiaaGreatDoor
