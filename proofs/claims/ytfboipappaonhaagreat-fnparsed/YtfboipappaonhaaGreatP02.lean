import Derived.Test.YtfboipappaonhaaGreatP00
import Derived.Test.YtfboipappaonhaaGreatP01
namespace Go.Proofs.YtfboipappaonhaaGreat
set_option maxHeartbeats 16000000
set_option maxRecDepth 100000
open Go.RowKit
theorem zBS (c:UInt8) (w:World) :
  Calls Tryz.prog 165 #[.int .u8 (c.toNat:Int)] w fun e w'=>e = .returned (.bool (decide (cls c = 2))) /\ w' = w:=by
 go_enter Tryz.func165,Tryz.ntmps165
 go_wp2
 all_goals (go_ret; refine ⟨zf ?_,rfl⟩; go_light; rw [Bool.eq_iff_iff]; simp [zNF] <;> omega)
def zIg (v:Bool) (p:Prop):Prop:=v = true ↔ p
def zCQ (e:Ending) (p:Prop):Prop:=∃ v:Bool,e = .returned (.bool v) /\ zIg v p
theorem zDC (s:ByteArray) (w:World) (hs:s.size <= maxLen) :
  Calls Tryz.prog 145 #[.string s] w fun e w'=>zCQ e (zDA s) /\ w' = w:=by
 unfold maxLen at hs
 go_enter Tryz.func145,Tryz.ntmps145
 go_wp2
 go_loop [3] (fun i=>∃ k:Nat,k <= s.size /\ i = .int .i64 k /\ Hid (∀ j,j < k -> cls (bt s j) = 2)) (fun i=>s.size - (intOf i).toNat)
 case atStart=>exact ⟨0,Nat.zero_le _,rfl,zB (fun j h=>by omega)⟩
 case round=>
  obtain ⟨k,hk,rfl,hn⟩:=hrel
  by_cases hlt:k < s.size
  ·cases hb:decide (cls s[k] = 2)
   ·have Hb:=zB hb
    go_wp2_with (go_at_call 165; refine (zBS _ _).mono ?_; rintro e w' ⟨rfl,rfl⟩)
    go_ret
    refine ⟨⟨_,rfl,⟨fun h=>(by cases h),fun h=>?_⟩⟩,rfl⟩
    have h2:=h.2 k hlt
    have:=zA Hb
    rw [ZM hlt] at this
    simp at this
    exact absurd h2 this
   ·have Hb:=zB hb
    go_wp2_with (go_at_call 165; refine (zBS _ _).mono ?_; rintro e w' ⟨rfl,rfl⟩)
    refine ⟨⟨k + 1,by omega,by go_num,zB (fun j hj=>?_)⟩,by simp [intOf]; omega⟩
    by_cases e:j = k
    ·subst e
     have:=zA Hb
     rw [ZM hlt] at this
     simpa using this
    ·exact (zA hn) j (by omega)
  ·by_cases h1:1 <= s.size
   ·have h1':(1:Int) <= (s.size:Int):=by omega
    go_wp2
    go_ret
    exact ⟨⟨_,rfl,⟨fun _=>⟨h1,fun j hj=>(zA hn) j (by omega)⟩,fun _=>by simp; omega⟩⟩,rfl⟩
   ·go_wp2
    go_ret
    exact ⟨⟨decide (0 < s.size),rfl,⟨fun h=>absurd (of_decide_eq_true h) (by omega),fun h=>absurd h.1 h1⟩⟩,rfl⟩
theorem zDT {a b:ByteArray} (h:a.toList = b.toList):a = b:=by
 rw [ByteArray.toList_eq,ByteArray.toList_eq] at h
 obtain ⟨⟨l⟩⟩:=a
 obtain ⟨⟨l'⟩⟩:=b
 simpa using h
theorem zA4 (c:UInt8) (w:World) :
  Calls Tryz.prog 164 #[.int .u8 (c.toNat:Int)] w fun e w'=>e = .returned (.bool (decide (cls c = 3))) /\ w' = w:=by
 go_enter Tryz.func164,Tryz.ntmps164
 go_wp2
 all_goals (go_ret; refine ⟨zf ?_,rfl⟩; go_light; rw [Bool.eq_iff_iff]; simp [zNG] <;> omega)
theorem zD6 (s:ByteArray) (w:World) (hs:s.size <= maxLen) :
  Calls Tryz.prog 146 #[.string s] w fun e w'=>zCQ e (zBH s) /\ w' = w:=by
 unfold maxLen at hs
 go_enter Tryz.func146,Tryz.ntmps146
 go_wp2
 go_loop [3] (fun i=>∃ k:Nat,k <= s.size /\ i = .int .i64 k /\ Hid (∀ j,j < k -> (cls (bt s j) = 3 \/ (j ≠ 0 /\ cls (bt s j) = 2)))) (fun i=>s.size - (intOf i).toNat)
 case atStart=>exact ⟨0,Nat.zero_le _,rfl,zB (fun j h=>by omega)⟩
 case round=>
  obtain ⟨k,hk,rfl,hn⟩:=hrel
  by_cases hlt:k < s.size
  ·have hbk:=zB (ZM hlt)
   have no:(¬ cls (bt s k) = 3) -> (k = 0 \/ ¬ cls (bt s k) = 2) -> ∀ v,v = false -> zIg v (zBH s):=fun h1 h2 v hv=>by
    subst hv
    refine ⟨fun h=>(by cases h),fun h=>?_⟩
    have:=h.2 k hlt
    omega
   have NO:=zB no
   clear no
   cases hb:decide (cls s[k] = 3)
   ·have hb3:=zB (show ¬ cls (bt s k) = 3 by rw [ZM hlt] at hb; simpa using hb)
    by_cases hk0:k = 0
    ·subst hk0
     go_wp2_with (go_at_call 164; refine (zA4 _ _).mono ?_; rintro e w' ⟨rfl,rfl⟩)
     go_ret
     exact ⟨⟨_,rfl,(zA NO) (zA hb3) (Or.inl trivial) _ rfl⟩,rfl⟩
    ·have hk0':((k:Int) == 0) = false:=by simp; omega
     cases hd:decide (cls s[k] = 2)
     ·have hd2:=zB (show ¬ cls (bt s k) = 2 by rw [ZM hlt] at hd; simpa using hd)
      go_wp2_with (first | (go_at_call 164; refine (zA4 _ _).mono ?_; rintro e w' ⟨rfl,rfl⟩) | (go_at_call 165; refine (zBS _ _).mono ?_; rintro e w' ⟨rfl,rfl⟩))
      go_ret
      exact ⟨⟨_,rfl,(zA NO) (zA hb3) (Or.inr (zA hd2)) _ rfl⟩,rfl⟩
     ·have hd2:=zB (show cls (bt s k) = 2 by rw [ZM hlt] at hd; simpa using hd)
      go_wp2_with (first | (go_at_call 164; refine (zA4 _ _).mono ?_; rintro e w' ⟨rfl,rfl⟩) | (go_at_call 165; refine (zBS _ _).mono ?_; rintro e w' ⟨rfl,rfl⟩))
      refine ⟨⟨k + 1,by omega,by go_num,zB (fun j hj=>?_)⟩,by simp [intOf]; omega⟩
      by_cases e:j = k
      ·subst e
       exact Or.inr ⟨hk0,zA hd2⟩
      ·exact (zA hn) j (by omega)
   ·have hb3:=zB (show cls (bt s k) = 3 by rw [ZM hlt] at hb; simpa using hb)
    go_wp2_with (go_at_call 164; refine (zA4 _ _).mono ?_; rintro e w' ⟨rfl,rfl⟩)
    refine ⟨⟨k + 1,by omega,by go_num,zB (fun j hj=>?_)⟩,by simp [intOf]; omega⟩
    by_cases e:j = k
    ·subst e
     exact Or.inl (zA hb3)
    ·exact (zA hn) j (by omega)
  ·by_cases h1:1 <= s.size
   ·have h1':(1:Int) <= (s.size:Int):=by omega
    go_wp2
    go_ret
    exact ⟨⟨_,rfl,⟨fun _=>⟨h1,fun j hj=>(zA hn) j (by omega)⟩,fun _=>by simp; omega⟩⟩,rfl⟩
   ·go_wp2
    go_ret
    exact ⟨⟨decide (0 < s.size),rfl,⟨fun h=>absurd (of_decide_eq_true h) (by omega),fun h=>absurd h.1 h1⟩⟩,rfl⟩
theorem zDq (c:UInt8) (w:World) :
  Calls Tryz.prog 158 #[.int .u8 (c.toNat:Int)] w fun e w'=>e = .returned (.bool (sgB c)) /\ w' = w:=by
 go_enter Tryz.func158,Tryz.ntmps158
 go_wp2
 rw [run_callFunc_extern Tryz.func169 (by kernel_rfl) (by kernel_rfl) (by kernel_rfl) (e:=Extern.BytealgIndexByte.indexByte) (by kernel_rfl),Lib.run_indexByteString]
 simp only [Result.andThen]
 rw [Oper.upon_value]
 go_wp2
 go_ret
 refine ⟨?_,rfl⟩
 exact congrArg (fun b=>Ending.returned (.bool b)) (zOI c)
theorem ZY (c:UInt8) (w:World) :
  Calls Tryz.prog 154 #[.int .u8 (c.toNat:Int)] w fun e w'=>e = .returned (.bool (sgB c)) /\ w' = w:=by
 go_enter Tryz.func154,Tryz.ntmps154
 go_wp2
 go_loop [4] (fun i=>∃ k:Nat,k <= 18 /\ i = .int .i64 k /\ ∀ j,j < k -> sgL.getD j 0 ≠ c) (fun i=>18 - (intOf i).toNat)
 case atStart=>exact ⟨0,by omega,rfl,fun j h=>by omega⟩
 case round=>
  obtain ⟨k,hk,rfl,hn⟩:=hrel
  by_cases hlt:k < 18
  ·go_wp2
   ·go_ret
    exact ⟨zf (zLa c k hlt (by rw [<- zKJ k hlt (by exact hlt)]; exact zOm _ _ ‹_›)).symm,rfl⟩
   ·refine ⟨⟨k + 1,by omega,by go_num,?_⟩,by simp [intOf]; omega⟩
    intro j hj
    by_cases e:j = k
    ·subst e
     rw [<- zKJ j hlt (by exact hlt)]
     exact zOn _ _ ‹_›
    ·exact hn j (by omega)
  ·go_wp2
   go_ret
   exact ⟨zf (zLZ c (fun j hj=>hn j (by omega))).symm,rfl⟩
theorem zE6 (c:UInt8) (w:World) :
  Calls Tryz.prog 103 #[.int .u8 (c.toNat:Int)] w fun e w'=>e = .returned (.bool (decide (cls c = 1))) /\ w' = w:=by
 go_enter Tryz.func103,Tryz.ntmps103
 go_wp2
 all_goals (go_ret; refine ⟨zf ?_,rfl⟩; go_light; (try simp only [beq_iff_eq,beq_eq_false_iff_ne,ne_eq] at *); rw [Bool.eq_iff_iff]; simp [zKu] <;> omega)
theorem zAj (b off cap:Nat) (xs:List OpR) (t:ByteArray) (kd:Int) (w:World) (hm:xs.length <= 1048576) (hw:Ops w b off xs) (hB:b < w.heap.size) :
  Calls Tryz.prog 97 #[.agg #[.slice (some ⟨b,off,none⟩) xs.length cap],.string t,.int .i64 kd] w fun e w'=>(∃ r:Int,e = .returned (.int .i64 r) /\ (0 <= r ↔ ∃ j,j < xs.length /\ (atO xs j).s = t /\ (atO xs j).k = kd)) /\ Below w.heap.size w w':=by
 go_enter Tryz.func97,Tryz.ntmps97
 go_wp2
 have hops:Ops (w.alloc (.cells #[.slice (some ⟨b,off,none⟩) xs.length cap] 25)) b off xs:=hw.below (zC _ _) hB
 have HO:=zB hops
 clear hops hw
 go_loop [7] (fun i=>∃ k:Nat,k <= xs.length /\ i = .int .i64 k /\ Hid (∀ j,j < k -> ¬ ((atO xs j).s = t /\ (atO xs j).k = kd))) (fun i=>xs.length - (intOf i).toNat)
 case atStart=>exact ⟨0,Nat.zero_le _,rfl,zB (fun j h=>by omega)⟩
 case round=>
  obtain ⟨k,hk,rfl,hn⟩:=hrel
  by_cases hlt:k < xs.length
  ·obtain ⟨a0,a1,a2,a3⟩:=(zA HO) k hlt
   have hnx:=zB (show ∀ (_:¬ ((atO xs k).s = t /\ (atO xs k).k = kd)),∀ j,j < k + 1 -> ¬ ((atO xs j).s = t /\ (atO xs j).k = kd) from fun hne j hj=>by
    by_cases e:j = k
    ·subst e; exact hne
    ·exact (zA hn) j (by omega))
   go_wp2
   ·rename_i hs1 hk1 _
    go_ret
    exact ⟨⟨(k:Int),rfl,⟨fun _=>⟨k,hlt,zDT hs1,by simpa using hk1⟩,fun _=>by omega⟩⟩,zC _ _⟩
   ·refine ⟨⟨k + 1,by omega,by go_num,zB ((zA hnx) ?_)⟩,by simp [intOf]; omega⟩
    rintro ⟨_,h⟩
    simp_all
   ·refine ⟨⟨k + 1,by omega,by go_num,zB ((zA hnx) ?_)⟩,by simp [intOf]; omega⟩
    rintro ⟨h,_⟩
    simp_all
  ·go_wp2
   go_ret
   refine ⟨⟨-1,rfl,⟨fun h=>absurd h (by decide),fun ⟨j,hj,h⟩=>absurd h ((zA hn) j (by omega))⟩⟩,zC _ _⟩
theorem zD7 (s:ByteArray) (k:Nat) (h:k < s.size) (hb:sgB s[k] = false):zDn s = false:=by
 simp [zDn,zKt s k h hb]
theorem zLl (s:ByteArray) (k:Nat) (hk:¬ k < s.size) (h:zFh (s.data.toList.take k) = true):zDn s = (decide (1 <= s.size) && decide (s.size <= 16)):=by
 rw [zLc s k hk] at h
 simp [zDn,h]
theorem zIh (s:ByteArray) (k:Nat) (h:k < s.size) (hs:zFh (s.data.toList.take k) = true) (hb:sgB s[k] = true):zFh (s.data.toList.take (k + 1)) = true:=by
 rw [zKs s k h,zLb,hs,hb]; rfl
theorem zDD (s:ByteArray) (w:World) (hs:s.size <= maxLen) :
  Calls Tryz.prog 142 #[.string s] w fun e w'=>e = .returned (.bool (zDn s)) /\ w' = w:=by
 unfold maxLen at hs
 go_enter Tryz.func142,Tryz.ntmps142
 go_wp2
 go_loop [3] (fun i=>∃ k:Nat,k <= s.size /\ i = .int .i64 k /\ Hid (zFh (s.data.toList.take k) = true)) (fun i=>s.size - (intOf i).toNat)
 case atStart=>exact ⟨0,Nat.zero_le _,rfl,zB rfl⟩
 case round=>
  obtain ⟨k,hk,rfl,hn⟩:=hrel
  by_cases hlt:k < s.size
  ·cases hb:sgB s[k]
   ·have Hb:=zB hb
    go_wp2_with (go_at_call 154; refine (ZY _ _).mono ?_; rintro e w' ⟨rfl,rfl⟩)
    go_ret
    exact ⟨zf (zD7 s k hlt (zA Hb)).symm,rfl⟩
   ·have Hb:=zB hb
    go_wp2_with (go_at_call 154; refine (ZY _ _).mono ?_; rintro e w' ⟨rfl,rfl⟩)
    exact ⟨⟨k + 1,by omega,by go_num,zB (zIh s k hlt (zA hn) (zA Hb))⟩,by simp [intOf]; omega⟩
  ·have ht:=zB (zLl s k hlt (zA hn))
   by_cases h1:1 <= s.size
   ·have h1':(1:Int) <= (s.size:Int):=by omega
    go_wp2
    go_ret
    exact ⟨zf (by rw [zA ht]; simp [h1]; omega),rfl⟩
   ·go_wp2
    go_ret
    exact ⟨zf (by rw [zA ht]; simp [h1]),rfl⟩
theorem Z7 (s:ByteArray) (w:World) (hs:s.size <= maxLen) :
  Calls Tryz.prog 140 #[.string s] w fun e w'=>e = .returned (.bool (zDn s)) /\ w' = w:=by
 unfold maxLen at hs
 by_cases h1:s.size < 1
 ·go_enter Tryz.func140,Tryz.ntmps140
  go_wp2
  go_ret
  exact ⟨zf (by simp [zDn]; omega),rfl⟩
 by_cases h2:16 < s.size
 ·go_enter Tryz.func140,Tryz.ntmps140
  go_wp2
  go_ret
  exact ⟨zf (by simp [zDn]; omega),rfl⟩
 go_enter Tryz.func140,Tryz.ntmps140
 go_wp2
 go_loop [14] (fun i=>∃ k:Nat,k <= s.size /\ i = .int .i64 k /\ Hid (zFh (s.data.toList.take k) = true)) (fun i=>s.size - (intOf i).toNat)
 case atStart=>exact ⟨0,Nat.zero_le _,rfl,zB rfl⟩
 case round=>
  obtain ⟨k,hk,rfl,hn⟩:=hrel
  by_cases hlt:k < s.size
  ·cases hb:sgB s[k]
   ·have Hb:=zB hb
    go_wp2_with (go_at_call 158; refine (zDq _ _).mono ?_; rintro e w' ⟨rfl,rfl⟩)
    go_ret
    exact ⟨zf (zD7 s k hlt (zA Hb)).symm,rfl⟩
   ·have Hb:=zB hb
    go_wp2_with (go_at_call 158; refine (zDq _ _).mono ?_; rintro e w' ⟨rfl,rfl⟩)
    exact ⟨⟨k + 1,by omega,by go_num,zB (zIh s k hlt (zA hn) (zA Hb))⟩,by simp [intOf]; omega⟩
  ·have ht:=zB (zLl s k hlt (zA hn))
   go_wp2
   go_ret
   exact ⟨zf (by rw [zA ht]; simp; omega),rfl⟩
theorem zJa (k:Int) (w:World) :
  Calls Tryz.prog 55 #[.int .i64 k] w fun e w'=>e = .returned (.int .i64 (zR k:Int)) /\ w' = w:=by
 by_cases h4:k = 4
 ·subst h4
  go_enter Tryz.func55,Tryz.ntmps55
  go_wp2
  go_ret
  exact ⟨zF (by simp [zR]),rfl⟩
 by_cases h3:k = 3
 ·subst h3
  go_enter Tryz.func55,Tryz.ntmps55
  go_wp2
  go_ret
  exact ⟨zF (by simp [zR]),rfl⟩
 by_cases h5:k = 5
 ·subst h5
  go_enter Tryz.func55,Tryz.ntmps55
  go_wp2
  go_ret
  exact ⟨zF (by simp [zR]),rfl⟩
 by_cases h6:k = 6
 ·subst h6
  go_enter Tryz.func55,Tryz.ntmps55
  go_wp2
  go_ret
  exact ⟨zF (by simp [zR]),rfl⟩
 have e4:(k == 4) = false:=by simpa using h4
 have e3:(k == 3) = false:=by simpa using h3
 have e5:(k == 5) = false:=by simpa using h5
 have e6:(k == 6) = false:=by simpa using h6
 have HK:=zB (show zR k = 0 by simp [zR,h4,h3,h5,h6])
 clear h4 h3 h5 h6
 go_enter Tryz.func55,Tryz.ntmps55
 go_wp2
 go_ret
 exact ⟨zF (by rw [zA HK]; rfl),rfl⟩
theorem zN {k:Int} {n:Nat} (h:zR k = n) (z:Int) (hz:(n:Int) = z) (w:World) :
  Calls Tryz.prog 55 #[.int .i64 k] w fun e w'=>e = .returned (.int .i64 z) /\ w' = w:=by
 subst hz
 subst h
 exact zJa k w
def frI (xs:List zD) (i:Nat):Int:=match frS xs i with
 | some f=>(f:Int)
 | none=>-1
theorem zFm {xs:List zD} {i f:Nat} (h:frS xs i = some f):frI xs i = (f:Int):=by unfold frI; rw [h]
theorem zAN {xs:List zD} {i:Nat} (h:frS xs i = none):frI xs i = -1:=by unfold frI; rw [h]
theorem zFn (a:Option Addr) (n cap:Nat) (w:World) :
  Calls Tryz.prog 120 #[.slice a n cap,.int .i64 (-1)] w fun e w'=>e = .returned (.int .i64 (-1)) /\ w' = w:=by
 go_enter Tryz.func120,Tryz.ntmps120
 go_wp2
 go_ret
 exact ⟨rfl,rfl⟩
theorem zDr (b off cap:Nat) (xs:List zD) (hm:xs.length <= 1048576):∀ (n i:Nat) (w:World),i < n -> i < xs.length -> Zw w b off xs -> b < w.heap.size ->
  Calls Tryz.prog 120 #[.slice (some ⟨b,off,none⟩) xs.length cap,.int .i64 (i:Int)] w fun e w'=>e = .returned (.int .i64 (frI xs i)) /\ Below w.heap.size w w'
 | 0,_,_,h,_,_,_=>absurd h (Nat.not_lt_zero _)
 | n + 1,i,w,hin,hi,hw,hB=>by
  obtain ⟨h0,h1,h2,h3⟩:=hw i hi
  have IH:=zB (zDr b off cap xs hm n)
  have HW:=zB hw
  have hiI:(i:Int) < (xs.length:Int):=by omega
  have hi0:¬ (i:Int) < 0:=by omega
  clear hw
  rcases zBJ (atN xs i).k with hk | hk | hk
  ·have HK:=zB hk
   have HF:=zB (zD4 hk)
   clear hk
   by_cases ha:(atN xs i).a = 0
   ·rw [ha] at h2
    by_cases hb:(atN xs i).b = 0
    ·rw [hb] at h3
     have HR:=zB (show frI xs i = (i:Int) from zFm (by rw [zA HF,if_pos ⟨ha,hb⟩]))
     clear ha hb
     go_enter Tryz.func120,Tryz.ntmps120
     go_wp2_with (go_at_call 55; refine (zN (zA HK) 0 rfl _).mono ?_; rintro e w' ⟨rfl,rfl⟩)
     go_ret
     exact ⟨zF (zA HR).symm,zC _ _⟩
    ·have hb':((atN xs i).b == 0) = false:=by simpa using hb
     have hb'':((atN xs i).b != 0) = true:=by simpa using hb
     have HR:=zB (show frI xs i = -1 from zAN (by rw [zA HF,if_neg (fun h=>hb h.2)]))
     clear ha hb
     go_enter Tryz.func120,Tryz.ntmps120
     go_wp2_with (go_at_call 55; refine (zN (zA HK) 0 rfl _).mono ?_; rintro e w' ⟨rfl,rfl⟩)
     go_ret
     exact ⟨zF (zA HR).symm,zC _ _⟩
   ·have ha':((atN xs i).a == 0) = false:=by simpa using ha
    have ha'':((atN xs i).a != 0) = true:=by simpa using ha
    have HR:=zB (show frI xs i = -1 from zAN (by rw [zA HF,if_neg (fun h=>ha h.1)]))
    clear ha
    go_enter Tryz.func120,Tryz.ntmps120
    go_wp2_with (go_at_call 55; refine (zN (zA HK) 0 rfl _).mono ?_; rintro e w' ⟨rfl,rfl⟩)
    go_ret
    exact ⟨zF (zA HR).symm,zC _ _⟩
  ·have HK:=zB hk
   have HF:=zB (zFR hk)
   clear hk
   by_cases ha:(atN xs i).a = (i:Int) - 1
   ·rw [ha] at h2
    by_cases hb:(atN xs i).b = 0
    ·rw [hb] at h3
     by_cases h1i:1 <= i
     ·have HR:=zB (show frI xs i = frI xs (i - 1) by unfold frI; rw [zA HF,if_pos ⟨h1i,ha,hb⟩])
      have ei:(i:Int) - 1 = ((i - 1:Nat):Int):=by omega
      clear ha hb
      go_enter Tryz.func120,Tryz.ntmps120
      go_wp2_with (first | (go_at_call 55; refine (zN (zA HK) 1 rfl _).mono ?_; rintro e w' ⟨rfl,rfl⟩) | (go_at_call 120; refine ((zA IH) (i - 1) _ (by omega) (by omega) ((zA HW).below (zC _ _) hB) (by simp; omega)).mono ?_; rintro e w' ⟨rfl,hb1⟩))
      go_ret
      exact ⟨zF (zA HR).symm,(zC _ _).trans (hb1.mono (by simp))⟩
     ·have HR:=zB (show frI xs i = -1 from zAN (by rw [zA HF,if_neg (fun h=>h1i h.1)]))
      have ei:(i:Int) - 1 = -1:=by omega
      clear ha hb h1i
      go_enter Tryz.func120,Tryz.ntmps120
      go_wp2_with (first | (go_at_call 55; refine (zN (zA HK) 1 rfl _).mono ?_; rintro e w' ⟨rfl,rfl⟩) | (go_at_call 120; refine (zFn _ _ _ _).mono ?_; rintro e w' ⟨rfl,rfl⟩))
      go_ret
      exact ⟨zF (zA HR).symm,zC _ _⟩
    ·have hb':((atN xs i).b == 0) = false:=by simpa using hb
     have hb'':((atN xs i).b != 0) = true:=by simpa using hb
     have HR:=zB (show frI xs i = -1 from zAN (by rw [zA HF,if_neg (fun h=>hb h.2.2)]))
     clear ha hb
     go_enter Tryz.func120,Tryz.ntmps120
     go_wp2_with (go_at_call 55; refine (zN (zA HK) 1 rfl _).mono ?_; rintro e w' ⟨rfl,rfl⟩)
     go_ret
     exact ⟨zF (zA HR).symm,zC _ _⟩
   ·have ha':((atN xs i).a == (i:Int) - 1) = false:=by simpa using ha
    have ha'':((atN xs i).a != (i:Int) - 1) = true:=by simpa using ha
    have HR:=zB (show frI xs i = -1 from zAN (by rw [zA HF,if_neg (fun h=>ha h.2.1)]))
    clear ha
    go_enter Tryz.func120,Tryz.ntmps120
    go_wp2_with (go_at_call 55; refine (zN (zA HK) 1 rfl _).mono ?_; rintro e w' ⟨rfl,rfl⟩)
    go_ret
    exact ⟨zF (zA HR).symm,zC _ _⟩
  ·have HK:=zB hk
   have HN:=zB (zD5 (xs:=xs) (i:=i) hk)
   have HP:=zB (fun (p1:1 <= i) p2 f p3 p4 p5=>zFS (xs:=xs) (i:=i) (f:=f) hk p1 p2 p3 p4 p5)
   clear hk
   by_cases hb:(atN xs i).b = (i:Int) - 1
   case neg=>
    have hb':((atN xs i).b == (i:Int) - 1) = false:=by simpa using hb
    have hb'':((atN xs i).b != (i:Int) - 1) = true:=by simpa using hb
    have HR:=zB (show frI xs i = -1 from zAN ((zA HN) (fun h=>hb h.2.1)))
    clear hb
    go_enter Tryz.func120,Tryz.ntmps120
    go_wp2_with (go_at_call 55; refine (zN (zA HK) 2 rfl _).mono ?_; rintro e w' ⟨rfl,rfl⟩)
    go_ret
    exact ⟨zF (zA HR).symm,zC _ _⟩
   rw [hb] at h3
   by_cases h1i:1 <= i
   case neg=>
    have HR:=zB (show frI xs i = -1 from zAN ((zA HN) (fun h=>h1i h.1)))
    have ei:(i:Int) - 1 = -1:=by omega
    clear hb h1i
    go_enter Tryz.func120,Tryz.ntmps120
    go_wp2_with (first | (go_at_call 55; refine (zN (zA HK) 2 rfl _).mono ?_; rintro e w' ⟨rfl,rfl⟩) | (go_at_call 120; refine (zFn _ _ _ _).mono ?_; rintro e w' ⟨rfl,rfl⟩))
    go_ret
    exact ⟨zF (zA HR).symm,zC _ _⟩
   have ei:(i:Int) - 1 = ((i - 1:Nat):Int):=by omega
   cases hf:frS xs (i - 1) with
   | none=>
    have HR:=zB (show frI xs i = -1 from zAN ((zA HN) (fun ⟨_,_,f,h,_⟩=>by rw [hf] at h; cases h)))
    have HI:=zB (zAN hf)
    clear hb hf
    go_enter Tryz.func120,Tryz.ntmps120
    go_wp2_with (first | (go_at_call 55; refine (zN (zA HK) 2 rfl _).mono ?_; rintro e w' ⟨rfl,rfl⟩) | (go_at_call 120; refine ((zA IH) (i - 1) _ (by omega) (by omega) ((zA HW).below (zC _ _) hB) (by simp; omega)).mono ?_; rw [zA HI]; rintro e w' ⟨rfl,hb1⟩))
    go_ret
    exact ⟨zF (zA HR).symm,(zC _ _).trans (hb1.mono (by simp))⟩
   | some f=>
    have hle:=zAM hf
    have HI:=zB (zFm hf)
    by_cases hf1:1 <= f
    case neg=>
     have HR:=zB (show frI xs i = -1 from zAN ((zA HN) (fun ⟨_,_,f',h,h',_⟩=>by rw [hf] at h; injection h with h; omega)))
     have hf0:(f:Int) < 1:=by omega
     clear hb hf
     go_enter Tryz.func120,Tryz.ntmps120
     go_wp2_with (first | (go_at_call 55; refine (zN (zA HK) 2 rfl _).mono ?_; rintro e w' ⟨rfl,rfl⟩) | (go_at_call 120; refine ((zA IH) (i - 1) _ (by omega) (by omega) ((zA HW).below (zC _ _) hB) (by simp; omega)).mono ?_; rw [zA HI]; rintro e w' ⟨rfl,hb1⟩))
     go_ret
     exact ⟨zF (zA HR).symm,(zC _ _).trans (hb1.mono (by simp))⟩
    have hf0:¬ (f:Int) < 1:=by omega
    have hfm:(f:Int) <= 1048576:=by omega
    by_cases ha:(atN xs i).a = (f:Int) - 1
    case neg=>
     have ha':((atN xs i).a == (f:Int) - 1) = false:=by simpa using ha
     have ha'':((atN xs i).a != (f:Int) - 1) = true:=by simpa using ha
     have HR:=zB (show frI xs i = -1 from zAN ((zA HN) (fun ⟨_,_,f',h,_,h'⟩=>by rw [hf] at h; injection h with h; subst h; exact ha h')))
     clear hb hf ha
     go_enter Tryz.func120,Tryz.ntmps120
     go_wp2_with (first | (go_at_call 55; refine (zN (zA HK) 2 rfl _).mono ?_; rintro e w' ⟨rfl,rfl⟩) | (go_at_call 120; refine ((zA IH) (i - 1) _ (by omega) (by omega) ((zA HW).below (zC _ _) hB) (by simp; omega)).mono ?_; rw [zA HI]; rintro e w' ⟨rfl,hb1⟩; have c1:w'.cell? ⟨w.heap.size,2,none⟩ = some (.int .i64 (atN xs i).a):=(hb1.cell (p:=⟨w.heap.size,2,none⟩) (by simp)).trans (by simp [go_sem])))
     go_ret
     exact ⟨zF (zA HR).symm,(zC _ _).trans (hb1.mono (by simp))⟩
    rw [ha] at h2
    have HR:=zB (show frI xs i = frI xs (f - 1) by unfold frI; rw [(zA HP) h1i hb f hf hf1 ha])
    have ef:(f:Int) - 1 = ((f - 1:Nat):Int):=by omega
    clear hb hf ha
    go_enter Tryz.func120,Tryz.ntmps120
    go_wp2_with (go_at_call 55; refine (zN (zA HK) 2 rfl _).mono ?_; rintro e w' ⟨rfl,rfl⟩)
    refine ((zA IH) (i - 1) _ (by omega) (by omega) ((zA HW).below (zC _ _) hB) (by simp; omega)).mono ?_
    rw [zA HI]
    rintro e w1 ⟨rfl,hb1⟩
    have c1:w1.cell? ⟨w.heap.size,2,none⟩ = some (.int .i64 ((f:Int) - 1)):=(hb1.cell (p:=⟨w.heap.size,2,none⟩) (by simp)).trans (by simp [go_sem,ef])
    go_wp2_with fail
    refine ((zA IH) (f - 1) _ (by omega) (by omega) ((zA HW).below ((zC _ _).trans (hb1.mono (by simp))) hB) (by have:=hb1.size; simp at this; omega)).mono ?_
    rintro e w2 ⟨rfl,hb2⟩
    go_wp2_with fail
    go_ret
    exact ⟨zF (zA HR).symm,((zC _ _).trans (hb1.mono (by simp))).trans (hb2.mono (by have:=hb1.size; simp at this; omega))⟩
theorem Zf (c:UInt8) (w:World) :
  Calls Tryz.prog 125 #[.int .u8 (c.toNat:Int)] w fun e w'=>e = .returned (.int .i64 (cls c:Int)) /\ w' = w:=by
 have hsg:=zEg c
 go_enter Tryz.func125,Tryz.ntmps125
 go_wp2_with (go_at_call 158; refine (zDq _ _).mono ?_; rintro e w' ⟨rfl,hx⟩; obtain rfl:=hx.symm)
 all_goals (go_ret; refine ⟨zF ?_,rfl⟩; go_light; (try simp only [beq_iff_eq,beq_eq_false_iff_ne,ne_eq] at *); unfold cls; (repeat' split) <;> (try simp_all) <;> (try omega))
def zBT (first:Nat) (c:UInt8):Bool:=decide (cls c = 2 \/ (cls c = 3 /\ first = 3))
theorem zCR (first:Nat) (c:UInt8) (w:World) :
  Calls Tryz.prog 159 #[.int .i64 (first:Int),.int .u8 (c.toNat:Int)] w fun e w'=>e = .returned (.bool (zBT first c)) /\ w' = w:=by
 by_cases h2:cls c = 2
 ·have HR:=zB (show zBT first c = true by simp [zBT,h2])
  have HC:=zB (show (cls c:Int) = 2 by omega)
  clear h2
  go_enter Tryz.func159,Tryz.ntmps159
  go_wp2_with (go_at_call 125; refine (Zf _ _).mono ?_; rw [zA HC]; rintro e w' ⟨rfl,hx⟩; obtain rfl:=hx.symm)
  go_ret
  exact ⟨zf (zA HR).symm,rfl⟩
 by_cases h3:cls c = 3
 ·have HC:=zB (show (cls c:Int) = 3 by omega)
  by_cases hf:first = 3
  ·have HR:=zB (show zBT first c = true by simp [zBT,h3,hf])
   subst hf
   clear h2 h3
   go_enter Tryz.func159,Tryz.ntmps159
   go_wp2_with (go_at_call 125; refine (Zf _ _).mono ?_; rw [zA HC]; rintro e w' ⟨rfl,hx⟩; obtain rfl:=hx.symm)
   go_ret
   exact ⟨zf (zA HR).symm,rfl⟩
  ·have HR:=zB (show zBT first c = false by simp [zBT,h3,hf])
   have hf':((first:Int) == 3) = false:=by simp; omega
   clear h2 h3 hf
   go_enter Tryz.func159,Tryz.ntmps159
   go_wp2_with (go_at_call 125; refine (Zf _ _).mono ?_; rw [zA HC]; rintro e w' ⟨rfl,hx⟩; obtain rfl:=hx.symm)
   go_ret
   exact ⟨zf (zA HR).symm,rfl⟩
 ·have HR:=zB (show zBT first c = false by simp [zBT,h2,h3])
  have h2':((cls c:Int) == 2) = false:=by simp; omega
  have h3':((cls c:Int) == 3) = false:=by simp; omega
  clear h2 h3
  go_enter Tryz.func159,Tryz.ntmps159
  go_wp2_with (go_at_call 125; refine (Zf _ _).mono ?_; rintro e w' ⟨rfl,hx⟩; obtain rfl:=hx.symm)
  go_ret
  exact ⟨zf (zA HR).symm,rfl⟩
theorem zKM (t:ByteArray):∀ (n i:Nat) (r:List UInt8),n = t.size - i -> r ≠ [] -> ByteArray.toList.loop t i r ≠ []
 | 0,i,r,h,hr=>by
  unfold ByteArray.toList.loop
  rw [if_neg (by omega)]
  simpa using hr
 | n + 1,i,r,h,hr=>by
  unfold ByteArray.toList.loop
  rw [if_pos (by omega)]
  exact zKM t n (i + 1) _ (by omega) (by simp)
theorem zEi {t:ByteArray} (h:t.size ≠ 0):t.toList.isEmpty = false:=by
 rw [List.isEmpty_eq_false_iff]
 unfold ByteArray.toList ByteArray.toList.loop
 rw [if_pos (by omega)]
 exact zKM t (t.size - 1) 1 _ rfl (by simp)
theorem zEj {t:ByteArray} (h:t.size = 0):t = ⟨#[]⟩:=by
 obtain ⟨d⟩:=t
 congr 1
 exact Array.eq_empty_of_size_eq_zero h
theorem zL {p:Prop} (h:¬ p):zIg false p:=⟨fun e=>(by cases e),fun e=>absurd e h⟩
theorem Ze {p:Prop} (h:p):zIg true p:=⟨fun _=>h,fun _=>rfl⟩
end Go.Proofs.YtfboipappaonhaaGreat
