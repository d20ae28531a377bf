import Derived.Test.YtgiemobdmbijiaaGreatDoorN00
import Derived.Test.YtgiemobdmbijiaaGreatDoorN01
import Derived.Test.YtgiemobdmbijiaaGreatDoorN13
import Derived.Test.YtgiemobdmbijiaaGreatDoorN14
namespace Go.Proofs.YtgiemobdmbijiaaGreatDoor
set_option linter.unusedSimpArgs false
set_option linter.unusedVariables false
set_option maxHeartbeats 16000000
set_option maxRecDepth 100000
open Go.RowKit
theorem ZW {t:ByteArray} {l:List UInt8} (h:(t.toList == l) = true):t = ⟨l.toArray⟩:=by
 have h:t.toList = l:=by simpa using h
 rw [ByteArray.toList_eq] at h
 obtain ⟨d⟩:=t
 subst h
 simp
theorem zj {t:ByteArray} {l:List UInt8} (h:(t.toList == l) = false):t ≠ ⟨l.toArray⟩:=fun e=>by
 subst e
 simp [ByteArray.toList_eq] at h
theorem zCt {t:ByteArray} {l:List UInt8} (h:t ≠ ⟨l.toArray⟩):(t.toList == l) = false:=by
 cases e:(t.toList == l)
 ·rfl
 ·exact absurd (ZW e) h
def zBh (w:ByteArray):Int:=if w = Zi then 1 else if w = Z7 then 2 else if w = ZN then 3 else 0
theorem zJs (t:ByteArray) (w:World) :
  Calls Tryz.prog 24 #[.string t] w fun e w'=>e = .returned (.int .i64 (ZM t)) /\ w' = w:=by
 cases q1:(t.toList == [108,101,102,116])
 ·cases q2:(t.toList == [114,105,103,104,116])
  ·cases q3:(t.toList == [110,111,110,101])
   ·have HR:=zB (show ZM t = 0 by unfold ZM zCd zBZ zCe; rw [if_neg (zj q1),if_neg (zj q2),if_neg (zj q3)])
    go_enter Tryz.func24,Tryz.ntmps24
    go_wp2
    go_ret
    exact ⟨zG (zA HR).symm,rfl⟩
   ·have HR:=zB (show ZM t = 3 by unfold ZM zCd zBZ zCe; rw [if_neg (zj q1),if_neg (zj q2),if_pos (ZW q3)])
    go_enter Tryz.func24,Tryz.ntmps24
    go_wp2
    go_ret
    exact ⟨zG (zA HR).symm,rfl⟩
  ·have HR:=zB (show ZM t = 2 by unfold ZM zCd zBZ zCe; rw [if_neg (zj q1),if_pos (ZW q2)])
   go_enter Tryz.func24,Tryz.ntmps24
   go_wp2
   go_ret
   exact ⟨zG (zA HR).symm,rfl⟩
 ·have HR:=zB (show ZM t = 1 by unfold ZM zCd zBZ zCe; rw [if_pos (ZW q1)])
  go_enter Tryz.func24,Tryz.ntmps24
  go_wp2
  go_ret
  exact ⟨zG (zA HR).symm,rfl⟩
theorem zF4 (t:ByteArray) (w:World) :
  Calls Tryz.prog 45 #[.string t] w fun e w'=>e = .returned (.int .i64 (ZM t)) /\ w' = w:=by
 cases q1:(t.toList == [108,101,102,116])
 ·cases q2:(t.toList == [114,105,103,104,116])
  ·cases q3:(t.toList == [110,111,110,101])
   ·have HR:=zB (show ZM t = 0 by unfold ZM zCd zBZ zCe; rw [if_neg (zj q1),if_neg (zj q2),if_neg (zj q3)])
    go_enter Tryz.func45,Tryz.ntmps45
    go_wp2
    go_ret
    exact ⟨zG (zA HR).symm,rfl⟩
   ·have HR:=zB (show ZM t = 3 by unfold ZM zCd zBZ zCe; rw [if_neg (zj q1),if_neg (zj q2),if_pos (ZW q3)])
    go_enter Tryz.func45,Tryz.ntmps45
    go_wp2
    go_ret
    exact ⟨zG (zA HR).symm,rfl⟩
  ·have HR:=zB (show ZM t = 2 by unfold ZM zCd zBZ zCe; rw [if_neg (zj q1),if_pos (ZW q2)])
   go_enter Tryz.func45,Tryz.ntmps45
   go_wp2
   go_ret
   exact ⟨zG (zA HR).symm,rfl⟩
 ·have HR:=zB (show ZM t = 1 by unfold ZM zCd zBZ zCe; rw [if_pos (ZW q1)])
  go_enter Tryz.func45,Tryz.ntmps45
  go_wp2
  go_ret
  exact ⟨zG (zA HR).symm,rfl⟩
theorem zF5 (t:ByteArray) (w:World) :
  Calls Tryz.prog 44 #[.string t] w fun e w'=>e = .returned (.int .i64 (zBh t)) /\ w' = w:=by
 cases q1:(t.toList == [112,114,101,102,105,120])
 ·cases q2:(t.toList == [105,110,102,105,120])
  ·cases q3:(t.toList == [112,111,115,116,102,105,120])
   ·have HR:=zB (show zBh t = 0 by unfold zBh Zi Z7 ZN; rw [if_neg (zj q1),if_neg (zj q2),if_neg (zj q3)])
    go_enter Tryz.func44,Tryz.ntmps44
    go_wp2
    go_ret
    exact ⟨zG (zA HR).symm,rfl⟩
   ·have HR:=zB (show zBh t = 3 by unfold zBh Zi Z7 ZN; rw [if_neg (zj q1),if_neg (zj q2),if_pos (ZW q3)])
    go_enter Tryz.func44,Tryz.ntmps44
    go_wp2
    go_ret
    exact ⟨zG (zA HR).symm,rfl⟩
  ·have HR:=zB (show zBh t = 2 by unfold zBh Zi Z7 ZN; rw [if_neg (zj q1),if_pos (ZW q2)])
   go_enter Tryz.func44,Tryz.ntmps44
   go_wp2
   go_ret
   exact ⟨zG (zA HR).symm,rfl⟩
 ·have HR:=zB (show zBh t = 1 by unfold zBh Zi Z7 ZN; rw [if_pos (ZW q1)])
  go_enter Tryz.func44,Tryz.ntmps44
  go_wp2
  go_ret
  exact ⟨zG (zA HR).symm,rfl⟩
def zCu (t:ByteArray):Bool:=decide (t.size <= 6) && zNO t
def zF6 (t:ByteArray):Int:=if zCu t = true then (zx t t.size:Int) else -1
theorem zB5 (t:ByteArray):zCu t = true ↔ zJW t:=by
 unfold zCu zJW
 rw [Bool.and_eq_true,Zb,decide_eq_true_iff]
 unfold zDS
 constructor
 ·rintro ⟨h1,h2,h3⟩
  exact ⟨h2,h1,fun i hi=>(zCA _).1 (h3 i hi)⟩
 ·rintro ⟨h1,h2,h3⟩
  exact ⟨h2,h1,fun i hi=>(zCA _).2 (h3 i hi)⟩
theorem zCY (t:ByteArray) (w:World) (hs:t.size <= maxLen) :
  Calls Tryz.prog 42 #[.string t] w fun e w'=>e = .returned (.bool (zCu t)) /\ w' = w:=by
 by_cases h6:t.size <= 6
 ·have h6I:(t.size:Int) <= 6:=by omega
  have HE:=zB (show ∀ v,zIX v (zHB 2 t) -> v = zCu t from fun v hv=>by
   have:(v = true ↔ zCu t = true):=by
    rw [zB5]
    unfold zIX at hv
    rw [hv,zNr]
    unfold zDS zJW
    constructor
    ·rintro ⟨a,b⟩; exact ⟨a,h6,fun i hi=>(zCA _).1 (b i hi)⟩
    ·rintro ⟨a,_,b⟩; exact ⟨a,fun i hi=>(zCA _).2 (b i hi)⟩
   exact Bool.eq_iff_iff.2 this)
  go_enter Tryz.func42,Tryz.ntmps42
  go_wp2_with (go_at_call 70; refine (zJr 2 _ _ hs).mono ?_; rintro e w' ⟨⟨v,rfl,hv⟩,hx⟩; obtain rfl:=hx.symm; have HV:=zB hv; clear hv)
  go_ret
  exact ⟨ZA ((zA HE) _ (zA HV)),rfl⟩
 ·have h6I:¬ (t.size:Int) <= 6:=by omega
  have HE:=zB (show zCu t = false by unfold zCu; simp [h6])
  unfold maxLen at hs
  go_enter Tryz.func42,Tryz.ntmps42
  go_wp2
  go_ret
  exact ⟨ZA (zA HE).symm,rfl⟩
theorem zCv (t:ByteArray) (w:World) (hs:t.size <= maxLen) :
  Calls Tryz.prog 23 #[.string t] w fun e w'=>e = .returned (.int .i64 (zF6 t)) /\ w' = w:=by
 by_cases hn:zDS t
 case neg=>
  have HR:=zB (show zF6 t = -1 by
   unfold zF6
   rw [if_neg]
   rw [zB5]
   exact fun h=>hn ⟨h.1,fun i hi=>(zCA _).2 (h.2.2 i hi)⟩)
  have HN:=zB hn
  clear hn
  go_enter Tryz.func23,Tryz.ntmps23
  go_wp2_with (go_at_call 39; refine (zAB _ _ hs).mono ?_; rintro e w' ⟨⟨v,rfl,hv⟩,hx⟩; obtain rfl:=hx.symm; obtain rfl:v = false:=(by cases v; rfl; exact absurd (hv.1 rfl) (zA HN)); clear hv)
  go_ret
  exact ⟨zG (zA HR).symm,rfl⟩
 by_cases h6:t.size <= 6
 case neg=>
  have h6I:(6:Int) < (t.size:Int):=by omega
  have HR:=zB (show zF6 t = -1 by
   unfold zF6 zCu
   simp [h6])
  have HN:=zB hn
  have hs2:=hs
  unfold maxLen at hs2
  clear hn
  go_enter Tryz.func23,Tryz.ntmps23
  go_wp2_with (go_at_call 39; refine (zAB _ _ hs).mono ?_; rintro e w' ⟨⟨v,rfl,hv⟩,hx⟩; obtain rfl:=hx.symm; obtain rfl:v = true:=(by cases v; exact (hv.2 (zA HN)); rfl); clear hv)
  go_ret
  exact ⟨zG (zA HR).symm,rfl⟩
 have h6I:(t.size:Int) <= 6:=by omega
 have hdig:∀ i,i < t.size -> 48 <= (bt t i).toNat /\ (bt t i).toNat <= 57:=fun i hi=>(zCA _).1 (hn.2 i hi)
 have hval:∀ k,k <= t.size -> zx t k < 1000000:=fun k hk=>by
  have h:=zDj t hdig k hk
  have h2:10 ^ k <= 10 ^ 6:=Nat.pow_le_pow_right (by decide) (by omega)
  omega
 have HR:=zB (show zF6 t = (zx t t.size:Int) by
  unfold zF6
  rw [if_pos]
  rw [zB5]
  exact ⟨hn.1,h6,hdig⟩)
 have HD:=zB hdig
 have HV:=zB hval
 have HN:=zB hn
 clear hn hdig hval
 go_enter Tryz.func23,Tryz.ntmps23
 go_wp2_with (go_at_call 39; refine (zAB _ _ hs).mono ?_; rintro e w' ⟨⟨v,rfl,hv⟩,hx⟩; obtain rfl:=hx.symm; obtain rfl:v = true:=(by cases v; exact (hv.2 (zA HN)); rfl); clear hv)
 go_loop [3,4] (fun x i=>∃ k:Nat,k <= t.size /\ i = .int .i64 (k:Int) /\ x = .int .i64 (zx t k:Int)) (fun _ i=>t.size - (intOf i).toNat)
 case atStart=>exact ⟨0,Nat.zero_le _,rfl,rfl⟩
 case round=>
  obtain ⟨k,hk,rfl,rfl⟩:=hrel
  by_cases hlt:k < t.size
  ·have hltI:(k:Int) < (t.size:Int):=by omega
   have h1:=(zA HV) k hk
   obtain ⟨d1,d2⟩:=(zA HD) k hlt
   have hb:=ZH hlt
   rw [<- hb] at d1 d2
   have HB:=zB hb
   have d1I:(48:Int) <= (t[k].toNat:Int):=by omega
   have d2I:(t[k].toNat:Int) <= 57:=by omega
   have h1I:(zx t k:Int) < 1000000:=by omega
   have h0I:(0:Int) <= (zx t k:Int):=by omega
   clear hb
   go_wp2
   refine ⟨⟨k + 1,by omega,by go_num,?_⟩,by simp [intOf]; omega⟩
   simp only [zx]
   rw [<- zA HB]
   go_num
  ·have HK:=zB (show k = t.size by omega)
   go_wp2
   go_ret
   exact ⟨zG (by rw [zA HR,zA HK]),rfl⟩
def zFB (s:ByteArray) (k f:Nat) (us:List ByteArray):Prop:=
 (k <= s.size /\ f <= k /\ (∀ j,f <= j -> j < k -> bt s j ≠ 32) /\ us ++ zAg s f = wds s) \/ (k = s.size + 1 /\ us = wds s)
theorem zFB.start (s:ByteArray):zFB s 0 0 []:=Or.inl ⟨Nat.zero_le _,Nat.le_refl _,fun j h1 h2=>by omega,rfl⟩
theorem zFB.skip {s:ByteArray} {k f:Nat} {us:List ByteArray} (h:zFB s k f us) (hk:k < s.size) (hb:bt s k ≠ 32):zFB s (k + 1) f us:=by
 rcases h with ⟨h1,h2,h3,h4⟩ | ⟨h1,_⟩
 ·refine Or.inl ⟨by omega,by omega,fun j j1 j2=>?_,h4⟩
  by_cases e:j = k
  ·subst e; exact hb
  ·exact h3 j j1 (by omega)
 ·omega
def zIv (s:ByteArray) (f k:Nat) (us:List ByteArray):List ByteArray:=us ++ (if f < k then [s.extract f k] else [])
theorem zMM {s:ByteArray} {f k:Nat} {us:List ByteArray} (h:f < k):zIv s f k us = us ++ [s.extract f k]:=by unfold zIv; rw [if_pos h]
theorem zNs {s:ByteArray} {f k:Nat} {us:List ByteArray} (h:¬ f < k):zIv s f k us = us:=by unfold zIv; rw [if_neg h]; simp
theorem zFB.put {s:ByteArray} {k f:Nat} {us:List ByteArray} (h:zFB s k f us) (hk:k <= s.size) (hb:k = s.size \/ bt s k = 32):zFB s (k + 1) (k + 1) (zIv s f k us):=by
 rcases h with ⟨h1,h2,h3,h4⟩ | ⟨h1,_⟩
 ·have hx:nx 32 s f = k:=zFX (by omega) h2 h1 h3 (fun hl=>hb.elim (fun e=>by omega) (fun e=>e))
  rw [zAv s f (by omega),hx] at h4
  unfold zIv
  by_cases hl:k < s.size
  ·rw [if_pos hl,<- List.append_assoc] at h4
   exact Or.inl ⟨by omega,Nat.le_refl _,fun j j1 j2=>by omega,h4⟩
  ·rw [if_neg hl,List.append_nil] at h4
   exact Or.inr ⟨by omega,h4⟩
 ·omega
theorem zFB.fin {s:ByteArray} {k f:Nat} {us:List ByteArray} (h:zFB s k f us) (hk:¬ k <= s.size):us = wds s:=by
 rcases h with ⟨h1,_⟩ | ⟨_,h⟩
 ·omega
 ·exact h
theorem zJt (w:World):za (w.alloc (.cells #[] 9)) w.heap.size (.slice (some ⟨w.heap.size,0,none⟩) 0 0) []:=by
 have:=World.ownsRow_lit (base:=w.heap.size) (e:=9) (size:=1) w #[] 0 (Nat.le_refl _) (Nat.zero_le _) rfl
 simpa [za,zH] using this
def zKs (w:World) (s:ByteArray) (e:Ending) (w':World):Prop:=∃ v,e = .returned v /\ za w' w.heap.size v (wds s) /\ (wds s).length <= s.size + 1 /\ Below w.heap.size w w'
theorem zIw (s:ByteArray) (w:World) (hs:s.size <= 1000000) :
  Calls Tryz.prog 22 #[.string s] w (zKs w s):=by
 obtain ⟨i0,hi0,hz0,hz1,hz2⟩:=zQ zCQ
 have HI:=zB hi0
 have HZ:=zB (And.intro hz0 (And.intro hz1 hz2))
 clear hi0 hz0 hz1 hz2
 have HE:=zB (zJt w)
 go_enter Tryz.func22,Tryz.ntmps22
 go_wp2
 go_loopw [3,4,5] (fun out fr i wr=>∃ (k f:Nat) (us:List ByteArray) (v:Value),k <= s.size + 1 /\ f <= k /\ i = .int .i64 (k:Int) /\ fr = .int .i64 (f:Int) /\ out = v /\ us.length <= k /\ Hid (zFB s k f us) /\ Hid (za wr w.heap.size v us) /\ Below w.heap.size w wr) (fun _ _ i _=>s.size + 1 - (intOf i).toNat)
 case atStart=>exact ⟨0,0,[],_,Nat.zero_le _,Nat.le_refl _,rfl,rfl,rfl,Nat.zero_le _,zB (zFB.start s),HE,zC _ _⟩
 case round=>
  clear HE
  obtain ⟨k,f,us,v,hk,hf,rfl,rfl,rfl,hul,HW,HR,hbel⟩:=hrel
  by_cases hle:k <= s.size
  ·have hleI:(k:Int) <= (s.size:Int):=by omega
   by_cases hput:k = s.size \/ bt s k = 32
   ·have HP:=zB ((zA HW).put hle hput)
    have hcond:((k:Int) == (s.size:Int)) = true \/ (((k:Int) == (s.size:Int)) = false /\ ∃ (h:k < s.size),((s[k].toNat:Int) == 32) = true):=by
     by_cases e:k = s.size
     ·left; simp [e]
     ·right
      have hlt:k < s.size:=by omega
      refine ⟨by simp; omega,hlt,?_⟩
      have hb:bt s k = 32:=hput.elim (fun h=>absurd h e) (fun h=>h)
      rw [ZH hlt,hb]; rfl
    clear hput
    by_cases hfk:f < k
    ·have hfkI:(f:Int) < (k:Int):=by omega
     have hfs:(f:Int) <= (s.size:Int):=by omega
     have HPW:=zB (zMM (s:=s) (us:=us) hfk)
     rcases hcond with hc | ⟨hc,hlt,hc2⟩
     all_goals
      try have hltI:(k:Int) < (s.size:Int):=(by omega)
      go_wp2_with (at_builtin; refine wpList_append_own_at _ rfl (.tmp 26) (.tmp 31) 24 rfl w.heap.size 9 i0 _ 1 16 Tryz.underlying24 (zA HI) (zA HZ).1 (zA HZ).2.1 (zA HZ).2.2 rfl (by decide) _ us.length (zH us) rfl ((zA HR).below (zC _ _)) ⟨wr.heap.size,0,none⟩ 1 1 (zH [s.extract f k]) rfl rfl (by simpa using ZL wr (s.extract f k)) (zS _) ?b1 ?b2 ?b3 ?next)
      case b1=>unfold maxLen; omega
      case b2=>omega
      case b3=>have:=hbel.size; simp; omega
      case next=>
       intro v4 w4 hown4 hgrow4 hnil4 hat4
       have HO:=zB (show za w4 w.heap.size v4 (zIv s f k us) by
        rw [zA HPW]
        unfold za
        rw [zAc,List.length_append]
        exact hown4)
       have hl4:(zIv s f k us).length <= k + 1:=by rw [zA HPW]; simp; omega
       have hbel4:Below w.heap.size w w4:=(hbel.alloc hbel.size _).grown hgrow4 (by have:=hbel.size; simp; omega) (fun q hq=>((zA HR).lt q hq).1)
       clear hown4 hgrow4 hnil4 hat4
       go_wp2
       exact ⟨⟨k + 1,k + 1,_,_,by omega,Nat.le_refl _,by go_num,by go_num,rfl,hl4,HP,HO,hbel4⟩,by simp [intOf]; omega⟩
    ·have hfkI:¬ (f:Int) < (k:Int):=by omega
     have HPW:=zB (zNs (s:=s) (us:=us) hfk)
     rcases hcond with hc | ⟨hc,hlt,hc2⟩
     all_goals
      try have hltI:(k:Int) < (s.size:Int):=(by omega)
      go_wp2
      refine ⟨⟨k + 1,k + 1,us,_,by omega,Nat.le_refl _,by go_num,by go_num,rfl,by omega,?_,HR,hbel⟩,by simp [intOf]; omega⟩
      have:=zA HP
      rw [zA HPW] at this
      exact zB this
   ·have hlt:k < s.size:=by omega
    have hltI:(k:Int) < (s.size:Int):=by omega
    have hb:bt s k ≠ 32:=fun e=>hput (Or.inr e)
    have HP:=zB ((zA HW).skip hlt hb)
    have hc:((k:Int) == (s.size:Int)) = false:=by simp; omega
    have hc2:((s[k].toNat:Int) == 32) = false:=by
     rw [ZH hlt]
     simp only [beq_eq_false_iff_ne,ne_eq]
     intro e
     exact hb (UInt8.toNat_inj.1 (by simpa using (by omega:(bt s k).toNat = 32)))
    clear hb hput
    go_wp2
    exact ⟨⟨k + 1,f,us,_,by omega,by omega,by go_num,rfl,rfl,by omega,HP,HR,hbel⟩,by simp [intOf]; omega⟩
  ·have hleI:¬ (k:Int) <= (s.size:Int):=by omega
   have HF:=zB ((zA HW).fin hle)
   go_wp2
   go_ret
   have e:=zA HF
   subst e
   exact ⟨_,rfl,zA HR,by omega,hbel⟩
def zz (w:World) (v:Value) (ws:List ByteArray):Prop:=∃ a c,v = .slice a ws.length c /\ (ws.length = 0 \/ ∃ g,a = some ⟨g,0,none⟩ /\ g < w.heap.size /\ ∀ (j:Nat) x,ws[j]? = some x -> w.cell? ⟨g,j,none⟩ = some (.string x))
theorem za.strs {w:World} {B:Nat} {v:Value} {ws:List ByteArray} (h:za w B v ws):zz w v ws:=by
 obtain ⟨a,c,rfl⟩:=zV h
 refine ⟨a,c,rfl,?_⟩
 have h':=h
 obtain ⟨_,⟨h1,h2⟩ | ⟨g,cap,cur,h1,_⟩⟩:=h'
 ·exact Or.inl h2
 ·simp only [Value.slice.injEq] at h1
  obtain ⟨rfl,_,rfl⟩:=h1
  exact Or.inr ⟨g,rfl,(h.lt g rfl).2,fun j x hj=>by have:=h.cells j x hj; simpa using this⟩
theorem zz.grown {w w':World} {v:Value} {ws:List ByteArray} {row:Option Nat} (h:zz w v ws) (hg:w.grownBy w' row) (hne:∀ g,v.ownBlock = some g -> row ≠ some g):zz w' v ws:=by
 obtain ⟨a,c,rfl,h⟩:=h
 refine ⟨a,c,rfl,h.imp id ?_⟩
 rintro ⟨g,rfl,h1,h2⟩
 exact ⟨g,rfl,Nat.lt_of_lt_of_le h1 hg.size,fun j x hj=>(zE hg h1 (hne g rfl) j).trans (h2 j x hj)⟩
theorem zz.below {w w':World} {v:Value} {ws:List ByteArray} (h:zz w v ws) (hb:Below w.heap.size w w'):zz w' v ws:=
 h.grown (row:=none) (zO hb none) (fun g _ e=>by cases e)
theorem zz.lt {w:World} {v:Value} {ws:List ByteArray} (h:zz w v ws) (h1:1 <= ws.length):∃ g c,v = .slice (some ⟨g,0,none⟩) ws.length c /\ g < w.heap.size /\ ∀ (j:Nat) x,ws[j]? = some x -> w.cell? ⟨g,j,none⟩ = some (.string x):=by
 obtain ⟨a,c,rfl,h | ⟨g,rfl,h2,h3⟩⟩:=h
 ·omega
 ·exact ⟨g,c,rfl,h2,h3⟩
structure LnR where
 wv:Value
 f:Nat
 t:Nat
def atL (ls:List LnR) (i:Nat):LnR:=ls.getD i ⟨.slice none 0 0,0,0⟩
def Zo (zs:List LnR):List Value:=zs.flatMap fun x=>[x.wv,.int .i64 (x.f:Int),.int .i64 (x.t:Int)]
theorem zF7 (xs ys:List LnR):Zo (xs ++ ys) = Zo xs ++ Zo ys:=by simp [Zo]
theorem zF8:∀ (zs:List LnR) (i:Nat),i < zs.length -> (Zo zs)[i * 3]? = some (atL zs i).wv /\ (Zo zs)[i * 3 + 1]? = some (.int .i64 ((atL zs i).f:Int)) /\ (Zo zs)[i * 3 + 2]? = some (.int .i64 ((atL zs i).t:Int))
 | [],i,h=>absurd h (Nat.not_lt_zero i)
 | o :: r,0,_=>⟨rfl,rfl,rfl⟩
 | o :: r,i + 1,h=>by
  have ih:=zF8 r i (by simpa using h)
  have e:∀ j,(Zo (o :: r))[(i + 1) * 3 + j]? = (Zo r)[i * 3 + j]?:=fun j=>by
   have:(i + 1) * 3 + j = (i * 3 + j) + 3:=by omega
   rw [this]
   rfl
  exact ⟨(e 0).trans ih.1,(e 1).trans ih.2.1,(e 2).trans ih.2.2⟩
theorem zOz:(Tryz.prog.info? 44).map (fun i=>(i.zero,i.size,i.bytes)) = some (some (.agg #[.slice none 0 0,.int .i64 0,.int .i64 0]),3,40):=by kernel_rfl
theorem zJu (w:World) (x:LnR):∀ j u,(Zo [x])[j]? = some u -> (w.alloc (.cells #[x.wv,.int .i64 (x.f:Int),.int .i64 (x.t:Int)] 44)).cell? ((⟨w.heap.size,0,none⟩:Addr).add j) = some u:=by
 intro j u hj
 rw [Addr.add_mid]
 have:=World.rangeAt_of_block (w:=w.alloc (.cells #[x.wv,.int .i64 (x.f:Int),.int .i64 (x.t:Int)] 44)) (b:=w.heap.size) (heap_alloc_new w _) 0 3
 exact this j u (by simpa [Zo] using hj)
def zFC (w:World) (B:Nat) (u:Value) (ls:List LnR):Prop:=w.ownsRow B 44 3 u ls.length (Zo ls)
theorem zFC.below {w w':World} {B:Nat} {u:Value} {us:List LnR} (h:zFC w B u us) (hb:Below w.heap.size w w'):zFC w' B u us:=
 World.ownsRow.kept h (zO hb none) (by cases u.ownBlock with
 | none=>exact Or.inl rfl
 | some k=>exact Or.inr (by simp))
theorem zFC.lt {w:World} {B:Nat} {u:Value} {us:List LnR} (h:zFC w B u us):∀ g,u.ownBlock = some g -> B <= g /\ g < w.heap.size:=fun g hg=>World.ownsRow.lt h g hg
def zLM (w:World) (g:Nat) (ls:List LnR):Prop:=∀ i,i < ls.length -> w.cell? ⟨g,i * 3,none⟩ = some (atL ls i).wv /\ w.cell? ⟨g,i * 3 + 1,none⟩ = some (.int .i64 ((atL ls i).f:Int)) /\ w.cell? ⟨g,i * 3 + 2,none⟩ = some (.int .i64 ((atL ls i).t:Int))
theorem zLM.below {w w':World} {g:Nat} {ls:List LnR} {B:Nat} (h:zLM w g ls) (hb:Below B w w') (hB:g < B):zLM w' g ls:=fun i hi=>by
 obtain ⟨h0,h1,h2⟩:=h i hi
 exact ⟨(hb.cell (p:=⟨g,_,none⟩) hB).trans h0,(hb.cell (p:=⟨g,_,none⟩) hB).trans h1,(hb.cell (p:=⟨g,_,none⟩) hB).trans h2⟩
theorem zFC.ops {w:World} {B g c:Nat} {us:List LnR} (h:zFC w B (.slice (some ⟨g,0,none⟩) us.length c) us):zLM w g us:=fun i hi=>by
 obtain ⟨c0,c1,c2⟩:=zF8 us i hi
 have e:=fun j (hj:j < 3)=>World.ownsRow.cellAt h (i * 3 + j) (by omega)
 exact ⟨by simpa using (e 0 (by omega)).trans c0,by simpa using (e 1 (by omega)).trans c1,by simpa using (e 2 (by omega)).trans c2⟩
def zIx (w:World) (s:ByteArray) (v:Value) (ls:List LnR):Prop:=∀ l ∈ ls,zz w l.wv (wds (s.extract l.f l.t)) /\ ∀ g,l.wv.ownBlock = some g -> v.ownBlock ≠ some g /\ g < w.heap.size
theorem zIx.step {w w1 w4:World} {s:ByteArray} {v v4 nv:Value} {ls:List LnR} {f t:Nat} (h:zIx w s v ls) (hb:Below w.heap.size w w1) (hv:∀ g,v.ownBlock = some g -> g < w.heap.size) (hn:zz w1 nv (wds (s.extract f t))) (hnb:∀ g,nv.ownBlock = some g -> w.heap.size <= g /\ g < w1.heap.size)
  (hg:w1.grownBy w4 v.ownBlock) (hat:v4.ownBlock = v.ownBlock \/ ∃ k,v4.ownBlock = some k /\ w1.heap.size <= k):zIx w4 s v4 (ls ++ [⟨nv,f,t⟩]):=by
 have hne:∀ g,g < w1.heap.size -> v.ownBlock ≠ some g -> v4.ownBlock ≠ some g:=fun g h1 h2 e=>by
  rcases hat with h | ⟨k,h,hk⟩
  ·exact h2 (h.symm.trans e)
  ·rw [h] at e; injection e with e; omega
 have hz:=hb.size
 have hz4:=hg.size
 intro l hl
 rcases List.mem_append.1 hl with hl | hl
 ·obtain ⟨h1,h2⟩:=h l hl
  refine ⟨(h1.below hb).grown hg (fun g e=>(h2 g e).1),fun g e=>⟨hne g ?_ (h2 g e).1,?_⟩⟩
  ·have:=(h2 g e).2; omega
  ·have:=(h2 g e).2; omega
 ·simp only [List.mem_singleton] at hl
  subst hl
  have hx:∀ g,nv.ownBlock = some g -> v.ownBlock ≠ some g:=fun g e e2=>by
   have:=hv g e2
   have:=(hnb g e).1
   omega
  refine ⟨hn.grown hg hx,fun g e=>⟨hne g (hnb g e).2 (hx g e),?_⟩⟩
  have:=(hnb g e).2
  omega
def Zm (n:Nat) (k t l sd:ByteArray):Option OpR:=
 if zCu l = true then
  (
   if k = Zi /\ n = 3 then some ⟨t,1,(zx l l.size:Int),0⟩
   else if k = ZN /\ n = 3 then some ⟨t,3,(zx l l.size:Int),0⟩
   else if k = Z7 /\ n = 4 /\ ZM sd ≠ 0 then some ⟨t,2,(zx l l.size:Int),ZM sd⟩ else none)
 else none
theorem zF9 (t:ByteArray):ZM t = 0 \/ ZM t = 1 \/ ZM t = 2 \/ ZM t = 3:=by
 unfold ZM
 split
 ·exact Or.inr (Or.inl rfl)
 ·split
  ·exact Or.inr (Or.inr (Or.inl rfl))
  ·split
   ·exact Or.inr (Or.inr (Or.inr rfl))
   ·exact Or.inl rfl
theorem zIy {ws:List ByteArray} (h:3 <= ws.length):∃ k t l r,ws = k :: t :: l :: r:=by
 match ws,h with
 | k :: t :: l :: r,_=>exact ⟨k,t,l,r,rfl⟩
theorem zMN {k t l sd:ByteArray} {r:List ByteArray} (hr:r = [] \/ ∃ r',r = sd :: r'):(∀ o,Zm (r.length + 3) k t l sd = some o -> OpW (k :: t :: l :: r) o) /\ (Zm (r.length + 3) k t l sd = none -> ∀ o,¬ OpW (k :: t :: l :: r) o):=by
 unfold Zm
 constructor
 ·intro o h
  split at h
  ·rename_i hl
   have hL:=(zB5 l).1 hl
   split at h
   ·rename_i hk
    injection h with h
    have:r = []:=List.length_eq_zero_iff.1 (by omega)
    subst this
    exact ⟨k,t,l,hL,Or.inl ⟨rfl,Or.inl ⟨hk.1,h.symm⟩⟩⟩
   ·split at h
    ·rename_i hk
     injection h with h
     have:r = []:=List.length_eq_zero_iff.1 (by omega)
     subst this
     exact ⟨k,t,l,hL,Or.inl ⟨rfl,Or.inr ⟨hk.1,h.symm⟩⟩⟩
    ·split at h
     ·rename_i hk
      injection h with h
      rcases hr with rfl | ⟨r',rfl⟩
      ·simp at hk
      ·have:r' = []:=List.length_eq_zero_iff.1 (by have h9:=hk.2.1; simp only [List.length_cons] at h9; omega)
       subst this
       exact ⟨k,t,l,hL,Or.inr ⟨sd,rfl,hk.1,hk.2.2,h.symm⟩⟩
     ·cases h
  ·cases h
 ·rintro h o ⟨k',t',l',hL,h2⟩
  have hlv:=fun (e:l = l')=>(zB5 l).2 (e ▸ hL)
  rcases h2 with ⟨e,h2⟩ | ⟨sd',e,h2,h3,h4⟩
  ·simp only [List.cons.injEq] at e
   obtain ⟨rfl,rfl,rfl,rfl⟩:=e
   rw [if_pos (hlv rfl)] at h
   rcases h2 with ⟨hk,_⟩ | ⟨hk,_⟩
   ·rw [if_pos ⟨hk,rfl⟩] at h; cases h
   ·rw [if_neg (fun x=>by rw [hk] at x; exact absurd x.1 (by decide)),if_pos ⟨hk,rfl⟩] at h; cases h
  ·simp only [List.cons.injEq] at e
   obtain ⟨rfl,rfl,rfl,rfl⟩:=e
   have:sd = sd':=by
    rcases hr with h | ⟨r',h⟩
    ·cases h
    ·simp only [List.cons.injEq] at h; exact h.1.symm
   subst this
   rw [if_pos (hlv rfl),if_neg (fun x=>by rw [h2] at x; exact absurd x.1 (by decide)),if_neg (fun x=>by rw [h2] at x; exact absurd x.1 (by decide)),if_pos ⟨h2,rfl,h3⟩] at h
   cases h
def zCR (w:World) (b:Nat) (o:OpR):Prop:=
 (w.cell? ⟨b,0,none⟩ = some (.string o.s) /\ w.cell? ⟨b,1,none⟩ = some (.int .i64 o.k) /\ w.cell? ⟨b,2,none⟩ = some (.int .i64 o.l) /\ w.cell? ⟨b,3,none⟩ = some (.int .i64 o.sd)) /\
  (w.frozen? ⟨b,0,none⟩ = false /\ w.frozen? ⟨b,1,none⟩ = false /\ w.frozen? ⟨b,2,none⟩ = false /\ w.frozen? ⟨b,3,none⟩ = false)
theorem zCR.below {w w':World} {b B:Nat} {o:OpR} (h:zCR w b o) (hb:Below B w w') (hB:b < B):zCR w' b o:=by
 obtain ⟨⟨h0,h1,h2,h3⟩,g0,g1,g2,g3⟩:=h
 have e:=fun j=>hb.cell (p:=⟨b,j,none⟩) hB
 have f:=fun j=>hb.frozen (p:=⟨b,j,none⟩) hB
 exact ⟨⟨(e 0).trans h0,(e 1).trans h1,(e 2).trans h2,(e 3).trans h3⟩,(f 0).trans g0,(f 1).trans g1,(f 2).trans g2,(f 3).trans g3⟩
def zHv (w:World) (n:Nat) (k t l sd:ByteArray) (e:Ending) (w':World):Prop:=
 ∃ (o:OpR) (v:Bool),e = .returned (.tuple #[.agg #[.string o.s,.int .i64 o.k,.int .i64 o.l,.int .i64 o.sd],.bool v]) /\ ((v = true /\ Zm n k t l sd = some o) \/ (v = false /\ Zm n k t l sd = none)) /\ Below w.heap.size w w'
theorem zIz {n:Nat} {k t l sd:ByteArray} (h:zCu l = false):Zm n k t l sd = none:=by
 unfold Zm; rw [h]; rfl
theorem zGA {n:Nat} {k t l sd:ByteArray} (h:zCu l = true) (hk:k = Zi):Zm n k t l sd = if n = 3 then some ⟨t,1,(zx l l.size:Int),0⟩ else none:=by
 subst hk
 unfold Zm
 rw [if_pos h]
 by_cases hn:n = 3
 ·rw [if_pos ⟨rfl,hn⟩,if_pos hn]
 ·rw [if_neg (fun x=>hn x.2),if_neg (fun x=>hn x.2),if_neg (fun x=>absurd x.1 (by decide)),if_neg hn]
theorem zE1 {n:Nat} {k t l sd:ByteArray} (h:zCu l = true) (hk:k = ZN):Zm n k t l sd = if n = 3 then some ⟨t,3,(zx l l.size:Int),0⟩ else none:=by
 subst hk
 unfold Zm
 rw [if_pos h]
 by_cases hn:n = 3
 ·rw [if_neg (fun x=>absurd x.1 (by decide)),if_pos ⟨rfl,hn⟩,if_pos hn]
 ·rw [if_neg (fun x=>hn x.2),if_neg (fun x=>hn x.2),if_neg (fun x=>absurd x.1 (by decide)),if_neg hn]
theorem zHC {n:Nat} {k t l sd:ByteArray} (h:zCu l = true) (hk:k = Z7):Zm n k t l sd = if n = 4 /\ ZM sd ≠ 0 then some ⟨t,2,(zx l l.size:Int),ZM sd⟩ else none:=by
 subst hk
 unfold Zm
 rw [if_pos h,if_neg (fun x=>absurd x.1 (by decide)),if_neg (fun x=>absurd x.1 (by decide))]
 by_cases hn:n = 4 /\ ZM sd ≠ 0
 ·rw [if_pos ⟨rfl,hn⟩,if_pos hn]
 ·rw [if_neg (fun x=>hn x.2),if_neg hn]
theorem zHD {n:Nat} {k t l sd:ByteArray} (h1:k ≠ Zi) (h2:k ≠ ZN) (h3:k ≠ Z7):Zm n k t l sd = none:=by
 unfold Zm
 split
 ·rw [if_neg (fun x=>h1 x.1),if_neg (fun x=>h2 x.1),if_neg (fun x=>h3 x.1)]
 ·rfl
end Go.Proofs.YtgiemobdmbijiaaGreatDoor
