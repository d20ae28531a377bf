import Derived.OwnWalk
import Derived.Laws.OwnMore
import Derived.Maps.AppendAt
import Derived.Test.YtokabkhnidlcnacGreatDoorM00
import Derived.Test.YtokabkhnidlcnacGreatDoorM02
namespace Go.Proofs.YtokabkhnidlcnacGreatDoor
set_option maxHeartbeats 16000000
set_option maxRecDepth 100000
open Go.RowKit
def zDb (first:Nat) (s:ByteArray):Prop:=1 <= s.size /\ cls (bt s 0) = first /\ ∀ j,j < s.size -> zBC first (bt s j) = true
theorem zDo (first:Nat) (s:ByteArray) (w:World) (hs:s.size <= maxLen) :
  Calls Tryz.prog 140 #[.int .i64 (first:Int),.string s] w fun e w'=>zB0 e (zDb first s) /\ w' = w:=by
 unfold maxLen at hs
 by_cases h0:s.size = 0
 ·have HN:=zB (show ¬ zDb first s from fun h=>by have:=h.1; omega)
  obtain rfl:=zHP h0
  go_enter Tryz.func140,Tryz.ntmps140
  go_wp2_with fail
  go_ret
  exact ⟨⟨_,rfl,ZA (zA HN)⟩,rfl⟩
 have hne:=zHO h0
 have h0I:(0:Int) < (s.size:Int):=by omega
 have h0N:0 < s.size:=by omega
 by_cases hc:cls (bt s 0) = first
 case neg=>
  have HN:=zB (show ¬ zDb first s from fun h=>hc h.2.1)
  have hb:=zk h0N
  have hc':((cls s[0]:Int) != (first:Int)) = true:=by rw [hb]; simp; omega
  clear hb
  go_enter Tryz.func140,Tryz.ntmps140
  go_wp2_with (go_at_call 180; refine (Zc _ _).mono ?_; rintro e w' ⟨rfl,hx⟩; obtain rfl:=hx.symm)
  go_ret
  exact ⟨⟨_,rfl,ZA (zA HN)⟩,rfl⟩
 have HC:=zB hc
 have hb:=zk h0N
 have HX:=zB (show (cls s[0]:Int) = (first:Int) by rw [hb]; omega)
 clear hb hc
 go_enter Tryz.func140,Tryz.ntmps140
 go_wp2_with (go_at_call 180; refine (Zc _ _).mono ?_; rw [zA HX]; rintro e w' ⟨rfl,hx⟩; obtain rfl:=hx.symm)
 go_loop [17] (fun i=>∃ k:Nat,k <= s.size /\ i = .int .i64 (k:Int) /\ Hid (∀ j,j < k -> zBC first (bt s j) = true)) (fun i=>s.size - (intOf i).toNat)
 case atStart=>exact ⟨0,Nat.zero_le _,rfl,zB (fun j h=>by omega)⟩
 case round=>
  obtain ⟨k,hk,rfl,hn⟩:=hrel
  by_cases hlt:k < s.size
  ·have hltI:(k:Int) < (s.size:Int):=by omega
   cases hb:zBC first s[k]
   ·have Hb:=zB (show zBC first (bt s k) = false by rw [<- zk hlt]; exact hb)
    go_wp2_with (go_at_call 181; refine (zCG _ _ _).mono ?_; rintro e w' ⟨rfl,hx⟩; obtain rfl:=hx.symm)
    go_ret
    exact ⟨⟨_,rfl,ZA (fun h=>by have:=h.2.2 k hlt; rw [zA Hb] at this; cases this)⟩,rfl⟩
   ·have Hb:=zB (show zBC first (bt s k) = true by rw [<- zk hlt]; exact hb)
    go_wp2_with (go_at_call 181; refine (zCG _ _ _).mono ?_; rintro e w' ⟨rfl,hx⟩; obtain rfl:=hx.symm)
    refine ⟨⟨k + 1,by omega,by go_num,zB (fun j hj=>?_)⟩,by simp [intOf]; omega⟩
    by_cases e:j = k
    ·subst e; exact zA Hb
    ·exact (zA hn) j (by omega)
  ·go_wp2_with fail
   go_ret
   exact ⟨⟨_,rfl,zA0 ⟨by omega,zA HC,fun j hj=>(zA hn) j (by omega)⟩⟩,rfl⟩
theorem zON (s:ByteArray):zDb 2 s ↔ zEb s:=by
 unfold zDb zEb zBC
 constructor
 ·rintro ⟨h1,h2,h3⟩
  refine ⟨h1,fun j hj=>?_⟩
  have:=h3 j hj
  simpa using this
 ·rintro ⟨h1,h2⟩
  exact ⟨h1,h2 0 (by omega),fun j hj=>by simp [h2 j hj]⟩
theorem zLD (s:ByteArray):zDb 3 s ↔ zAx s:=by
 unfold zDb zAx zBC
 constructor
 ·rintro ⟨h1,h2,h3⟩
  refine ⟨h1,fun j hj=>?_⟩
  have:=h3 j hj
  simp at this
  by_cases e:j = 0
  ·subst e; exact Or.inl h2
  ·omega
 ·rintro ⟨h1,h2⟩
  refine ⟨h1,?_,fun j hj=>?_⟩
  ·have:=h2 0 (by omega); omega
  ·have:=h2 j hj; simp; omega
end Go.Proofs.YtokabkhnidlcnacGreatDoor
namespace Go.Proofs.YtokabkhnidlcnacGreatDoor
set_option linter.unusedSimpArgs false
set_option linter.unusedVariables false
set_option maxHeartbeats 16000000
set_option maxRecDepth 100000
open Go.RowKit
theorem ZN {t:ByteArray} {l:List UInt8} (h:(t.toList == l) = true):t = ⟨l.toArray⟩:=by
 have h:t.toList = l:=by simpa using h
 rw [ByteArray.toList_eq] at h
 obtain ⟨d⟩:=t
 subst h
 simp
theorem zc {t:ByteArray} {l:List UInt8} (h:(t.toList == l) = false):t ≠ ⟨l.toArray⟩:=fun e=>by
 subst e
 simp [ByteArray.toList_eq] at h
theorem zC5 {t:ByteArray} {l:List UInt8} (h:t ≠ ⟨l.toArray⟩):(t.toList == l) = false:=by
 cases e:(t.toList == l)
 ·rfl
 ·exact absurd (ZN e) h
def zBf (w:ByteArray):Int:=if w = zAQ then 1 else if w = zBL then 2 else if w = Zy then 3 else 0
theorem zKD (t:ByteArray) (w:World) :
  Calls Tryz.prog 114 #[.string t] w fun e w'=>e = .returned (.int .i64 (ZS t)) /\ w' = w:=by
 cases q1:(t.toList == [108,101,102,116])
 ·cases q2:(t.toList == [114,105,103,104,116])
  ·cases q3:(t.toList == [110,111,110,101])
   ·have HR:=zB (show ZS t = 0 by unfold ZS zDz zCd zD0; rw [if_neg (zc q1),if_neg (zc q2),if_neg (zc q3)])
    go_enter Tryz.func114,Tryz.ntmps114
    go_wp2
    go_ret
    exact ⟨zG (zA HR).symm,rfl⟩
   ·have HR:=zB (show ZS t = 3 by unfold ZS zDz zCd zD0; rw [if_neg (zc q1),if_neg (zc q2),if_pos (ZN q3)])
    go_enter Tryz.func114,Tryz.ntmps114
    go_wp2
    go_ret
    exact ⟨zG (zA HR).symm,rfl⟩
  ·have HR:=zB (show ZS t = 2 by unfold ZS zDz zCd zD0; rw [if_neg (zc q1),if_pos (ZN q2)])
   go_enter Tryz.func114,Tryz.ntmps114
   go_wp2
   go_ret
   exact ⟨zG (zA HR).symm,rfl⟩
 ·have HR:=zB (show ZS t = 1 by unfold ZS zDz zCd zD0; rw [if_pos (ZN q1)])
  go_enter Tryz.func114,Tryz.ntmps114
  go_wp2
  go_ret
  exact ⟨zG (zA HR).symm,rfl⟩
theorem zFx (t:ByteArray) (w:World) :
  Calls Tryz.prog 168 #[.string t] w fun e w'=>e = .returned (.int .i64 (ZS t)) /\ w' = w:=by
 cases q1:(t.toList == [108,101,102,116])
 ·cases q2:(t.toList == [114,105,103,104,116])
  ·cases q3:(t.toList == [110,111,110,101])
   ·have HR:=zB (show ZS t = 0 by unfold ZS zDz zCd zD0; rw [if_neg (zc q1),if_neg (zc q2),if_neg (zc q3)])
    go_enter Tryz.func168,Tryz.ntmps168
    go_wp2
    go_ret
    exact ⟨zG (zA HR).symm,rfl⟩
   ·have HR:=zB (show ZS t = 3 by unfold ZS zDz zCd zD0; rw [if_neg (zc q1),if_neg (zc q2),if_pos (ZN q3)])
    go_enter Tryz.func168,Tryz.ntmps168
    go_wp2
    go_ret
    exact ⟨zG (zA HR).symm,rfl⟩
  ·have HR:=zB (show ZS t = 2 by unfold ZS zDz zCd zD0; rw [if_neg (zc q1),if_pos (ZN q2)])
   go_enter Tryz.func168,Tryz.ntmps168
   go_wp2
   go_ret
   exact ⟨zG (zA HR).symm,rfl⟩
 ·have HR:=zB (show ZS t = 1 by unfold ZS zDz zCd zD0; rw [if_pos (ZN q1)])
  go_enter Tryz.func168,Tryz.ntmps168
  go_wp2
  go_ret
  exact ⟨zG (zA HR).symm,rfl⟩
theorem zFy (t:ByteArray) (w:World) :
  Calls Tryz.prog 167 #[.string t] w fun e w'=>e = .returned (.int .i64 (zBf t)) /\ w' = w:=by
 cases q1:(t.toList == [112,114,101,102,105,120])
 ·cases q2:(t.toList == [105,110,102,105,120])
  ·cases q3:(t.toList == [112,111,115,116,102,105,120])
   ·have HR:=zB (show zBf t = 0 by unfold zBf zAQ zBL Zy; rw [if_neg (zc q1),if_neg (zc q2),if_neg (zc q3)])
    go_enter Tryz.func167,Tryz.ntmps167
    go_wp2
    go_ret
    exact ⟨zG (zA HR).symm,rfl⟩
   ·have HR:=zB (show zBf t = 3 by unfold zBf zAQ zBL Zy; rw [if_neg (zc q1),if_neg (zc q2),if_pos (ZN q3)])
    go_enter Tryz.func167,Tryz.ntmps167
    go_wp2
    go_ret
    exact ⟨zG (zA HR).symm,rfl⟩
  ·have HR:=zB (show zBf t = 2 by unfold zBf zAQ zBL Zy; rw [if_neg (zc q1),if_pos (ZN q2)])
   go_enter Tryz.func167,Tryz.ntmps167
   go_wp2
   go_ret
   exact ⟨zG (zA HR).symm,rfl⟩
 ·have HR:=zB (show zBf t = 1 by unfold zBf zAQ zBL Zy; rw [if_pos (ZN q1)])
  go_enter Tryz.func167,Tryz.ntmps167
  go_wp2
  go_ret
  exact ⟨zG (zA HR).symm,rfl⟩
def zC6 (t:ByteArray):Bool:=decide (t.size <= 6) && zOF t
def zFz (t:ByteArray):Int:=if zC6 t = true then (Zn t t.size:Int) else -1
theorem zCP (t:ByteArray):zC6 t = true ↔ zMa t:=by
 unfold zC6 zMa
 rw [Bool.and_eq_true,Za,decide_eq_true_iff]
 unfold zEb
 constructor
 ·rintro ⟨h1,h2,h3⟩
  exact ⟨h2,h1,fun i hi=>(zCb _).1 (h3 i hi)⟩
 ·rintro ⟨h1,h2,h3⟩
  exact ⟨h2,h1,fun i hi=>(zCb _).2 (h3 i hi)⟩
theorem zCz (t:ByteArray) (w:World) (hs:t.size <= maxLen) :
  Calls Tryz.prog 165 #[.string t] w fun e w'=>e = .returned (.bool (zC6 t)) /\ w' = w:=by
 by_cases h6:t.size <= 6
 ·have h6I:(t.size:Int) <= 6:=by omega
  have HE:=zB (show ∀ v,zC1 v (zDb 2 t) -> v = zC6 t from fun v hv=>by
   have:(v = true ↔ zC6 t = true):=by
    rw [zCP]
    unfold zC1 at hv
    rw [hv,zON]
    unfold zEb zMa
    constructor
    ·rintro ⟨a,b⟩; exact ⟨a,h6,fun i hi=>(zCb _).1 (b i hi)⟩
    ·rintro ⟨a,_,b⟩; exact ⟨a,fun i hi=>(zCb _).2 (b i hi)⟩
   exact Bool.eq_iff_iff.2 this)
  go_enter Tryz.func165,Tryz.ntmps165
  go_wp2_with (go_at_call 140; refine (zDo 2 _ _ hs).mono ?_; rintro e w' ⟨⟨v,rfl,hv⟩,hx⟩; obtain rfl:=hx.symm; have HV:=zB hv; clear hv)
  go_ret
  exact ⟨zS ((zA HE) _ (zA HV)),rfl⟩
 ·have h6I:¬ (t.size:Int) <= 6:=by omega
  have HE:=zB (show zC6 t = false by unfold zC6; simp [h6])
  unfold maxLen at hs
  go_enter Tryz.func165,Tryz.ntmps165
  go_wp2
  go_ret
  exact ⟨zS (zA HE).symm,rfl⟩
theorem zC7 (t:ByteArray) (w:World) (hs:t.size <= maxLen) :
  Calls Tryz.prog 113 #[.string t] w fun e w'=>e = .returned (.int .i64 (zFz t)) /\ w' = w:=by
 by_cases hn:zEb t
 case neg=>
  have HR:=zB (show zFz t = -1 by
   unfold zFz
   rw [if_neg]
   rw [zCP]
   exact fun h=>hn ⟨h.1,fun i hi=>(zCb _).2 (h.2.2 i hi)⟩)
  have HN:=zB hn
  clear hn
  go_enter Tryz.func113,Tryz.ntmps113
  go_wp2_with (go_at_call 130; refine (zAk _ _ hs).mono ?_; rintro e w' ⟨⟨v,rfl,hv⟩,hx⟩; obtain rfl:=hx.symm; obtain rfl:v = false:=(by cases v; rfl; exact absurd (hv.1 rfl) (zA HN)); clear hv)
  go_ret
  exact ⟨zG (zA HR).symm,rfl⟩
 by_cases h6:t.size <= 6
 case neg=>
  have h6I:(6:Int) < (t.size:Int):=by omega
  have HR:=zB (show zFz t = -1 by
   unfold zFz zC6
   simp [h6])
  have HN:=zB hn
  have hs2:=hs
  unfold maxLen at hs2
  clear hn
  go_enter Tryz.func113,Tryz.ntmps113
  go_wp2_with (go_at_call 130; refine (zAk _ _ hs).mono ?_; rintro e w' ⟨⟨v,rfl,hv⟩,hx⟩; obtain rfl:=hx.symm; obtain rfl:v = true:=(by cases v; exact (hv.2 (zA HN)); rfl); clear hv)
  go_ret
  exact ⟨zG (zA HR).symm,rfl⟩
 have h6I:(t.size:Int) <= 6:=by omega
 have hdig:∀ i,i < t.size -> 48 <= (bt t i).toNat /\ (bt t i).toNat <= 57:=fun i hi=>(zCb _).1 (hn.2 i hi)
 have hval:∀ k,k <= t.size -> Zn t k < 1000000:=fun k hk=>by
  have h:=zFn t hdig k hk
  have h2:10 ^ k <= 10 ^ 6:=Nat.pow_le_pow_right (by decide) (by omega)
  omega
 have HR:=zB (show zFz t = (Zn t t.size:Int) by
  unfold zFz
  rw [if_pos]
  rw [zCP]
  exact ⟨hn.1,h6,hdig⟩)
 have HD:=zB hdig
 have HV:=zB hval
 have HN:=zB hn
 clear hn hdig hval
 go_enter Tryz.func113,Tryz.ntmps113
 go_wp2_with (go_at_call 130; refine (zAk _ _ hs).mono ?_; rintro e w' ⟨⟨v,rfl,hv⟩,hx⟩; obtain rfl:=hx.symm; obtain rfl:v = true:=(by cases v; exact (hv.2 (zA HN)); rfl); clear hv)
 go_loop [3,4] (fun x i=>∃ k:Nat,k <= t.size /\ i = .int .i64 (k:Int) /\ x = .int .i64 (Zn t k:Int)) (fun _ i=>t.size - (intOf i).toNat)
 case atStart=>exact ⟨0,Nat.zero_le _,rfl,rfl⟩
 case round=>
  obtain ⟨k,hk,rfl,rfl⟩:=hrel
  by_cases hlt:k < t.size
  ·have hltI:(k:Int) < (t.size:Int):=by omega
   have h1:=(zA HV) k hk
   obtain ⟨d1,d2⟩:=(zA HD) k hlt
   have hb:=zk hlt
   rw [<- hb] at d1 d2
   have HB:=zB hb
   have d1I:(48:Int) <= (t[k].toNat:Int):=by omega
   have d2I:(t[k].toNat:Int) <= 57:=by omega
   have h1I:(Zn t k:Int) < 1000000:=by omega
   have h0I:(0:Int) <= (Zn t k:Int):=by omega
   clear hb
   go_wp2
   refine ⟨⟨k + 1,by omega,by go_num,?_⟩,by simp [intOf]; omega⟩
   simp only [Zn]
   rw [<- zA HB]
   go_num
  ·have HK:=zB (show k = t.size by omega)
   go_wp2
   go_ret
   exact ⟨zG (by rw [zA HR,zA HK]),rfl⟩
def zi (l:List ByteArray):List Value:=l.map fun s=>.string s
theorem Z2 (l l':List ByteArray):zi (l ++ l') = zi l ++ zi l':=by simp [zi]
theorem ZU (l:List ByteArray):∀ u ∈ zi l,u.oneCell' = true:=by
 intro u hu
 simp only [zi,List.mem_map] at hu
 obtain ⟨b,_,rfl⟩:=hu
 rfl
theorem zD5:(Tryz.prog.info? 9).map (fun i=>(i.zero,i.size,i.bytes)) = some (some (.string ⟨#[]⟩),1,16):=by kernel_rfl
theorem Z3 (w:World) (t:ByteArray):∀ j u,(zi [t])[j]? = some u -> (w.alloc (.cells #[.string t] 9)).cell? ((⟨w.heap.size,0,none⟩:Addr).add j) = some u:=by
 intro j u hj
 rw [Addr.add_mid]
 have:=World.rangeAt_of_block (w:=w.alloc (.cells #[.string t] 9)) (b:=w.heap.size) (heap_alloc_new w _) 0 1
 exact this j u (by simpa [zi] using hj)
def ZY (w:World) (B:Nat) (v:Value) (ps:List ByteArray):Prop:=w.ownsRow B 9 1 v ps.length (zi ps)
theorem zM {w:World} {B n:Nat} {e:TypeId} {size:Nat} {u:Value} {xs:List Value} (h:w.ownsRow B e size u n xs):∃ a c,u = .slice a n c:=by
 obtain ⟨_,⟨rfl,rfl⟩ | ⟨g,cap,cur,rfl,_⟩⟩:=h
 ·exact ⟨none,0,rfl⟩
 ·exact ⟨_,_,rfl⟩
theorem ZY.grown {w w':World} {B:Nat} {u:Value} {us:List ByteArray} {row:Option Nat} (h:ZY w B u us) (hg:w.grownBy w' row) (hne:∀ k,u.ownBlock = some k -> row ≠ some k):ZY w' B u us:=
 World.ownsRow.kept h hg (by
  cases e:u.ownBlock with
  | none=>exact Or.inl rfl
  | some k=>exact Or.inr (fun x=>hne k e x.symm))
theorem ZY.below {w w':World} {B:Nat} {u:Value} {us:List ByteArray} (h:ZY w B u us) (hb:Below w.heap.size w w'):ZY w' B u us:=
 h.grown (row:=none) ⟨hb.os,hb.tape,hb.output,hb.size,fun i hi _=>hb.block i hi⟩ (fun k _ e=>by cases e)
theorem ZY.lt {w:World} {B:Nat} {u:Value} {us:List ByteArray} (h:ZY w B u us):∀ g,u.ownBlock = some g -> B <= g /\ g < w.heap.size:=fun g hg=>World.ownsRow.lt h g hg
theorem ZY.cells {w:World} {B g n c:Nat} {us:List ByteArray} (h:ZY w B (.slice (some ⟨g,0,none⟩) n c) us):∀ (j:Nat) x,us[j]? = some x -> w.cell? ⟨g,0 + j,none⟩ = some (.string x):=by
 intro j x hj
 have hl:j < us.length:=(List.getElem?_eq_some_iff.1 hj).1
 obtain ⟨_,⟨h1,_⟩ | ⟨g',cap,cur,h1,h2⟩⟩:=h
 ·cases h1
 ·have hh:ZY w B (.slice (some ⟨g',0,none⟩) us.length cap) us:=⟨by assumption,Or.inr ⟨g',cap,cur,rfl,h2⟩⟩
  simp only [Value.slice.injEq,Option.some.injEq,Addr.mk.injEq] at h1
  obtain ⟨⟨rfl,_⟩,_⟩:=h1
  rw [Nat.zero_add,World.ownsRow.cellAt hh j (by omega)]
  simp [zi,hj]
def zFS (s:ByteArray) (k f:Nat) (us:List ByteArray):Prop:=
 (k <= s.size /\ f <= k /\ (∀ j,f <= j -> j < k -> bt s j ≠ 32) /\ us ++ zBP s f = wds s) \/ (k = s.size + 1 /\ us = wds s)
theorem zFS.start (s:ByteArray):zFS s 0 0 []:=Or.inl ⟨Nat.zero_le _,Nat.le_refl _,fun j h1 h2=>by omega,rfl⟩
theorem zFS.skip {s:ByteArray} {k f:Nat} {us:List ByteArray} (h:zFS s k f us) (hk:k < s.size) (hb:bt s k ≠ 32):zFS s (k + 1) f us:=by
 rcases h with ⟨h1,h2,h3,h4⟩ | ⟨h1,_⟩
 ·refine Or.inl ⟨by omega,by omega,fun j j1 j2=>?_,h4⟩
  by_cases e:j = k
  ·subst e; exact hb
  ·exact h3 j j1 (by omega)
 ·omega
def zI3 (s:ByteArray) (f k:Nat) (us:List ByteArray):List ByteArray:=us ++ (if f < k then [s.extract f k] else [])
theorem zMo {s:ByteArray} {f k:Nat} {us:List ByteArray} (h:f < k):zI3 s f k us = us ++ [s.extract f k]:=by unfold zI3; rw [if_pos h]
theorem zOO {s:ByteArray} {f k:Nat} {us:List ByteArray} (h:¬ f < k):zI3 s f k us = us:=by unfold zI3; rw [if_neg h]; simp
theorem zFS.put {s:ByteArray} {k f:Nat} {us:List ByteArray} (h:zFS s k f us) (hk:k <= s.size) (hb:k = s.size \/ bt s k = 32):zFS s (k + 1) (k + 1) (zI3 s f k us):=by
 rcases h with ⟨h1,h2,h3,h4⟩ | ⟨h1,_⟩
 ·have hx:nx 32 s f = k:=zJ8 (by omega) h2 h1 h3 (fun hl=>hb.elim (fun e=>by omega) (fun e=>e))
  rw [zCc s f (by omega),hx] at h4
  unfold zI3
  by_cases hl:k < s.size
  ·rw [if_pos hl,<- List.append_assoc] at h4
   exact Or.inl ⟨by omega,Nat.le_refl _,fun j j1 j2=>by omega,h4⟩
  ·rw [if_neg hl,List.append_nil] at h4
   exact Or.inr ⟨by omega,h4⟩
 ·omega
theorem zFS.fin {s:ByteArray} {k f:Nat} {us:List ByteArray} (h:zFS s k f us) (hk:¬ k <= s.size):us = wds s:=by
 rcases h with ⟨h1,_⟩ | ⟨_,h⟩
 ·omega
 ·exact h
theorem zKE (w:World):ZY (w.alloc (.cells #[] 9)) w.heap.size (.slice (some ⟨w.heap.size,0,none⟩) 0 0) []:=by
 have:=World.ownsRow_lit (base:=w.heap.size) (e:=9) (size:=1) w #[] 0 (Nat.le_refl _) (Nat.zero_le _) rfl
 simpa [ZY,zi] using this
def zLE (w:World) (s:ByteArray) (e:Ending) (w':World):Prop:=∃ v,e = .returned v /\ ZY w' w.heap.size v (wds s) /\ (wds s).length <= s.size + 1 /\ Below w.heap.size w w'
theorem zI4 (s:ByteArray) (w:World) (hs:s.size <= 20000) :
  Calls Tryz.prog 112 #[.string s] w (zLE w s):=by
 obtain ⟨i0,hi0,hz0,hz1,hz2⟩:=zQ zD5
 have HI:=zB hi0
 have HZ:=zB (And.intro hz0 (And.intro hz1 hz2))
 clear hi0 hz0 hz1 hz2
 have HE:=zB (zKE w)
 go_enter Tryz.func112,Tryz.ntmps112
 go_wp2
 go_loopw [3,4,5] (fun out fr i wr=>∃ (k f:Nat) (us:List ByteArray) (v:Value),k <= s.size + 1 /\ f <= k /\ i = .int .i64 (k:Int) /\ fr = .int .i64 (f:Int) /\ out = v /\ us.length <= k /\ Hid (zFS s k f us) /\ Hid (ZY wr w.heap.size v us) /\ Below w.heap.size w wr) (fun _ _ i _=>s.size + 1 - (intOf i).toNat)
 case atStart=>exact ⟨0,0,[],_,Nat.zero_le _,Nat.le_refl _,rfl,rfl,rfl,Nat.zero_le _,zB (zFS.start s),HE,zC _ _⟩
 case round=>
  clear HE
  obtain ⟨k,f,us,v,hk,hf,rfl,rfl,rfl,hul,HW,HR,hbel⟩:=hrel
  by_cases hle:k <= s.size
  ·have hleI:(k:Int) <= (s.size:Int):=by omega
   by_cases hput:k = s.size \/ bt s k = 32
   ·have HP:=zB ((zA HW).put hle hput)
    have hcond:((k:Int) == (s.size:Int)) = true \/ (((k:Int) == (s.size:Int)) = false /\ ∃ (h:k < s.size),((s[k].toNat:Int) == 32) = true):=by
     by_cases e:k = s.size
     ·left; simp [e]
     ·right
      have hlt:k < s.size:=by omega
      refine ⟨by simp; omega,hlt,?_⟩
      have hb:bt s k = 32:=hput.elim (fun h=>absurd h e) (fun h=>h)
      rw [zk hlt,hb]; rfl
    clear hput
    by_cases hfk:f < k
    ·have hfkI:(f:Int) < (k:Int):=by omega
     have hfs:(f:Int) <= (s.size:Int):=by omega
     have HPW:=zB (zMo (s:=s) (us:=us) hfk)
     rcases hcond with hc | ⟨hc,hlt,hc2⟩
     all_goals
      try have hltI:(k:Int) < (s.size:Int):=(by omega)
      go_wp2_with (at_builtin; refine wpList_append_own_at _ rfl (.tmp 26) (.tmp 31) 62 rfl w.heap.size 9 i0 _ 1 16 Tryz.underlying62 (zA HI) (zA HZ).1 (zA HZ).2.1 (zA HZ).2.2 rfl (by decide) _ us.length (zi us) rfl ((zA HR).below (zC _ _)) ⟨wr.heap.size,0,none⟩ 1 1 (zi [s.extract f k]) rfl rfl (by simpa using Z3 wr (s.extract f k)) (ZU _) ?b1 ?b2 ?b3 ?next)
      case b1=>unfold maxLen; omega
      case b2=>omega
      case b3=>have:=hbel.size; simp; omega
      case next=>
       intro v4 w4 hown4 hgrow4 hnil4 hat4
       have HO:=zB (show ZY w4 w.heap.size v4 (zI3 s f k us) by
        rw [zA HPW]
        unfold ZY
        rw [Z2,List.length_append]
        exact hown4)
       have hl4:(zI3 s f k us).length <= k + 1:=by rw [zA HPW]; simp; omega
       have hbel4:Below w.heap.size w w4:=(hbel.alloc hbel.size _).grown hgrow4 (by have:=hbel.size; simp; omega) (fun q hq=>((zA HR).lt q hq).1)
       clear hown4 hgrow4 hnil4 hat4
       go_wp2
       exact ⟨⟨k + 1,k + 1,_,_,by omega,Nat.le_refl _,by go_num,by go_num,rfl,hl4,HP,HO,hbel4⟩,by simp [intOf]; omega⟩
    ·have hfkI:¬ (f:Int) < (k:Int):=by omega
     have HPW:=zB (zOO (s:=s) (us:=us) hfk)
     rcases hcond with hc | ⟨hc,hlt,hc2⟩
     all_goals
      try have hltI:(k:Int) < (s.size:Int):=(by omega)
      go_wp2
      refine ⟨⟨k + 1,k + 1,us,_,by omega,Nat.le_refl _,by go_num,by go_num,rfl,by omega,?_,HR,hbel⟩,by simp [intOf]; omega⟩
      have:=zA HP
      rw [zA HPW] at this
      exact zB this
   ·have hlt:k < s.size:=by omega
    have hltI:(k:Int) < (s.size:Int):=by omega
    have hb:bt s k ≠ 32:=fun e=>hput (Or.inr e)
    have HP:=zB ((zA HW).skip hlt hb)
    have hc:((k:Int) == (s.size:Int)) = false:=by simp; omega
    have hc2:((s[k].toNat:Int) == 32) = false:=by
     rw [zk hlt]
     simp only [beq_eq_false_iff_ne,ne_eq]
     intro e
     exact hb (UInt8.toNat_inj.1 (by simpa using (by omega:(bt s k).toNat = 32)))
    clear hb hput
    go_wp2
    exact ⟨⟨k + 1,f,us,_,by omega,by omega,by go_num,rfl,rfl,by omega,HP,HR,hbel⟩,by simp [intOf]; omega⟩
  ·have hleI:¬ (k:Int) <= (s.size:Int):=by omega
   have HF:=zB ((zA HW).fin hle)
   go_wp2
   go_ret
   have e:=zA HF
   subst e
   exact ⟨_,rfl,zA HR,by omega,hbel⟩
def zj (w:World) (v:Value) (ws:List ByteArray):Prop:=∃ a c,v = .slice a ws.length c /\ (ws.length = 0 \/ ∃ g,a = some ⟨g,0,none⟩ /\ g < w.heap.size /\ ∀ (j:Nat) x,ws[j]? = some x -> w.cell? ⟨g,j,none⟩ = some (.string x))
theorem ZY.strs {w:World} {B:Nat} {v:Value} {ws:List ByteArray} (h:ZY w B v ws):zj w v ws:=by
 obtain ⟨a,c,rfl⟩:=zM h
 refine ⟨a,c,rfl,?_⟩
 have h':=h
 obtain ⟨_,⟨h1,h2⟩ | ⟨g,cap,cur,h1,_⟩⟩:=h'
 ·exact Or.inl h2
 ·simp only [Value.slice.injEq] at h1
  obtain ⟨rfl,_,rfl⟩:=h1
  exact Or.inr ⟨g,rfl,(h.lt g rfl).2,fun j x hj=>by have:=h.cells j x hj; simpa using this⟩
theorem zj.grown {w w':World} {v:Value} {ws:List ByteArray} {row:Option Nat} (h:zj w v ws) (hg:w.grownBy w' row) (hne:∀ g,v.ownBlock = some g -> row ≠ some g):zj w' v ws:=by
 obtain ⟨a,c,rfl,h⟩:=h
 refine ⟨a,c,rfl,h.imp id ?_⟩
 rintro ⟨g,rfl,h1,h2⟩
 exact ⟨g,rfl,Nat.lt_of_lt_of_le h1 hg.size,fun j x hj=>(zE hg h1 (hne g rfl) j).trans (h2 j x hj)⟩
theorem zj.below {w w':World} {v:Value} {ws:List ByteArray} (h:zj w v ws) (hb:Below w.heap.size w w'):zj w' v ws:=
 h.grown (row:=none) (zF hb none) (fun g _ e=>by cases e)
theorem zj.lt {w:World} {v:Value} {ws:List ByteArray} (h:zj w v ws) (h1:1 <= ws.length):∃ g c,v = .slice (some ⟨g,0,none⟩) ws.length c /\ g < w.heap.size /\ ∀ (j:Nat) x,ws[j]? = some x -> w.cell? ⟨g,j,none⟩ = some (.string x):=by
 obtain ⟨a,c,rfl,h | ⟨g,rfl,h2,h3⟩⟩:=h
 ·omega
 ·exact ⟨g,c,rfl,h2,h3⟩
structure LnR where
 wv:Value
 f:Nat
 t:Nat
def atL (ls:List LnR) (i:Nat):LnR:=ls.getD i ⟨.slice none 0 0,0,0⟩
def Zo (zs:List LnR):List Value:=zs.flatMap fun x=>[x.wv,.int .i64 (x.f:Int),.int .i64 (x.t:Int)]
theorem zF0 (xs ys:List LnR):Zo (xs ++ ys) = Zo xs ++ Zo ys:=by simp [Zo]
theorem zF1:∀ (zs:List LnR) (i:Nat),i < zs.length -> (Zo zs)[i * 3]? = some (atL zs i).wv /\ (Zo zs)[i * 3 + 1]? = some (.int .i64 ((atL zs i).f:Int)) /\ (Zo zs)[i * 3 + 2]? = some (.int .i64 ((atL zs i).t:Int))
 | [],i,h=>absurd h (Nat.not_lt_zero i)
 | o :: r,0,_=>⟨rfl,rfl,rfl⟩
 | o :: r,i + 1,h=>by
  have ih:=zF1 r i (by simpa using h)
  have e:∀ j,(Zo (o :: r))[(i + 1) * 3 + j]? = (Zo r)[i * 3 + j]?:=fun j=>by
   have:(i + 1) * 3 + j = (i * 3 + j) + 3:=by omega
   rw [this]
   rfl
  exact ⟨(e 0).trans ih.1,(e 1).trans ih.2.1,(e 2).trans ih.2.2⟩
theorem zPx:(Tryz.prog.info? 136).map (fun i=>(i.zero,i.size,i.bytes)) = some (some (.agg #[.slice none 0 0,.int .i64 0,.int .i64 0]),3,40):=by kernel_rfl
theorem zKF (w:World) (x:LnR):∀ j u,(Zo [x])[j]? = some u -> (w.alloc (.cells #[x.wv,.int .i64 (x.f:Int),.int .i64 (x.t:Int)] 136)).cell? ((⟨w.heap.size,0,none⟩:Addr).add j) = some u:=by
 intro j u hj
 rw [Addr.add_mid]
 have:=World.rangeAt_of_block (w:=w.alloc (.cells #[x.wv,.int .i64 (x.f:Int),.int .i64 (x.t:Int)] 136)) (b:=w.heap.size) (heap_alloc_new w _) 0 3
 exact this j u (by simpa [Zo] using hj)
def zFT (w:World) (B:Nat) (u:Value) (ls:List LnR):Prop:=w.ownsRow B 136 3 u ls.length (Zo ls)
theorem zFT.below {w w':World} {B:Nat} {u:Value} {us:List LnR} (h:zFT w B u us) (hb:Below w.heap.size w w'):zFT w' B u us:=
 World.ownsRow.kept h (zF hb none) (by cases u.ownBlock with
 | none=>exact Or.inl rfl
 | some k=>exact Or.inr (by simp))
theorem zFT.lt {w:World} {B:Nat} {u:Value} {us:List LnR} (h:zFT w B u us):∀ g,u.ownBlock = some g -> B <= g /\ g < w.heap.size:=fun g hg=>World.ownsRow.lt h g hg
def zLr (w:World) (g:Nat) (ls:List LnR):Prop:=∀ i,i < ls.length -> w.cell? ⟨g,i * 3,none⟩ = some (atL ls i).wv /\ w.cell? ⟨g,i * 3 + 1,none⟩ = some (.int .i64 ((atL ls i).f:Int)) /\ w.cell? ⟨g,i * 3 + 2,none⟩ = some (.int .i64 ((atL ls i).t:Int))
theorem zLr.below {w w':World} {g:Nat} {ls:List LnR} {B:Nat} (h:zLr w g ls) (hb:Below B w w') (hB:g < B):zLr w' g ls:=fun i hi=>by
 obtain ⟨h0,h1,h2⟩:=h i hi
 exact ⟨(hb.cell (p:=⟨g,_,none⟩) hB).trans h0,(hb.cell (p:=⟨g,_,none⟩) hB).trans h1,(hb.cell (p:=⟨g,_,none⟩) hB).trans h2⟩
theorem zFT.ops {w:World} {B g c:Nat} {us:List LnR} (h:zFT w B (.slice (some ⟨g,0,none⟩) us.length c) us):zLr w g us:=fun i hi=>by
 obtain ⟨c0,c1,c2⟩:=zF1 us i hi
 have e:=fun j (hj:j < 3)=>World.ownsRow.cellAt h (i * 3 + j) (by omega)
 exact ⟨by simpa using (e 0 (by omega)).trans c0,by simpa using (e 1 (by omega)).trans c1,by simpa using (e 2 (by omega)).trans c2⟩
def zI5 (w:World) (s:ByteArray) (v:Value) (ls:List LnR):Prop:=∀ l ∈ ls,zj w l.wv (wds (s.extract l.f l.t)) /\ ∀ g,l.wv.ownBlock = some g -> v.ownBlock ≠ some g /\ g < w.heap.size
theorem zI5.step {w w1 w4:World} {s:ByteArray} {v v4 nv:Value} {ls:List LnR} {f t:Nat} (h:zI5 w s v ls) (hb:Below w.heap.size w w1) (hv:∀ g,v.ownBlock = some g -> g < w.heap.size) (hn:zj w1 nv (wds (s.extract f t))) (hnb:∀ g,nv.ownBlock = some g -> w.heap.size <= g /\ g < w1.heap.size)
  (hg:w1.grownBy w4 v.ownBlock) (hat:v4.ownBlock = v.ownBlock \/ ∃ k,v4.ownBlock = some k /\ w1.heap.size <= k):zI5 w4 s v4 (ls ++ [⟨nv,f,t⟩]):=by
 have hne:∀ g,g < w1.heap.size -> v.ownBlock ≠ some g -> v4.ownBlock ≠ some g:=fun g h1 h2 e=>by
  rcases hat with h | ⟨k,h,hk⟩
  ·exact h2 (h.symm.trans e)
  ·rw [h] at e; injection e with e; omega
 have hz:=hb.size
 have hz4:=hg.size
 intro l hl
 rcases List.mem_append.1 hl with hl | hl
 ·obtain ⟨h1,h2⟩:=h l hl
  refine ⟨(h1.below hb).grown hg (fun g e=>(h2 g e).1),fun g e=>⟨hne g ?_ (h2 g e).1,?_⟩⟩
  ·have:=(h2 g e).2; omega
  ·have:=(h2 g e).2; omega
 ·simp only [List.mem_singleton] at hl
  subst hl
  have hx:∀ g,nv.ownBlock = some g -> v.ownBlock ≠ some g:=fun g e e2=>by
   have:=hv g e2
   have:=(hnb g e).1
   omega
  refine ⟨hn.grown hg hx,fun g e=>⟨hne g (hnb g e).2 (hx g e),?_⟩⟩
  have:=(hnb g e).2
  omega
def Zi (n:Nat) (k t l sd:ByteArray):Option OpR:=
 if zC6 l = true then
  (
   if k = zAQ /\ n = 3 then some ⟨t,1,(Zn l l.size:Int),0⟩
   else if k = Zy /\ n = 3 then some ⟨t,3,(Zn l l.size:Int),0⟩
   else if k = zBL /\ n = 4 /\ ZS sd ≠ 0 then some ⟨t,2,(Zn l l.size:Int),ZS sd⟩ else none)
 else none
theorem zF2 (t:ByteArray):ZS t = 0 \/ ZS t = 1 \/ ZS t = 2 \/ ZS t = 3:=by
 unfold ZS
 split
 ·exact Or.inr (Or.inl rfl)
 ·split
  ·exact Or.inr (Or.inr (Or.inl rfl))
  ·split
   ·exact Or.inr (Or.inr (Or.inr rfl))
   ·exact Or.inl rfl
theorem zI6 {ws:List ByteArray} (h:3 <= ws.length):∃ k t l r,ws = k :: t :: l :: r:=by
 match ws,h with
 | k :: t :: l :: r,_=>exact ⟨k,t,l,r,rfl⟩
theorem zMp {k t l sd:ByteArray} {r:List ByteArray} (hr:r = [] \/ ∃ r',r = sd :: r'):(∀ o,Zi (r.length + 3) k t l sd = some o -> OpW (k :: t :: l :: r) o) /\ (Zi (r.length + 3) k t l sd = none -> ∀ o,¬ OpW (k :: t :: l :: r) o):=by
 unfold Zi
 constructor
 ·intro o h
  split at h
  ·rename_i hl
   have hL:=(zCP l).1 hl
   split at h
   ·rename_i hk
    injection h with h
    have:r = []:=List.length_eq_zero_iff.1 (by omega)
    subst this
    exact ⟨k,t,l,hL,Or.inl ⟨rfl,Or.inl ⟨hk.1,h.symm⟩⟩⟩
   ·split at h
    ·rename_i hk
     injection h with h
     have:r = []:=List.length_eq_zero_iff.1 (by omega)
     subst this
     exact ⟨k,t,l,hL,Or.inl ⟨rfl,Or.inr ⟨hk.1,h.symm⟩⟩⟩
    ·split at h
     ·rename_i hk
      injection h with h
      rcases hr with rfl | ⟨r',rfl⟩
      ·simp at hk
      ·have:r' = []:=List.length_eq_zero_iff.1 (by have h9:=hk.2.1; simp only [List.length_cons] at h9; omega)
       subst this
       exact ⟨k,t,l,hL,Or.inr ⟨sd,rfl,hk.1,hk.2.2,h.symm⟩⟩
     ·cases h
  ·cases h
 ·rintro h o ⟨k',t',l',hL,h2⟩
  have hlv:=fun (e:l = l')=>(zCP l).2 (e ▸ hL)
  rcases h2 with ⟨e,h2⟩ | ⟨sd',e,h2,h3,h4⟩
  ·simp only [List.cons.injEq] at e
   obtain ⟨rfl,rfl,rfl,rfl⟩:=e
   rw [if_pos (hlv rfl)] at h
   rcases h2 with ⟨hk,_⟩ | ⟨hk,_⟩
   ·rw [if_pos ⟨hk,rfl⟩] at h; cases h
   ·rw [if_neg (fun x=>by rw [hk] at x; exact absurd x.1 (by decide)),if_pos ⟨hk,rfl⟩] at h; cases h
  ·simp only [List.cons.injEq] at e
   obtain ⟨rfl,rfl,rfl,rfl⟩:=e
   have:sd = sd':=by
    rcases hr with h | ⟨r',h⟩
    ·cases h
    ·simp only [List.cons.injEq] at h; exact h.1.symm
   subst this
   rw [if_pos (hlv rfl),if_neg (fun x=>by rw [h2] at x; exact absurd x.1 (by decide)),if_neg (fun x=>by rw [h2] at x; exact absurd x.1 (by decide)),if_pos ⟨h2,rfl,h3⟩] at h
   cases h
def zCj (w:World) (b:Nat) (o:OpR):Prop:=
 (w.cell? ⟨b,0,none⟩ = some (.string o.s) /\ w.cell? ⟨b,1,none⟩ = some (.int .i64 o.k) /\ w.cell? ⟨b,2,none⟩ = some (.int .i64 o.l) /\ w.cell? ⟨b,3,none⟩ = some (.int .i64 o.sd)) /\
  (w.frozen? ⟨b,0,none⟩ = false /\ w.frozen? ⟨b,1,none⟩ = false /\ w.frozen? ⟨b,2,none⟩ = false /\ w.frozen? ⟨b,3,none⟩ = false)
theorem zCj.below {w w':World} {b B:Nat} {o:OpR} (h:zCj w b o) (hb:Below B w w') (hB:b < B):zCj w' b o:=by
 obtain ⟨⟨h0,h1,h2,h3⟩,g0,g1,g2,g3⟩:=h
 have e:=fun j=>hb.cell (p:=⟨b,j,none⟩) hB
 have f:=fun j=>hb.frozen (p:=⟨b,j,none⟩) hB
 exact ⟨⟨(e 0).trans h0,(e 1).trans h1,(e 2).trans h2,(e 3).trans h3⟩,(f 0).trans g0,(f 1).trans g1,(f 2).trans g2,(f 3).trans g3⟩
def zH3 (w:World) (n:Nat) (k t l sd:ByteArray) (e:Ending) (w':World):Prop:=
 ∃ (o:OpR) (v:Bool),e = .returned (.tuple #[.agg #[.string o.s,.int .i64 o.k,.int .i64 o.l,.int .i64 o.sd],.bool v]) /\ ((v = true /\ Zi n k t l sd = some o) \/ (v = false /\ Zi n k t l sd = none)) /\ Below w.heap.size w w'
theorem zI7 {n:Nat} {k t l sd:ByteArray} (h:zC6 l = false):Zi n k t l sd = none:=by
 unfold Zi; rw [h]; rfl
theorem zF3 {n:Nat} {k t l sd:ByteArray} (h:zC6 l = true) (hk:k = zAQ):Zi n k t l sd = if n = 3 then some ⟨t,1,(Zn l l.size:Int),0⟩ else none:=by
 subst hk
 unfold Zi
 rw [if_pos h]
 by_cases hn:n = 3
 ·rw [if_pos ⟨rfl,hn⟩,if_pos hn]
 ·rw [if_neg (fun x=>hn x.2),if_neg (fun x=>hn x.2),if_neg (fun x=>absurd x.1 (by decide)),if_neg hn]
theorem zFC {n:Nat} {k t l sd:ByteArray} (h:zC6 l = true) (hk:k = Zy):Zi n k t l sd = if n = 3 then some ⟨t,3,(Zn l l.size:Int),0⟩ else none:=by
 subst hk
 unfold Zi
 rw [if_pos h]
 by_cases hn:n = 3
 ·rw [if_neg (fun x=>absurd x.1 (by decide)),if_pos ⟨rfl,hn⟩,if_pos hn]
 ·rw [if_neg (fun x=>hn x.2),if_neg (fun x=>hn x.2),if_neg (fun x=>absurd x.1 (by decide)),if_neg hn]
theorem zHQ {n:Nat} {k t l sd:ByteArray} (h:zC6 l = true) (hk:k = zBL):Zi n k t l sd = if n = 4 /\ ZS sd ≠ 0 then some ⟨t,2,(Zn l l.size:Int),ZS sd⟩ else none:=by
 subst hk
 unfold Zi
 rw [if_pos h,if_neg (fun x=>absurd x.1 (by decide)),if_neg (fun x=>absurd x.1 (by decide))]
 by_cases hn:n = 4 /\ ZS sd ≠ 0
 ·rw [if_pos ⟨rfl,hn⟩,if_pos hn]
 ·rw [if_neg (fun x=>hn x.2),if_neg hn]
theorem zHR {n:Nat} {k t l sd:ByteArray} (h1:k ≠ zAQ) (h2:k ≠ Zy) (h3:k ≠ zBL):Zi n k t l sd = none:=by
 unfold Zi
 split
 ·rw [if_neg (fun x=>h1 x.1),if_neg (fun x=>h2 x.1),if_neg (fun x=>h3 x.1)]
 ·rfl
end Go.Proofs.YtokabkhnidlcnacGreatDoor
namespace Go.Proofs.YtokabkhnidlcnacGreatDoor
set_option maxHeartbeats 16000000
set_option maxRecDepth 100000
open Go.RowKit
structure zI (w w':World) (g:Nat):Prop where
 os:w'.os = w.os
 tape:w'.tape = w.tape
 output:w'.output = w.output
 size:w.heap.size <= w'.heap.size
 block:∀ i,i < w.heap.size -> i ≠ g -> w'.heap[i]? = w.heap[i]?
theorem zI.refl (w:World) (g:Nat):zI w w g:=⟨rfl,rfl,rfl,Nat.le_refl _,fun _ _ _=>rfl⟩
theorem zI.trans {w w1 w2:World} {g:Nat} (h:zI w w1 g) (h':zI w1 w2 g):zI w w2 g:=
 ⟨h'.os.trans h.os,h'.tape.trans h.tape,h'.output.trans h.output,Nat.le_trans h.size h'.size,fun i hi a=>(h'.block i (Nat.lt_of_lt_of_le hi h.size) a).trans (h.block i hi a)⟩
theorem zI.of_below {w w':World} {g:Nat} (h:Below w.heap.size w w'):zI w w' g:=⟨h.os,h.tape,h.output,h.size,fun i hi _=>h.block i hi⟩
theorem zI.cell {w w':World} {g:Nat} (h:zI w w' g) {b:Nat} (hb:b < w.heap.size) (h1:b ≠ g) (o:Nat):w'.cell? ⟨b,o,none⟩ = w.cell? ⟨b,o,none⟩:=
 World.cell?_of_block (w:=w) (h.block b hb h1)
theorem zI.frozen {w w':World} {g:Nat} (h:zI w w' g) {b:Nat} (hb:b < w.heap.size) (h1:b ≠ g) (o:Nat):w'.frozen? ⟨b,o,none⟩ = w.frozen? ⟨b,o,none⟩:=
 World.frozen?_of_block (w:=w) (h.block b hb h1)
theorem zI.below {w w':World} {g B:Nat} (h:zI w w' g) (hB:B <= w.heap.size) (h1:B <= g):Below B w w':=
 ⟨h.os,h.tape,h.output,h.size,fun i hi=>h.block i (by omega) (by omega)⟩
theorem zAl {g:Nat}:∀ (vs:List Value) (o:Nat) (w:World),zI w (w.setCells g o vs) g
 | [],_,w=>zI.refl w g
 | v :: r,o,w=>(show zI w (w.setCell ⟨g,o,none⟩ v) g from ⟨rfl,rfl,rfl,by simp [World.setCell],fun _ _ hi=>Below.heap_setCell _ _ _ _ hi⟩).trans (zAl r (o + 1) _)
theorem zm {w w':World} {g:Nat} (h:zI w w' g):w.grownBy w' (some g):=⟨h.os,h.tape,h.output,h.size,fun i hi e=>h.block i hi (fun x=>e (by rw [x]))⟩
end Go.Proofs.YtokabkhnidlcnacGreatDoor
