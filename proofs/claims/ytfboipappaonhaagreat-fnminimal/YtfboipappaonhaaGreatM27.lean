import Derived.Shelf.Strings.BuilderK
import Derived.Deep.RegionHeld
import Derived.Test.YtfboipappaonhaaGreatM07
import Derived.Test.YtfboipappaonhaaGreatM22
import Derived.Test.YtfboipappaonhaaGreatM23
import Derived.Test.YtfboipappaonhaaGreatM24
import Derived.Test.YtfboipappaonhaaGreatM26
namespace Go.Proofs.YtfboipappaonhaaGreat
set_option maxHeartbeats 16000000
set_option maxRecDepth 100000
open Go.RowKit Go.Shelf
def zLU:Go.Shelf.Ren:=⟨fun | 169=>71 | n=>n,fun | 70=>135 | 9=>9 | 0=>0 | 72=>137 | 37=>22 | 127=>195 | 3=>3 | 5=>5 | n=>n,fun | n=>n⟩
theorem zMQ:Go.Proofs.Lays.n169 Tryz.prog zLU:={
 mixed:=by kernel_rfl
 f169:=Tryz.func71.trans (congrArg some (by kernel_rfl))
 t0:=Tryz.underlying0
 a0:=Tryz.isAgg0
 z0:=Tryz.sizeOf0
 v0:=Tryz.zeroValue0
 t3:=Tryz.underlying3
 a3:=Tryz.isAgg3
 z3:=Tryz.sizeOf3
 v3:=Tryz.zeroValue3
 t9:=Tryz.underlying9
 a9:=Tryz.isAgg9
 z9:=Tryz.sizeOf9
 v9:=Tryz.zeroValue9
 t37:=Tryz.underlying22
 a37:=Tryz.isAgg22
 z37:=Tryz.sizeOf22
 v37:=Tryz.zeroValue22
 t70:=Tryz.underlying135
 a70:=Tryz.isAgg135
 z70:=Tryz.sizeOf135
 v70:=Tryz.zeroValue135
 t72:=Tryz.underlying137
 a72:=Tryz.isAgg137
 z72:=Tryz.sizeOf137
 v72:=Tryz.zeroValue137
 t127:=Tryz.underlying195
 a127:=Tryz.isAgg195
 z127:=Tryz.sizeOf195
 v127:=Tryz.zeroValue195 }
theorem zDo:Builder.Extra Tryz.prog zLU:={
 sizeBuilder:=by kernel_rfl
 liesBuilder:=by kernel_rfl
 t5:=Tryz.underlying5
 a5:=Tryz.isAgg5
 z5:=Tryz.sizeOf5
 v5:=Tryz.zeroValue5
 infoByte:=by kernel_rfl
 cellsByte:=by kernel_rfl
 sizeByte:=by kernel_rfl
 neB5:=by decide }
def Bld (B b:Nat) (l:List UInt8) (w:World):Prop:=Lib.IsBuilderF 137 5 B b (cellsB l) w
theorem zFy (B b:Nat) (l:List UInt8) (w:World) (h:Bld B b l w) (hBw:B <= w.heap.size) :
  Calls Tryz.prog 71 #[.pointer (some ⟨b,0,none⟩)] w fun e w'=>e = .returned (.string ⟨l.toArray⟩) /\ Bld B b l w' /\ Below B w w' /\ Lib.OthersKept 5 (some b) w w':=
 Any.Builder_String_any_k zMQ zDo B b l w h hBw
theorem zFz (b:Nat) (w:World) (h0:w.cell? ⟨b,0,none⟩ = some (.pointer (some ⟨b,0,none⟩))) :
  Calls Tryz.prog 118 #[.pointer (some ⟨b,0,none⟩)] w fun e w'=>e = .returned (.tuple #[]) /\ w' = w:=by
 obtain ⟨j,hj,_⟩:=Option.map_eq_some_iff.1 zDo.sizeBuilder
 go_enter Tryz.func118,Tryz.ntmps118
 go_wp2
 rw [Lib.run_neq_ptr_same w _ Tryz.underlying135 hj]
 go_wp2
 go_end0
 exact ⟨rfl,rfl⟩
theorem zFV (b:Nat) (w:World) (h0:w.cell? ⟨b,0,none⟩ = some (.pointer none)) (hsh:w.shape? b = some (137,2)) (hfz:w.frozen? ⟨b,0,none⟩ = false) :
  Calls Tryz.prog 118 #[.pointer (some ⟨b,0,none⟩)] w fun e w'=>e = .returned (.tuple #[]) /\ w' = w.setCell ⟨b,0,none⟩ (.pointer (some ⟨b,0,none⟩)):=by
 obtain ⟨j,hj,hjs⟩:=Option.map_eq_some_iff.1 zDo.sizeBuilder
 go_enter Tryz.func118,Tryz.ntmps118
 go_wp2
 rw [Lib.run_to_unsafe w ⟨b,0,none⟩ Tryz.underlying135 Tryz.underlying218 hj (by rw [hjs]; decide) hsh (Nat.zero_lt_succ 1)]
 simp only [Result.andThen]
 rw [Oper.upon_value]
 go_wp2
 rw [run_callFunc_extern Tryz.func155 (by kernel_rfl) (by kernel_rfl) (by kernel_rfl) (e:=Extern.AbiNoEscape.same) (by kernel_rfl)]
 rw [Lib.run_noEscape]
 simp only [Result.andThen]
 rw [Oper.upon_value]
 go_wp2
 rw [Lib.run_from_unsafe w ⟨b,0,none⟩ Tryz.underlying218 Tryz.underlying135 hj hsh zDo.liesBuilder]
 simp only [Result.andThen]
 rw [Oper.upon_value]
 go_wp2
 go_end0
 exact ⟨rfl,rfl⟩
theorem zHF (B b:Nat) (bs:List Value) (w:World) (h:Lib.IsBuilderF 137 5 B b bs w) :
  Calls Tryz.prog 118 #[.pointer (some ⟨b,0,none⟩)] w fun e w'=>e = .returned (.tuple #[]) /\ (Lib.BuilderAtF 137 5 B b (.pointer (some ⟨b,0,none⟩)) bs w' /\ Below B w w' /\ Lib.OthersKept 5 (some b) w w'):=by
 rcases h with h | h
 ·refine (zFV b w h.cell0 h.shape h.frozen0).mono ?_
  rintro e w' ⟨rfl,rfl⟩
  exact ⟨rfl,h.used _,(Below.refl B w).setCell (p:=⟨b,0,none⟩) h.1 _,(Lib.OthersKept.refl _ _ w).setCell ⟨b,0,none⟩ rfl _⟩
 ·refine (zFz b w h.cell0).mono ?_
  rintro e w' ⟨rfl,rfl⟩
  exact ⟨rfl,h,Below.refl B _,Lib.OthersKept.refl _ _ _⟩
theorem zIr (s:ByteArray):Lib.strCells s = cellsB s.data.toList:=by
 rfl
theorem zDp (B b:Nat) (l:List UInt8) (s:ByteArray) (w:World) (h:Bld B b l w) (hlen:l.length + s.size <= 140737488355328) (hBw:B <= w.heap.size) :
  Calls Tryz.prog 70 #[.pointer (some ⟨b,0,none⟩),.string s] w fun e w'=>(∃ v,e = .returned v) /\ Bld B b (l ++ s.data.toList) w' /\ Below B w w' /\ Lib.OthersKept 5 (some b) w w':=by
 obtain ⟨i0,hi,hz0,hz1,hz2⟩:=info_parts infoByte
 go_enter Tryz.func70,Tryz.ntmps70
 go_wp2_with fail
 refine (zHF B b (cellsB l) _ h).mono ?_
 rintro e w1 ⟨rfl,h1,hb1,hk1⟩
 obtain ⟨hB,v,hbk,hown,hne⟩:=h1
 have hlen':(cellsB l).length + s.size <= 140737488355328:=by rw [zBM]; exact hlen
 have c0:w1.cell? ⟨b,0,none⟩ = some (.pointer (some ⟨b,0,none⟩)):=by rw [Lib.cell_of_heap hbk]; rfl
 have c1:w1.cell? ⟨b,1,none⟩ = some v:=by rw [Lib.cell_of_heap hbk]; rfl
 go_wp2_with (at_builtin; refine Lib.wpList_append_own_stringF _ rfl _ _ 22 9 rfl B 5 i0 Tryz.underlying22 Tryz.underlying9 hi hz0 hz1 hz2 _ _ _ rfl hown s rfl ?c3 ?c4 ?c5 ?_)
 case c3=>unfold maxLen; omega
 case c4=>omega
 case c5=>have:=hb1.size; omega
 intro v' w2 hown' hgrow _
 have hlt:b < w1.heap.size:=block_lt_of_cell c0
 have hb2:w2.heap[b]? = some (.cells #[.pointer (some ⟨b,0,none⟩),v] 137 (0,0)):=by
  rw [hgrow.block b hlt (fun e=>hne e.symm)]
  exact hbk
 have d0:w2.cell? ⟨b,0,none⟩ = some (.pointer (some ⟨b,0,none⟩)):=by rw [Lib.cell_of_heap hb2]; rfl
 have d1:w2.cell? ⟨b,1,none⟩ = some v:=by rw [Lib.cell_of_heap hb2]; rfl
 have f1:w2.frozen? ⟨b,1,none⟩ = false:=Lib.frozen_of_heap hb2 1
 obtain ⟨ao,n',cap,rfl⟩:∃ ao n' cap,v' = .slice ao n' cap:=by
  rcases hown'.2 with ⟨hv,_⟩ | ⟨g,cap,cur,fz,hv,_⟩
  ·exact ⟨_,_,_,hv⟩
  ·exact ⟨_,_,_,hv⟩
 go_wp2
 go_ret2
 refine ⟨⟨_,rfl⟩,?_,?_,(hk1.grown hgrow (Lib.ownsRowF_kind hown)).setCell ⟨b,1,none⟩ rfl _⟩
 ·exact Or.inr (Lib.BuilderAtF.put (T:=137) (e:=5) hB hb2 (bs':=cellsB (l ++ s.data.toList)) (by rw [zAq,<- zIr]; simpa [Lib.strCells_length] using hown') (by decide))
 ·exact (hb1.grown hgrow (by have:=hb1.size; omega) (fun k hk=>(hown.lt k hk).1)).setCell (p:=⟨b,1,none⟩) hB _
end Go.Proofs.YtfboipappaonhaaGreat
namespace Go.Proofs.YtfboipappaonhaaGreat
set_option maxHeartbeats 16000000
set_option maxRecDepth 100000
open Go.RowKit
theorem zKJ (w:World):Bld w.heap.size w.heap.size [] (w.alloc (.cells #[.pointer none,.slice none 0 0] 137)):=
 Lib.IsBuilderF.of (Or.inl ⟨Nat.le_refl _,.slice none 0 0,heap_alloc_new w _,World.ownsRow_nil _ _ _ _,by simp [Value.ownBlock]⟩)
theorem Bld.alloc {B b:Nat} {l:List UInt8} {w:World} (h:Bld B b l w) (o:Obj):Bld B b l (w.alloc o):=Lib.IsBuilderF.alloc h o
theorem zNL {B b:Nat} {l:List UInt8} {w:World} (h:Bld B b l w):b < w.heap.size:=by
 rcases h with h | h
 ·exact h.lt
 ·exact h.lt
theorem zFW (b off cap:Nat) (xs:List zS) (w:World) (hm:xs.length + Zn xs xs.length <= 1048576) (hw:zEa w b off xs) (hB:b < w.heap.size) :
  Calls Tryz.prog 130 #[.slice (some ⟨b,off,none⟩) xs.length cap] w fun e w'=>e = .returned (.string ⟨(zAa xs xs.length).toArray⟩) /\ Below w.heap.size w w':=by
 have HW:=zB hw
 have HO:=zB (zKJ w)
 clear hw
 go_enter Tryz.func130,Tryz.ntmps130
 go_wp2
 go_loopw [8] (fun i wr=>∃ k:Nat,k <= xs.length /\ i = .int .i64 (k:Int) /\ Hid (Bld w.heap.size w.heap.size (zAa xs k) wr) /\ Below w.heap.size w wr) (fun i _=>xs.length - (intOf i).toNat)
 case atStart=>exact ⟨0,Nat.zero_le _,rfl,HO,zC _ _⟩
 case round=>
  clear HO
  obtain ⟨k,hk,rfl,hbl,hbel⟩:=hrel
  by_cases hlt:k < xs.length
  ·obtain ⟨a0,a1,a2⟩:=((zA HW) k hlt).below hbel hB
   have hnn:=zDi xs k
   have htk:Zn xs (k + 1) <= Zn xs xs.length:=zFR xs _ _ (by omega)
   simp only [Zn,zM0] at htk
   have hl1:(zAa xs k).length + (atT xs k).g.size <= 1048576:=by omega
   have hl2:(zAa xs k ++ (atT xs k).g.data.toList).length + (atT xs k).t.size <= 1048576:=by
    rw [List.length_append]
    have:(atT xs k).g.data.toList.length = (atT xs k).g.size:=by simp
    omega
   have HBL:=zB ((zA hbl).alloc (.cells #[.int .i64 (atT xs k).k,.string (atT xs k).g,.string (atT xs k).t] 97))
   have L1:=zB hl1
   have L2:=zB hl2
   have hblt:=zB (show w.heap.size < wr.heap.size from zNL (zA hbl))
   clear hnn htk hl1 hl2 hbl
   go_wp2_with fail
   refine (zDp _ _ _ _ _ (zA HBL) (by have:=zA L1; omega) (by have:=hbel.size; simp; omega)).mono ?_
   rintro e w1 ⟨⟨v,rfl⟩,hb1,hbe1,hk1⟩
   have HB1:=zB hb1
   have hz1:wr.heap.size < w1.heap.size:=by have:=hbe1.size; simp at this; omega
   have ht:w1.heap[wr.heap.size]? = some (.cells #[.int .i64 (atT xs k).k,.string (atT xs k).g,.string (atT xs k).t] 97 (0,0)):=hk1 _ _ (heap_alloc_new wr _) (by have:=hbel.size; simp; have:=(zA hblt); omega) (by simp)
   have q2:w1.cell? ⟨wr.heap.size,2,none⟩ = some (.string (atT xs k).t):=by rw [Lib.cell_of_heap ht]; rfl
   have hbel1:Below w.heap.size w w1:=(hbel.alloc hbel.size _).trans hbe1
   clear hb1 hk1 ht hbe1
   go_wp2_with fail
   refine (zDp _ _ _ _ _ (zA HB1) (by have:=zA L2; omega) hbel1.size).mono ?_
   rintro e w2 ⟨⟨v2,rfl⟩,hb2,hbe2,_⟩
   have HB2:=zB (show Bld w.heap.size w.heap.size (zAa xs (k + 1)) w2 from hb2)
   have hbel2:=hbel1.trans hbe2
   clear hb2 hbe2
   go_wp2
   exact ⟨⟨k + 1,by omega,by go_num,HB2,hbel2⟩,by simp [intOf]; omega⟩
  ·have HK:=zB (show k = xs.length by omega)
   go_wp2_with fail
   refine (zFy _ _ _ _ (zA hbl) hbel.size).mono ?_
   rintro e w1 ⟨rfl,_,hbe1,_⟩
   go_wp2
   go_ret
   exact ⟨zJE (by rw [zA HK]),hbel.trans hbe1⟩
end Go.Proofs.YtfboipappaonhaaGreat
namespace Go.Proofs.YtfboipappaonhaaGreat
set_option linter.unusedSimpArgs false
set_option linter.unusedVariables false
set_option maxHeartbeats 16000000
set_option maxRecDepth 100000
open Go.RowKit
def zIs (ts:List zS) (i:Nat):Nat:=Zn ts i + (atT ts i).g.size
theorem zH8 {ts:List zS} {i j:Nat} (h:j < i):atT (ts.take i) j = atT ts j:=by
 simp [atT,List.getD,List.getElem?_take,h]
theorem zFX (ts:List zS) (i:Nat):∀ k,k <= i -> Zn (ts.take i) k = Zn ts k
 | 0,_=>rfl
 | k + 1,h=>by
  simp only [Zn]
  rw [zFX ts i k (by omega),zH8 (by omega)]
theorem zDq (g o c i:Nat) (ts:List zS) (w:World) (hm:ts.length + Zn ts ts.length <= 1048576) (hi:i < ts.length) (hc:ts.length <= c) (hc2:c <= maxLen) (hw:zEa w g o ts) (hB:g < w.heap.size) (hz:(atT ts i).g.size <= 1048576) :
  Calls Tryz.prog 80 #[.slice (some ⟨g,o,none⟩) ts.length c,.int .i64 (i:Int)] w fun e w'=>e = .returned (.int .i64 (zIs ts i:Int)) /\ Below w.heap.size w w':=by
 have htl:(ts.take i).length = i:=by simp; omega
 have htm:=zFR ts i ts.length (by omega)
 have hdr:Below w.heap.size w w.drew:=(Below.refl _ _).drew
 have HX:=zFW g o c (ts.take i) w.drew (by rw [htl,zFX ts i i (Nat.le_refl _)]; omega) (fun j hj=>by
  rw [htl] at hj
  have h:=(hw j (by omega)).below hdr hB
  unfold zD0 at h ⊢
  rw [zH8 hj]
  exact h) hB
 rw [htl] at HX
 have e0:(zAa (ts.take i) i).length = Zn ts i:=by rw [zDi,zFX ts i i (Nat.le_refl _)]
 obtain ⟨S,hS⟩:∃ S:ByteArray,S = ⟨(zAa (ts.take i) i).toArray⟩:=⟨_,rfl⟩
 rw [<- hS] at HX
 have hSz:S.size = Zn ts i:=by rw [hS,<- e0]; simp [ByteArray.size]
 obtain ⟨k0,k1,k2⟩:=hw i hi
 have hiI:(i:Int) < (ts.length:Int):=by omega
 have HS:=zB hSz
 have HOFF:=zB (show (zIs ts i:Int) = (S.size:Int) + ((atT ts i).g.size:Int) by unfold zIs; rw [hSz]; omega)
 have hb1:S.size <= 1048576:=by omega
 clear hS e0 hSz htm htl hw hdr
 go_enter Tryz.func80,Tryz.ntmps80
 go_wp2_with fail
 have HBC:=zB (show Below w.heap.size w w.drew from (Below.refl _ _).drew)
 go_region_held (fun w'=>w'.cell? ⟨g,o + i * 3 + 1,none⟩ = some (.string (atT ts i).g)) (first | (go_keep; done) | exact ((zA HBC).cell (p:=⟨g,o + i * 3 + 1,none⟩) hB).trans k1)
  (first | (go_at_call 130; refine HX.mono ?_; rintro x w1 ⟨rfl,hb⟩; replace HBC:=zB ((zA HBC).trans hb); clear HX hb))
 have hwr:IntKind.i64.wrap ((S.size:Int) + ((atT ts i).g.size:Int)) = (S.size:Int) + ((atT ts i).g.size:Int):=by rw [IntKind.wrap_i64]; omega
 rw [hwr,<- zA HOFF]
 go_wp2_with fail
 go_ret
 exact ⟨rfl,zA HBC⟩
end Go.Proofs.YtfboipappaonhaaGreat
namespace Go.Proofs.YtfboipappaonhaaGreat
set_option linter.unusedSimpArgs false
set_option linter.unusedVariables false
set_option maxHeartbeats 16000000
set_option maxRecDepth 100000
def zIt (ns:List OpR) (ts:List zS) (us:List zD) (c p:Int):Prop:=
 (RD ns 0 none (sgs ns ts 0 ts.length) = none /\ us = [] /\ c = 5 /\ p = 0) \/
 ∃ T r,RD ns 0 none (sgs ns ts 0 ts.length) = some (T,r) /\ ((1000 < hT T /\ us = [] /\ c = 6 /\ p = 0) \/ (hT T <= 1000 /\ us = nd T 0 /\ c = 0 /\ p = 0))
def zNM (ns:List OpR) (ts:List zS) (us:List zD) (c p:Int):Prop:=
 (∃ i,i < ts.length /\ (atT ts i).k = 6 /\ (∀ j,j < i -> (atT ts j).k ≠ 6) /\ us = [] /\ c = 3 /\ p = (zIs ts i:Int)) \/
 ((∀ j,j < ts.length -> (atT ts j).k ≠ 6) /\
  ((∃ i,i < ts.length /\ zBo ns ts i /\ ZG ns ts i < 0 /\ us = [] /\ c = 4 /\ p = (zIs ts i:Int)) \/ (zBo ns ts ts.length /\ zIt ns ts us c p)))
def zCw (ns:List OpR) (s:ByteArray) (us:List zD) (c p:Int):Prop:=
 (¬ zO ns 0 /\ us = [] /\ c = 1 /\ p = 0) \/
 (zO ns 0 /\ ((20000 < s.size /\ us = [] /\ c = 2 /\ p = 0) \/ (s.size <= 20000 /\ ∃ ts,ZP ns s 0 ts /\ zNM ns ts us c p)))
end Go.Proofs.YtfboipappaonhaaGreat
namespace Go.Proofs.YtfboipappaonhaaGreat
set_option linter.unusedSimpArgs false
set_option linter.unusedVariables false
set_option maxHeartbeats 16000000
set_option maxRecDepth 100000
open Go.RowKit
open Go.Deep (BT)
def trF (xs:List zD):Nat -> Nat -> ET
 | 0,_=>.nil
 | n + 1,i=>if zR (atN xs i).k = 0 then .node (atN xs i).k.toNat 0 (atN xs i).t .nil .nil
  else if zR (atN xs i).k = 1 then .node (atN xs i).k.toNat 0 (atN xs i).t (trF xs n (i - 1)) .nil
  else .node (atN xs i).k.toNat 0 (atN xs i).t (trF xs n (atN xs i).a.toNat) (trF xs n (i - 1))
theorem zLV {xs:List zD}:∀ (T:ET) (s:Nat),Sh T -> zBR xs T s -> ∀ n,tsz T <= n -> trF xs n (s + tsz T - 1) = T:=by
 intro T
 induction T with
 | nil=>intro s h; exact h.elim
 | node b o t l r ihl ihr=>
  rintro s ⟨rfl,hsh⟩ ⟨h1,h2,h3⟩ n hn
  simp only [tsz] at hn
  obtain ⟨n,rfl⟩:∃ m,n = m + 1:=⟨n - 1,by omega⟩
  have e:s + tsz (.node b 0 t l r) - 1 = s + tsz l + tsz r:=by simp only [tsz]; omega
  rw [e]
  have hK:(atN xs (s + tsz l + tsz r)).k = (b:Int):=by rw [h3]; rfl
  have hT:(atN xs (s + tsz l + tsz r)).t = t:=by rw [h3]; rfl
  have hb:((b:Int)).toNat = b:=by omega
  rcases hsh with ⟨hk,rfl,rfl⟩ | ⟨hk,hl,rfl⟩ | ⟨hk,hl,hr⟩
  ·simp only [trF,hK,hT,hk,if_true,hb]
  ·have hp:=hl.pos
   have e2:s + tsz l + tsz (BT.nil:ET) - 1 = s + tsz l - 1:=by simp [tsz]
   simp only [trF,hK,hT,hk,hb,e2,ihl s hl h1 n (by omega)]
   simp
  ·have hp:=hl.pos
   have hq:=hr.pos
   have ha:(atN xs (s + tsz l + tsz r)).a.toNat = s + tsz l - 1:=by
    rw [h3]
    simp [tN,hk]
    omega
   simp only [trF,hK,hT,hk,hb,ha,ihl s hl h1 n (by omega),ihr (s + tsz l) hr h2 n (by omega)]
   simp
def zEI (xs:List zD):ET:=trF xs xs.length (xs.length - 1)
theorem zCx {T:ET} (h:Sh T):zEI (nd T 0) = T:=by
 have:=zLV T 0 h (Zu T) (tsz T) (Nat.le_refl _)
 unfold zEI
 rw [zj]
 simpa using this
def TxB:ET -> Prop
 | .nil=>True
 | .node _ _ t l r=>t.size <= 20000 /\ TxB l /\ TxB r
theorem zLW {xs:List zD} (htx:∀ i,i < xs.length -> Zk (atN xs i)):∀ (T:ET) (s:Nat),zBR xs T s -> s + tsz T <= xs.length -> TxB T:=by
 intro T
 induction T with
 | nil=>intro s _ _; trivial
 | node b o t l r ihl ihr=>
  rintro s ⟨h1,h2,h3⟩ hz
  simp only [tsz] at hz
  have ht:=htx (s + tsz l + tsz r) (by omega)
  rw [h3] at ht
  exact ⟨ht.1,ihl s h1 (by omega),ihr _ h2 (by omega)⟩
theorem zMR (ns:List OpR):∀ (T:ET) (l:Int),TxB T -> TxB (grT ns T l):=by
 intro T
 induction T with
 | nil=>intro l _; trivial
 | node b o t l r ihl ihr=>
  rintro least ⟨h1,h2,h3⟩
  simp only [grT]
  split
  ·exact ihl _ h2
  ·unfold clT
   split
   ·exact ⟨by decide,⟨h1,ihl _ h2,ihr _ h3⟩,trivial⟩
   ·exact ⟨h1,ihl _ h2,ihr _ h3⟩
theorem zGU:∀ (T:ET),TxB T -> ∀ s ∈ ySy T,s.2.size <= 20000:=by
 intro T
 induction T with
 | nil=>intro _ s hs; simp [ySy] at hs
 | node b o t l r ihl ihr=>
  rintro ⟨h1,h2,h3⟩ s hs
  have e1:opn.size <= 20000:=by decide
  have e2:zAl.size <= 20000:=by decide
  simp only [ySy] at hs
  split at hs
  ·simp only [List.mem_cons,List.mem_append,List.not_mem_nil,or_false] at hs
   rcases hs with rfl | hs | rfl
   ·exact e1
   ·exact ihl h2 s hs
   ·exact e2
  ·split at hs
   ·simp only [List.mem_cons] at hs
    rcases hs with rfl | hs
    ·exact h1
    ·exact ihl h2 s hs
   ·split at hs
    ·simp only [List.mem_cons,List.mem_append,List.not_mem_nil,or_false] at hs
     rcases hs with hs | rfl
     ·exact ihl h2 s hs
     ·exact h1
    ·split at hs
     ·simp only [List.mem_cons,List.mem_append] at hs
      rcases hs with hs | rfl | hs
      ·exact ihl h2 s hs
      ·exact h1
      ·exact ihr h3 s hs
     ·simp only [List.mem_cons,List.not_mem_nil,or_false] at hs
      subst hs
      exact h1
theorem zHG:∀ (T:ET),(ySy T).length <= 2 * tsz T
 | .nil=>by simp [ySy]
 | .node b o t l r=>by
  have h1:=zHG l
  have h2:=zHG r
  simp only [ySy,tsz]
  split
  ·simp; omega
  ·split
   ·simp; omega
   ·split
    ·simp; omega
    ·split
     ·simp; omega
     ·simp; omega
theorem zIu {ns:List OpR} {xs:List zD} (h:(zO ns 0 /\ zu xs /\ zAY ns xs) /\ (gS ns xs (xs.length - 1) 0 0).length <= 20000) :
  ∃ G,G = grT ns (zEI xs) 0 /\ zl ns G /\ TxB G /\ tsz G <= 20000 /\ gS ns xs (xs.length - 1) 0 0 = nd G 0 /\ fS ns xs (xs.length - 1) 0 = exT ns G:=by
 obtain ⟨⟨hv,hord,hkn⟩,hlen⟩:=h
 obtain ⟨T,hT,hz,hx⟩:=zEU hord hkn
 have hto:zEI xs = T:=by rw [hx]; exact zCx hT.sh
 have hli:zBR xs T 0:=by rw [hx]; exact Zu T
 have hg:=zL6 ns xs T 0 hT.sh hli 0 0
 have hf:=zL7 ns xs T 0 hT.sh hli 0
 rw [Nat.zero_add,hz] at hg hf
 refine ⟨grT ns (zEI xs) 0,rfl,?_,?_,?_,?_,?_⟩
 ·rw [hto]; exact (zK8 hv T 0 hT (by omega)).1
 ·rw [hto]; exact zMR ns T 0 (zLW hord.2.2.2 T 0 hli (by omega))
 ·rw [hto,<- zj _ 0,<- hg]; exact hlen
 ·rw [hto]; exact hg
 ·rw [hto]; exact hf
end Go.Proofs.YtfboipappaonhaaGreat
namespace Go.Proofs.YtfboipappaonhaaGreat
set_option linter.unusedSimpArgs false
set_option linter.unusedVariables false
set_option maxHeartbeats 16000000
set_option maxRecDepth 100000
open Go.RowKit
theorem zBp {ns:List OpR} {st st':Bool × Nat} {s:SyR} {r:List SyR} (h:auS ns st s = some st'):zAo ns st (s :: r) = zAo ns st' r:=by
 simp only [zAo,h]
theorem zDr {ns:List OpR} {a b:List SyR} {st st':Bool × Nat} (h:zAo ns st a = some st'):zAo ns st (a ++ b) = zAo ns st' b:=by
 rw [zAz,h]
theorem zFY {ns:List OpR}:∀ (T:ET),ZS ns T -> ∀ d,zAo ns (false,d) (ySy T) = some (true,d):=by
 intro T
 induction T with
 | nil=>intro h; exact h.elim
 | node b o t l r ihl ihr=>
  intro h d
  obtain ⟨rfl,⟨hb,rfl,rfl⟩ | ⟨rfl,rfl,hl,rfl⟩ | ⟨hb,hk,hl,rfl⟩ | ⟨rfl,hk,hl,hr⟩⟩:=h
  ·rw [zCf hb,zBp (zJc (s:=(b,t)) hb)]; rfl
  ·rw [zDh,zBp zJd,zDr (ihl hl (d + 1)),zBp zH1]; rfl
  ·rcases hb with rfl | rfl
   ·rw [zCt,zBp (zLA (s:=(3,t)) rfl hk),ihl hl d]
   ·rw [zCg,zDr (ihl hl d),zBp (zJe (s:=(5,t)) rfl hk)]; rfl
  ·rw [zEr,zDr (ihl hl d),zBp (zLB (s:=(4,t)) rfl hk),ihr hr d]
def tkK (b:Nat):Nat:=if b = 1 then 1 else if b = 2 then 2 else if b = 6 then 4 else if b = 7 then 5 else 3
theorem zIv {ns:List OpR} {s:SyR} {k:Int} (h:knB ns s = true) (hk:k = (s.1:Int) - 2):ZM ns s.2 k = true:=by
 obtain ⟨j,hj,_,h2,h3⟩:=zDe h
 have ht:=zJX (b:=s.1) (t:=s.2) h
 rw [h3] at ht
 rw [Z7]
 exact ⟨j,hj,ht,by rw [h2,hk]⟩
def zHH (ss:List SyR) (ts:List zS):Prop:=ts.length = ss.length + 1 /\ (atT ts ss.length).k = 7 /\ ∀ i (h:i < ss.length),(atT ts i).k = (tkK ss[i].1:Int) /\ (atT ts i).t = ss[i].2
theorem zH9 {ns:List OpR} (ha:zCu ns) {ss:List SyR} {ts:List zS} (ht:zHH ss ts) (hs:Seg ns ss):∀ i,i <= ss.length -> zAo ns (false,0) (ss.take i) = some (zA5 ns ts i,zA0 ts i) /\ zBo ns ts i /\ sgs ns ts 0 i = ss.take i
 | 0,_=>⟨rfl,fun j hj=>absurd hj (Nat.not_lt_zero j),rfl⟩
 | i + 1,hi=>by
  obtain ⟨h1,h2,h3⟩:=zH9 ha ht hs i (by omega)
  obtain ⟨hl,h7,hk⟩:=ht
  have hlt:i < ss.length:=by omega
  obtain ⟨k1,k2⟩:=hk i hlt
  have e:ss.take (i + 1) = ss.take i ++ [ss[i]]:=by rw [List.take_add_one,List.getElem?_eq_getElem hlt]; rfl
  have hrun:∃ st',auS ns (zA5 ns ts i,zA0 ts i) ss[i] = some st':=by
   have h:=hs
   unfold Seg at h
   have e2:ss = ss.take i ++ ss[i] :: ss.drop (i + 1):=by rw [List.getElem_cons_drop,List.take_append_drop]
   rw [e2,zDr h1] at h
   simp only [zAo] at h
   cases ha':auS ns (zA5 ns ts i,zA0 ts i) ss[i] with
   | none=>rw [ha'] at h; cases h
   | some st'=>exact ⟨st',rfl⟩
  obtain ⟨st',hst⟩:=hrun
  have hlast:decide (i + 1 = ts.length) = false:=by simp; omega
  generalize hs':ss[i] = s at *
  have key:0 <= ZG ns ts i /\ sgT ns ts i = s:=by
   unfold sgT ZG
   rw [hlast]
   generalize atT ts i = t at *
   generalize zA0 ts i = op at *
   generalize zA5 ns ts i = bh at *
   cases bh
   ·rw [zFU]
    rcases zH0 hst with ⟨c,_⟩ | ⟨c,hkn,_⟩ | ⟨rfl,_⟩
    ·have hkk:t.k = (s.1:Int):=by rw [k1]; rcases c with c | c <;> simp [tkK,c]
     rw [if_pos (by omega),if_neg (by omega),if_neg (by omega),if_neg (by omega),if_neg (by omega)]
     exact ⟨by decide,by rw [hkk,k2]; rfl⟩
    ·have hkk:t.k = 3:=by rw [k1,c]; rfl
     have hh:ZM ns t.t 1 = true:=by rw [k2]; exact zIv hkn (by rw [c]; rfl)
     rw [if_neg (by omega),if_pos ⟨hkk,hh⟩,if_pos hkk]
     refine ⟨by decide,?_⟩
     rw [k2]
     obtain ⟨s1,s2⟩:=s
     simp only at c
     rw [c]
     rfl
    ·have hkk:t.k = 4:=by rw [k1]; rfl
     rw [if_pos (by omega),if_neg (by omega),if_pos hkk]
     exact ⟨by decide,rfl⟩
   ·rw [zDl]
    rcases zJb hst with ⟨c,hkn,_⟩ | ⟨c,hkn,_⟩ | ⟨rfl,hop,_⟩
    ·have hkk:t.k = 3:=by rw [k1,c]; rfl
     have hh:ZM ns t.t 2 = true:=by rw [k2]; exact zIv hkn (by rw [c]; rfl)
     rw [if_pos ⟨hkk,hh⟩,if_pos hkk]
     refine ⟨by decide,?_⟩
     rw [k2]
     obtain ⟨s1,s2⟩:=s
     simp only at c
     rw [c]
     rfl
    ·have hkk:t.k = 3:=by rw [k1,c]; rfl
     have hh:ZM ns t.t 3 = true:=by rw [k2]; exact zIv hkn (by rw [c]; rfl)
     have hn:¬ (t.k = 3 /\ ZM ns t.t 2 = true):=fun x=>ha t.t ⟨x.2,hh⟩
     rw [if_neg hn,if_pos ⟨hkk,hh⟩,if_pos hkk]
     refine ⟨by decide,?_⟩
     rw [k2]
     obtain ⟨s1,s2⟩:=s
     simp only at c
     rw [c]
     rfl
    ·have hkk:t.k = 5:=by rw [k1]; rfl
     rw [if_neg (by omega),if_neg (by omega),if_pos ⟨hkk,hop⟩,if_neg (by omega),if_neg (by omega),if_pos hkk]
     exact ⟨by decide,rfl⟩
  have hau:=zLD (ns:=ns) (ts:=ts) (i:=i) (by omega) key.1
  rw [key.2] at hau
  refine ⟨?_,fun j hj=>?_,?_⟩
  ·rw [e,zDr h1,zBp hau]; rfl
  ·by_cases x:j = i
   ·rw [x]; exact key.1
   ·exact h2 j (by omega)
  ·rw [zDk,h3,e,Nat.zero_add,key.2]
theorem zLX {ns:List OpR} (ha:zCu ns) {ss:List SyR} {ts:List zS} (ht:zHH ss ts) (hs:Seg ns ss):zBo ns ts ts.length /\ sgs ns ts 0 ts.length = ss ++ [eoS] /\ ∀ j,j < ts.length -> (atT ts j).k ≠ 6:=by
 obtain ⟨h1,h2,h3⟩:=zH9 ha ht hs ss.length (Nat.le_refl _)
 obtain ⟨hl,h7,hk⟩:=ht
 rw [List.take_length] at h1 h3
 unfold Seg at hs
 rw [hs] at h1
 injection h1 with h1
 have hb:zA5 ns ts ss.length = true:=(congrArg Prod.fst h1).symm
 have ho:zA0 ts ss.length = 0:=(congrArg Prod.snd h1).symm
 have hr:0 <= ZG ns ts ss.length:=by
  unfold ZG
  rw [hb,ho,zDl,show decide (ss.length + 1 = ts.length) = true by simp [hl],h7]
  simp
 refine ⟨fun j hj=>?_,?_,fun j hj=>?_⟩
 ·by_cases x:j = ss.length
  ·rw [x]; exact hr
  ·exact h2 j (by omega)
 ·rw [hl,zDk,h3,Nat.zero_add]
  have:sgT ns ts ss.length = eoS:=by
   unfold sgT
   rw [if_neg (by omega),if_neg (by omega),if_neg (by omega),if_pos h7]
  rw [this]
 ·by_cases x:j = ss.length
  ·rw [x,h7]; decide
  ·rw [(hk j (by omega)).1]
   unfold tkK
   split
   ·decide
   ·split
    ·decide
    ·split
     ·decide
     ·split
      ·decide
      ·decide
theorem zNN {ns:List OpR} (h:zO ns 0):¬ Pr 3 ns:=by
 rcases h with ⟨h,_⟩ | ⟨_,⟨h,_⟩ | ⟨_,⟨h,_⟩ | ⟨h,_⟩⟩⟩
 ·cases h
 ·cases h
 ·cases h
 ·exact h
theorem zNO {T T':ET} (h:Sh T) (h':Sh T') (e:nd T 0 = nd T' 0):T = T':=by
 rw [<- zCx h,<- zCx h',e]
end Go.Proofs.YtfboipappaonhaaGreat
