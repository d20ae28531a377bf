import Derived.Shelf.Strings.BuilderK
import Derived.Deep.RegionHeld
import Derived.Test.YtokabkhnidlcnacGreatDoorM14
import Derived.Test.YtokabkhnidlcnacGreatDoorM15
import Derived.Test.YtokabkhnidlcnacGreatDoorM16
namespace Go.Proofs.YtokabkhnidlcnacGreatDoor
set_option linter.unusedSimpArgs false
set_option linter.unusedVariables false
set_option maxHeartbeats 16000000
set_option maxRecDepth 100000
theorem zBa {ns:List OpR} {ts:List zK} {i n:Nat} (h:i < n):atI (ZL ns ts n) i = zN ns ts i:=by
 simp [atI,ZL,List.getD,h]
def TkF (ns:List OpR) (ts:List zK) (i:Nat):Prop:=
 ((atT ts i).k = 3 /\ (1 <= zN ns ts i /\ zN ns ts i <= 3) /\ sgT ns ts i = ((zN ns ts i).toNat + 2,(atT ts i).t) /\ ∃ j,fnd ns (atT ts i).t (zN ns ts i) = some j /\ sLv ns (sgT ns ts i) = (atO ns j).l /\ sSo ns (sgT ns ts i) = srt (atO ns j).k (atO ns j).sd) \/
 ((atT ts i).k ≠ 3 /\ zN ns ts i = 0 /\ ¬ (3 <= (sgT ns ts i).1 /\ (sgT ns ts i).1 <= 5))
theorem zQZ {ns:List OpR} {t:ByteArray} {r:Int} (h:zZ ns t r = true) (hr:1 <= r /\ r <= 3):∃ j,fnd ns t r = some j /\ sLv ns (r.toNat + 2,t) = (atO ns j).l /\ sSo ns (r.toNat + 2,t) = srt (atO ns j).k (atO ns j).sd:=by
 have e:((r.toNat + 2:Nat):Int) - 2 = r:=by omega
 have hk:=zCs h e
 cases hf:fnd ns t r with
 | none=>
  unfold knB at hk
  rw [e,hf] at hk
  cases hk
 | some j=>
  have hA:opA ns (rt (r.toNat + 2) t) = atO ns j:=by
   unfold opA
   simp only [rt]
   rw [e,hf]
  refine ⟨j,rfl,?_,?_⟩
  ·rw [zCu (by omega) hk,hA]
  ·unfold sSo
   simp only
   rw [hA]
theorem zP7 {ns:List OpR} {ts:List zK} {i:Nat} (hr:0 <= zN ns ts i):TkF ns ts i:=by
 unfold TkF
 have key:((atT ts i).k = 3 /\ ((zN ns ts i = 1 /\ zZ ns (atT ts i).t 1 = true) \/ (zN ns ts i = 2 /\ zZ ns (atT ts i).t 2 = true) \/ (zN ns ts i = 3 /\ zZ ns (atT ts i).t 3 = true))) \/
   (((atT ts i).k = 1 \/ (atT ts i).k = 2 \/ (atT ts i).k = 4 \/ (atT ts i).k = 5 \/ (atT ts i).k = 7) /\ zN ns ts i = 0):=by
  unfold zN at hr ⊢
  generalize atT ts i = t at hr ⊢
  generalize zBM ts i = op at hr ⊢
  generalize decide (i + 1 = ts.length) = la at hr ⊢
  generalize zBT ns ts i = bh at hr ⊢
  cases bh
  ·rw [zGM] at hr ⊢
   by_cases k1:t.k = 1 \/ t.k = 2 \/ t.k = 4
   ·rw [if_pos k1]; exact Or.inr ⟨by omega,rfl⟩
   ·rw [if_neg k1] at hr ⊢
    by_cases c:t.k = 3 /\ zZ ns t.t 1 = true
    ·rw [if_pos c]; exact Or.inl ⟨c.1,Or.inl ⟨rfl,c.2⟩⟩
    ·rw [if_neg c] at hr; omega
  ·rw [zGN] at hr ⊢
   by_cases c2:t.k = 3 /\ zZ ns t.t 2 = true
   ·rw [if_pos c2]; exact Or.inl ⟨c2.1,Or.inr (Or.inl ⟨rfl,c2.2⟩)⟩
   ·rw [if_neg c2] at hr ⊢
    by_cases c3:t.k = 3 /\ zZ ns t.t 3 = true
    ·rw [if_pos c3]; exact Or.inl ⟨c3.1,Or.inr (Or.inr ⟨rfl,c3.2⟩)⟩
    ·rw [if_neg c3] at hr ⊢
     by_cases c5:t.k = 5 /\ 0 < op
     ·rw [if_pos c5]; exact Or.inr ⟨by omega,rfl⟩
     ·rw [if_neg c5] at hr ⊢
      by_cases c7:t.k = 7 /\ op = 0 /\ la = true
      ·rw [if_pos c7]; exact Or.inr ⟨by omega,rfl⟩
      ·rw [if_neg c7] at hr; omega
 rcases key with ⟨k3,h⟩ | ⟨hk,h0⟩
 ·left
  have es:sgT ns ts i = ((zN ns ts i).toNat + 2,(atT ts i).t):=by unfold sgT; rw [if_pos k3]
  have hb:zZ ns (atT ts i).t (zN ns ts i) = true /\ 1 <= zN ns ts i /\ zN ns ts i <= 3:=by
   rcases h with ⟨e,h⟩ | ⟨e,h⟩ | ⟨e,h⟩ <;> rw [e] <;> exact ⟨h,by decide,by decide⟩
  refine ⟨k3,hb.2,es,?_⟩
  rw [es]
  exact zQZ hb.1 hb.2
 ·right
  refine ⟨by omega,h0,?_⟩
  unfold sgT
  rw [if_neg (by omega)]
  by_cases k4:(atT ts i).k = 4
  ·rw [if_pos k4]; decide
  ·rw [if_neg k4]
   by_cases k5:(atT ts i).k = 5
   ·rw [if_pos k5]; decide
   ·rw [if_neg k5]
    by_cases k7:(atT ts i).k = 7
    ·rw [if_pos k7]; decide
    ·rw [if_neg k7]
     simp only
     omega
theorem zP8 {ns:List OpR} {ts:List zK} {i:Nat} (h:TkF ns ts i) (hk:1 <= (atT ts i).k /\ (atT ts i).k <= 7 /\ (atT ts i).k ≠ 6) (op:Int):opS op (sgT ns ts i) = op + (if (atT ts i).k = 4 then 1 else 0) - (if (atT ts i).k = 5 then 1 else 0):=by
 rcases h with ⟨k3,hr,es,_⟩ | ⟨k3,h0,hn⟩
 ·rw [zY (by rw [es]; simp only; omega),if_neg (by omega),if_neg (by omega)]; omega
 ·unfold sgT
  rw [if_neg k3]
  by_cases k4:(atT ts i).k = 4
  ·rw [if_pos k4,zBG,if_pos k4,if_neg (by omega)]; omega
  ·rw [if_neg k4]
   by_cases k5:(atT ts i).k = 5
   ·rw [if_pos k5,zDT,if_neg k4,if_pos k5]; omega
   ·rw [if_neg k5,if_neg k4,if_neg k5]
    by_cases k7:(atT ts i).k = 7
    ·rw [if_pos k7,zY (by decide)]; omega
    ·rw [if_neg k7,zY (by simp only; omega)]; omega
theorem zP9 (op:Int) (s:SyR):op - 1 <= opS op s /\ opS op s <= op + 1:=by
 unfold opS
 split <;> split <;> omega
theorem zNN:∀ (ss:List SyR) (op:Int),op - (ss.length:Int) <= opL op ss /\ opL op ss <= op + (ss.length:Int)
 | [],op=>by simp [opL]
 | s :: r,op=>by
  rw [Zf]
  have h1:=zNN r (opS op s)
  have h2:=zP9 op s
  simp only [List.length_cons]
  omega
def zB8 (x:Option (Nat × SyR)):Int:=match x with
 | none=>-1
 | some x=>(x.1:Int)
theorem zOs (ns:List OpR) (ts:List zK) (a n:Nat):rtF ns (sgs ns ts a (n + 1)) a 0 none = (if opS (opL 0 (sgs ns ts a n)) (sgT ns ts (a + n)) ≠ 0 \/ ¬ (3 <= (sgT ns ts (a + n)).1 /\ (sgT ns ts (a + n)).1 <= 5) then rtF ns (sgs ns ts a n) a 0 none else zAr ns (rtF ns (sgs ns ts a n) a 0 none) (a + n,sgT ns ts (a + n))):=by
 rw [zDE,zu,Zt]
 rfl
theorem zLS (ns:List OpR) (ts:List zK) (a n:Nat):opL 0 (sgs ns ts a (n + 1)) = opS (opL 0 (sgs ns ts a n)) (sgT ns ts (a + n)):=by
 rw [zDE,zBk]
 rfl
theorem zLT {ns:List OpR} {ts:List zK} {a n:Nat} {L R:List SyR} {s:SyR} (h:sgs ns ts a n = L ++ s :: R):s = sgT ns ts (a + L.length) /\ L.length < n /\ L = sgs ns ts a L.length /\ R = sgs ns ts (a + L.length + 1) (n - L.length - 1):=by
 have hl:=congrArg List.length h
 rw [Zt,List.length_append,List.length_cons] at hl
 have e:n = L.length + (R.length + 1):=by omega
 rw [e,zEK,zDD] at h
 have h2:=List.append_inj h (by rw [Zt])
 injection h2.2 with h3 h4
 refine ⟨h3.symm,by omega,h2.1.symm,?_⟩
 rw [<- h4]
 congr 1
 omega
theorem zOt {ns:List OpR} {ts:List zK} {a n:Nat} {x:Nat × SyR} (h:rtF ns (sgs ns ts a n) a 0 none = some x):a <= x.1 /\ x.1 < a + n /\ x.2 = sgT ns ts x.1 /\ (3 <= x.2.1 /\ x.2.1 <= 5):=by
 rcases zGG _ _ _ _ _ h with h | ⟨L,R,h1,h2,h3,_⟩
 ·cases h
 ·have:=zLT h1
  refine ⟨by omega,by omega,?_,h3⟩
  rw [h2]; exact this.1
def shO (k:Nat) (x:Option (Nat × SyR)):Option (Nat × SyR):=x.map (fun x=>(x.1 + k,x.2))
theorem zHe (ns:List OpR) (k:Nat):∀ (ss:List SyR) (i:Nat) (op:Int) (best:Option (Nat × SyR)),rtF ns ss (i + k) op (shO k best) = shO k (rtF ns ss i op best)
 | [],i,op,best=>rfl
 | s :: r,i,op,best=>by
  simp only [rtF]
  have e:i + k + 1 = (i + 1) + k:=by omega
  rw [e]
  rw [<- zHe ns k r]
  congr 1
  split
  ·rfl
  ·cases best with
   | none=>rfl
   | some b=>
    simp only [zAr,shO,Option.map]
    split <;> rfl
theorem zNO (ns:List OpR) (ss:List SyR) (a:Nat):rtF ns ss a 0 none = shO a (rtF ns ss 0 0 none):=by
 have:=zHe ns a ss 0 0 none
 rw [Nat.zero_add] at this
 exact this
end Go.Proofs.YtokabkhnidlcnacGreatDoor
namespace Go.Proofs.YtokabkhnidlcnacGreatDoor
set_option maxHeartbeats 16000000
set_option maxRecDepth 100000
open Go.RowKit Go.Shelf
def zNP:Go.Shelf.Ren:=⟨fun | 169=>173 | n=>n,fun | 70=>237 | 9=>9 | 0=>0 | 72=>239 | 37=>121 | 127=>280 | 3=>3 | 5=>5 | n=>n,fun | n=>n⟩
theorem zOu:Go.Proofs.Lays.n169 Tryz.prog zNP:={
 mixed:=by kernel_rfl
 f169:=Tryz.func173.trans (congrArg some (by kernel_rfl))
 t0:=Tryz.underlying0
 a0:=Tryz.isAgg0
 z0:=Tryz.sizeOf0
 v0:=Tryz.zeroValue0
 t3:=Tryz.underlying3
 a3:=Tryz.isAgg3
 z3:=Tryz.sizeOf3
 v3:=Tryz.zeroValue3
 t9:=Tryz.underlying9
 a9:=Tryz.isAgg9
 z9:=Tryz.sizeOf9
 v9:=Tryz.zeroValue9
 t37:=Tryz.underlying121
 a37:=Tryz.isAgg121
 z37:=Tryz.sizeOf121
 v37:=Tryz.zeroValue121
 t70:=Tryz.underlying237
 a70:=Tryz.isAgg237
 z70:=Tryz.sizeOf237
 v70:=Tryz.zeroValue237
 t72:=Tryz.underlying239
 a72:=Tryz.isAgg239
 z72:=Tryz.sizeOf239
 v72:=Tryz.zeroValue239
 t127:=Tryz.underlying280
 a127:=Tryz.isAgg280
 z127:=Tryz.sizeOf280
 v127:=Tryz.zeroValue280 }
theorem zEM:Builder.Extra Tryz.prog zNP:={
 sizeBuilder:=by kernel_rfl
 liesBuilder:=by kernel_rfl
 t5:=Tryz.underlying5
 a5:=Tryz.isAgg5
 z5:=Tryz.sizeOf5
 v5:=Tryz.zeroValue5
 infoByte:=by kernel_rfl
 cellsByte:=by kernel_rfl
 sizeByte:=by kernel_rfl
 neB5:=by decide }
def Bld (B b:Nat) (l:List UInt8) (w:World):Prop:=Lib.IsBuilderF 239 5 B b (ZH l) w
theorem zG1 (B b:Nat) (l:List UInt8) (w:World) (h:Bld B b l w) (hBw:B <= w.heap.size) :
  Calls Tryz.prog 173 #[.pointer (some ⟨b,0,none⟩)] w fun e w'=>e = .returned (.string ⟨l.toArray⟩) /\ Bld B b l w' /\ Below B w w' /\ Lib.OthersKept 5 (some b) w w':=
 Any.Builder_String_any_k zOu zEM B b l w h hBw
theorem zG2 (b:Nat) (w:World) (h0:w.cell? ⟨b,0,none⟩ = some (.pointer (some ⟨b,0,none⟩))) :
  Calls Tryz.prog 206 #[.pointer (some ⟨b,0,none⟩)] w fun e w'=>e = .returned (.tuple #[]) /\ w' = w:=by
 obtain ⟨j,hj,_⟩:=Option.map_eq_some_iff.1 zEM.sizeBuilder
 go_enter Tryz.func206,Tryz.ntmps206
 go_wp2
 rw [Lib.run_neq_ptr_same w _ Tryz.underlying237 hj]
 go_wp2
 go_end0
 exact ⟨rfl,rfl⟩
theorem zGU (b:Nat) (w:World) (h0:w.cell? ⟨b,0,none⟩ = some (.pointer none)) (hsh:w.shape? b = some (239,2)) (hfz:w.frozen? ⟨b,0,none⟩ = false) :
  Calls Tryz.prog 206 #[.pointer (some ⟨b,0,none⟩)] w fun e w'=>e = .returned (.tuple #[]) /\ w' = w.setCell ⟨b,0,none⟩ (.pointer (some ⟨b,0,none⟩)):=by
 obtain ⟨j,hj,hjs⟩:=Option.map_eq_some_iff.1 zEM.sizeBuilder
 go_enter Tryz.func206,Tryz.ntmps206
 go_wp2
 rw [Lib.run_to_unsafe w ⟨b,0,none⟩ Tryz.underlying237 Tryz.underlying305 hj (by rw [hjs]; decide) hsh (Nat.zero_lt_succ 1)]
 simp only [Result.andThen]
 rw [Oper.upon_value]
 go_wp2
 rw [run_callFunc_extern Tryz.func227 (by kernel_rfl) (by kernel_rfl) (by kernel_rfl) (e:=Extern.AbiNoEscape.same) (by kernel_rfl)]
 rw [Lib.run_noEscape]
 simp only [Result.andThen]
 rw [Oper.upon_value]
 go_wp2
 rw [Lib.run_from_unsafe w ⟨b,0,none⟩ Tryz.underlying305 Tryz.underlying237 hj hsh zEM.liesBuilder]
 simp only [Result.andThen]
 rw [Oper.upon_value]
 go_wp2
 go_end0
 exact ⟨rfl,rfl⟩
theorem zIH (B b:Nat) (bs:List Value) (w:World) (h:Lib.IsBuilderF 239 5 B b bs w) :
  Calls Tryz.prog 206 #[.pointer (some ⟨b,0,none⟩)] w fun e w'=>e = .returned (.tuple #[]) /\ (Lib.BuilderAtF 239 5 B b (.pointer (some ⟨b,0,none⟩)) bs w' /\ Below B w w' /\ Lib.OthersKept 5 (some b) w w'):=by
 rcases h with h | h
 ·refine (zGU b w h.cell0 h.shape h.frozen0).mono ?_
  rintro e w' ⟨rfl,rfl⟩
  exact ⟨rfl,h.used _,(Below.refl B w).setCell (p:=⟨b,0,none⟩) h.1 _,(Lib.OthersKept.refl _ _ w).setCell ⟨b,0,none⟩ rfl _⟩
 ·refine (zG2 b w h.cell0).mono ?_
  rintro e w' ⟨rfl,rfl⟩
  exact ⟨rfl,h,Below.refl B _,Lib.OthersKept.refl _ _ _⟩
theorem zKS (s:ByteArray):Lib.strCells s = ZH s.data.toList:=by
 rfl
theorem zEN (B b:Nat) (l:List UInt8) (s:ByteArray) (w:World) (h:Bld B b l w) (hlen:l.length + s.size <= 140737488355328) (hBw:B <= w.heap.size) :
  Calls Tryz.prog 172 #[.pointer (some ⟨b,0,none⟩),.string s] w fun e w'=>(∃ v,e = .returned v) /\ Bld B b (l ++ s.data.toList) w' /\ Below B w w' /\ Lib.OthersKept 5 (some b) w w':=by
 obtain ⟨i0,hi,hz0,hz1,hz2⟩:=info_parts infoByte
 go_enter Tryz.func172,Tryz.ntmps172
 go_wp2_with fail
 refine (zIH B b (ZH l) _ h).mono ?_
 rintro e w1 ⟨rfl,h1,hb1,hk1⟩
 obtain ⟨hB,v,hbk,hown,hne⟩:=h1
 have hlen':(ZH l).length + s.size <= 140737488355328:=by rw [zBn]; exact hlen
 have c0:w1.cell? ⟨b,0,none⟩ = some (.pointer (some ⟨b,0,none⟩)):=by rw [Lib.cell_of_heap hbk]; rfl
 have c1:w1.cell? ⟨b,1,none⟩ = some v:=by rw [Lib.cell_of_heap hbk]; rfl
 go_wp2_with (at_builtin; refine Lib.wpList_append_own_stringF _ rfl _ _ 121 9 rfl B 5 i0 Tryz.underlying121 Tryz.underlying9 hi hz0 hz1 hz2 _ _ _ rfl hown s rfl ?c3 ?c4 ?c5 ?_)
 case c3=>unfold maxLen; omega
 case c4=>omega
 case c5=>have:=hb1.size; omega
 intro v' w2 hown' hgrow _
 have hlt:b < w1.heap.size:=block_lt_of_cell c0
 have hb2:w2.heap[b]? = some (.cells #[.pointer (some ⟨b,0,none⟩),v] 239 (0,0)):=by
  rw [hgrow.block b hlt (fun e=>hne e.symm)]
  exact hbk
 have d0:w2.cell? ⟨b,0,none⟩ = some (.pointer (some ⟨b,0,none⟩)):=by rw [Lib.cell_of_heap hb2]; rfl
 have d1:w2.cell? ⟨b,1,none⟩ = some v:=by rw [Lib.cell_of_heap hb2]; rfl
 have f1:w2.frozen? ⟨b,1,none⟩ = false:=Lib.frozen_of_heap hb2 1
 obtain ⟨ao,n',cap,rfl⟩:∃ ao n' cap,v' = .slice ao n' cap:=by
  rcases hown'.2 with ⟨hv,_⟩ | ⟨g,cap,cur,fz,hv,_⟩
  ·exact ⟨_,_,_,hv⟩
  ·exact ⟨_,_,_,hv⟩
 go_wp2
 go_ret2
 refine ⟨⟨_,rfl⟩,?_,?_,(hk1.grown hgrow (Lib.ownsRowF_kind hown)).setCell ⟨b,1,none⟩ rfl _⟩
 ·exact Or.inr (Lib.BuilderAtF.put (T:=239) (e:=5) hB hb2 (bs':=ZH (l ++ s.data.toList)) (by rw [zCJ,<- zKS]; simpa [Lib.strCells_length] using hown') (by decide))
 ·exact (hb1.grown hgrow (by have:=hb1.size; omega) (fun k hk=>(hown.lt k hk).1)).setCell (p:=⟨b,1,none⟩) hB _
end Go.Proofs.YtokabkhnidlcnacGreatDoor
namespace Go.Proofs.YtokabkhnidlcnacGreatDoor
set_option maxHeartbeats 16000000
set_option maxRecDepth 100000
open Go.RowKit
theorem zL1 (w:World):Bld w.heap.size w.heap.size [] (w.alloc (.cells #[.pointer none,.slice none 0 0] 239)):=
 Lib.IsBuilderF.of (Or.inl ⟨Nat.le_refl _,.slice none 0 0,heap_alloc_new w _,World.ownsRow_nil _ _ _ _,by simp [Value.ownBlock]⟩)
theorem Bld.alloc {B b:Nat} {l:List UInt8} {w:World} (h:Bld B b l w) (o:Obj):Bld B b l (w.alloc o):=Lib.IsBuilderF.alloc h o
theorem zQA {B b:Nat} {l:List UInt8} {w:World} (h:Bld B b l w):b < w.heap.size:=by
 rcases h with h | h
 ·exact h.lt
 ·exact h.lt
theorem zGV (b off cap:Nat) (xs:List zK) (w:World) (hm:xs.length + zy xs xs.length <= 1048576) (hw:zB2 w b off xs) (hB:b < w.heap.size) :
  Calls Tryz.prog 188 #[.slice (some ⟨b,off,none⟩) xs.length cap] w fun e w'=>e = .returned (.string ⟨(ZP xs xs.length).toArray⟩) /\ Below w.heap.size w w':=by
 have HW:=zB hw
 have HO:=zB (zL1 w)
 clear hw
 go_enter Tryz.func188,Tryz.ntmps188
 go_wp2
 go_loopw [8] (fun i wr=>∃ k:Nat,k <= xs.length /\ i = .int .i64 (k:Int) /\ Hid (Bld w.heap.size w.heap.size (ZP xs k) wr) /\ Below w.heap.size w wr) (fun i _=>xs.length - (intOf i).toNat)
 case atStart=>exact ⟨0,Nat.zero_le _,rfl,HO,zC _ _⟩
 case round=>
  clear HO
  obtain ⟨k,hk,rfl,hbl,hbel⟩:=hrel
  by_cases hlt:k < xs.length
  ·obtain ⟨a0,a1,a2⟩:=((zA HW) k hlt).below hbel hB
   have hnn:=zBo xs k
   have htk:zy xs (k + 1) <= zy xs xs.length:=zDC xs _ _ (by omega)
   simp only [zy,zM5] at htk
   have hl1:(ZP xs k).length + (atT xs k).g.size <= 1048576:=by omega
   have hl2:(ZP xs k ++ (atT xs k).g.data.toList).length + (atT xs k).t.size <= 1048576:=by
    rw [List.length_append]
    have:(atT xs k).g.data.toList.length = (atT xs k).g.size:=by simp
    omega
   have HBL:=zB ((zA hbl).alloc (.cells #[.int .i64 (atT xs k).k,.string (atT xs k).g,.string (atT xs k).t] 112))
   have L1:=zB hl1
   have L2:=zB hl2
   have hblt:=zB (show w.heap.size < wr.heap.size from zQA (zA hbl))
   clear hnn htk hl1 hl2 hbl
   go_wp2_with fail
   refine (zEN _ _ _ _ _ (zA HBL) (by have:=zA L1; omega) (by have:=hbel.size; simp; omega)).mono ?_
   rintro e w1 ⟨⟨v,rfl⟩,hb1,hbe1,hk1⟩
   have HB1:=zB hb1
   have hz1:wr.heap.size < w1.heap.size:=by have:=hbe1.size; simp at this; omega
   have ht:w1.heap[wr.heap.size]? = some (.cells #[.int .i64 (atT xs k).k,.string (atT xs k).g,.string (atT xs k).t] 112 (0,0)):=hk1 _ _ (heap_alloc_new wr _) (by have:=hbel.size; simp; have:=(zA hblt); omega) (by simp)
   have q2:w1.cell? ⟨wr.heap.size,2,none⟩ = some (.string (atT xs k).t):=by rw [Lib.cell_of_heap ht]; rfl
   have hbel1:Below w.heap.size w w1:=(hbel.alloc hbel.size _).trans hbe1
   clear hb1 hk1 ht hbe1
   go_wp2_with fail
   refine (zEN _ _ _ _ _ (zA HB1) (by have:=zA L2; omega) hbel1.size).mono ?_
   rintro e w2 ⟨⟨v2,rfl⟩,hb2,hbe2,_⟩
   have HB2:=zB (show Bld w.heap.size w.heap.size (ZP xs (k + 1)) w2 from hb2)
   have hbel2:=hbel1.trans hbe2
   clear hb2 hbe2
   go_wp2
   exact ⟨⟨k + 1,by omega,by go_num,HB2,hbel2⟩,by simp [intOf]; omega⟩
  ·have HK:=zB (show k = xs.length by omega)
   go_wp2_with fail
   refine (zG1 _ _ _ _ (zA hbl) hbel.size).mono ?_
   rintro e w1 ⟨rfl,_,hbe1,_⟩
   go_wp2
   go_ret
   exact ⟨zK3 (by rw [zA HK]),hbel.trans hbe1⟩
end Go.Proofs.YtokabkhnidlcnacGreatDoor
namespace Go.Proofs.YtokabkhnidlcnacGreatDoor
set_option linter.unusedSimpArgs false
set_option linter.unusedVariables false
set_option maxHeartbeats 16000000
set_option maxRecDepth 100000
open Go.RowKit
def zFW (ts:List zK) (i:Nat):Nat:=zy ts i + (atT ts i).g.size
theorem zGW {ts:List zK} {i j:Nat} (h:j < i):atT (ts.take i) j = atT ts j:=by
 simp [atT,List.getD,List.getElem?_take,h]
theorem zDG (ts:List zK) (i:Nat):∀ k,k <= i -> zy (ts.take i) k = zy ts k
 | 0,_=>rfl
 | k + 1,h=>by
  simp only [zy]
  rw [zDG ts i k (by omega),zGW (by omega)]
theorem zEO (g o c i:Nat) (ts:List zK) (w:World) (hm:ts.length + zy ts ts.length <= 1048576) (hi:i < ts.length) (hc:ts.length <= c) (hc2:c <= maxLen) (hw:zB2 w g o ts) (hB:g < w.heap.size) (hz:(atT ts i).g.size <= 1048576) :
  Calls Tryz.prog 150 #[.slice (some ⟨g,o,none⟩) ts.length c,.int .i64 (i:Int)] w fun e w'=>e = .returned (.int .i64 (zFW ts i:Int)) /\ Below w.heap.size w w':=by
 have htl:(ts.take i).length = i:=by simp; omega
 have htm:=zDC ts i ts.length (by omega)
 have hdr:Below w.heap.size w w.drew:=(Below.refl _ _).drew
 have HX:=zGV g o c (ts.take i) w.drew (by rw [htl,zDG ts i i (Nat.le_refl _)]; omega) (fun j hj=>by
  rw [htl] at hj
  have h:=(hw j (by omega)).below hdr hB
  unfold zDp at h ⊢
  rw [zGW hj]
  exact h) hB
 rw [htl] at HX
 have e0:(ZP (ts.take i) i).length = zy ts i:=by rw [zBo,zDG ts i i (Nat.le_refl _)]
 obtain ⟨S,hS⟩:∃ S:ByteArray,S = ⟨(ZP (ts.take i) i).toArray⟩:=⟨_,rfl⟩
 rw [<- hS] at HX
 have hSz:S.size = zy ts i:=by rw [hS,<- e0]; simp [ByteArray.size]
 obtain ⟨k0,k1,k2⟩:=hw i hi
 have hiI:(i:Int) < (ts.length:Int):=by omega
 have HS:=zB hSz
 have HOFF:=zB (show (zFW ts i:Int) = (S.size:Int) + ((atT ts i).g.size:Int) by unfold zFW; rw [hSz]; omega)
 have hb1:S.size <= 1048576:=by omega
 clear hS e0 hSz htm htl hw hdr
 go_enter Tryz.func150,Tryz.ntmps150
 go_wp2_with fail
 have HBC:=zB (show Below w.heap.size w w.drew from (Below.refl _ _).drew)
 go_region_held (fun w'=>w'.cell? ⟨g,o + i * 3 + 1,none⟩ = some (.string (atT ts i).g)) (first | (go_keep; done) | exact ((zA HBC).cell (p:=⟨g,o + i * 3 + 1,none⟩) hB).trans k1)
  (first | (go_at_call 188; refine HX.mono ?_; rintro x w1 ⟨rfl,hb⟩; replace HBC:=zB ((zA HBC).trans hb); clear HX hb))
 have hwr:IntKind.i64.wrap ((S.size:Int) + ((atT ts i).g.size:Int)) = (S.size:Int) + ((atT ts i).g.size:Int):=by rw [IntKind.wrap_i64]; omega
 rw [hwr,<- zA HOFF]
 go_wp2_with fail
 go_ret
 exact ⟨rfl,zA HBC⟩
end Go.Proofs.YtokabkhnidlcnacGreatDoor
namespace Go.Proofs.YtokabkhnidlcnacGreatDoor
set_option maxHeartbeats 16000000
set_option maxRecDepth 100000
open Go.RowKit
theorem zGX (b off cap:Nat) (xs:List zK) (w:World) (hm:xs.length + zy xs xs.length <= 1048576) (hw:zB2 w b off xs) (hB:b < w.heap.size) :
  Calls Tryz.prog 84 #[.slice (some ⟨b,off,none⟩) xs.length cap] w fun e w'=>e = .returned (.string ⟨(ZP xs xs.length).toArray⟩) /\ Below w.heap.size w w':=by
 obtain ⟨i0,hi,hz0,hz1,hz2⟩:=info_parts infoByte
 have HI:=zB hi
 have HZ:=zB (And.intro hz0 (And.intro hz1 hz2))
 have HW:=zB hw
 have HO:=zB (show (w.alloc (.cells #[] 5)).ownsRow w.heap.size 5 1 (.slice (some ⟨w.heap.size,0,none⟩) 0 0) 0 (ZH (ZP xs 0)) by
  show (w.alloc (.cells #[] 5)).ownsRow w.heap.size 5 1 (.slice (some ⟨w.heap.size,0,none⟩) 0 0) 0 []
  simpa using World.ownsRow_lit (base:=w.heap.size) (e:=5) (size:=1) w #[] 0 (Nat.le_refl _) (Nat.zero_le _) rfl)
 clear hi hz0 hz1 hz2 hw
 go_enter Tryz.func84,Tryz.ntmps84
 go_wp2
 go_loopw [3,4] (fun out i wr=>∃ (k go co n:Nat),k <= xs.length /\ i = .int .i64 (k:Int) /\ out = .slice (some ⟨go,0,none⟩) n co /\ Hid (n = (ZP xs k).length) /\ Hid (wr.ownsRow w.heap.size 5 1 (.slice (some ⟨go,0,none⟩) n co) n (ZH (ZP xs k))) /\ Below w.heap.size w wr) (fun _ i _=>xs.length - (intOf i).toNat)
 case atStart=>exact ⟨0,w.heap.size,0,0,Nat.zero_le _,rfl,rfl,zB rfl,HO,zC _ _⟩
 case round=>
  clear HO
  obtain ⟨k,go,co,n,hk,rfl,rfl,hn,hown,hbel⟩:=hrel
  by_cases hlt:k < xs.length
  ·have hcell:=((zA HW) k hlt).below hbel hB
   obtain ⟨a0,a1,a2⟩:=hcell
   have hnn:=(zA hn).trans (zBo xs k)
   have htk:zy xs (k + 1) <= zy xs xs.length:=zDC xs _ _ (by omega)
   simp only [zy,zM5] at htk
   obtain ⟨c1,w1,hrun1,hnew1,hb1⟩:=zGI wr (atT xs k).g
   have HN1:=zB hnew1
   have HB1:=zB hb1
   have b2:=(hb1.cell (p:=⟨b,off + k * 3 + 2,none⟩) (Nat.lt_of_lt_of_le hB hbel.size)).trans a2
   have hown1:=zB ((zA hown).kept (Z5 hb1 none) (Or.inr (by simp [Value.ownBlock])))
   have hbel1:=hbel.trans (hb1.mono hbel.size)
   have HNN:=zB hnn
   have hnb:n + (atT xs k).g.size + (atT xs k).t.size <= 1048576:=by omega
   clear hnew1 hb1 hown hnn htk hbel a2
   go_wp2_with (at_builtin; refine wpList_append_own _ rfl (.tmp 12) (.tmp 18) 121 rfl w.heap.size 5 i0 _ 1 1 Tryz.underlying121 (zA HI) (zA HZ).1 (zA HZ).2.1 (zA HZ).2.2 rfl (by decide) _ n (ZH (ZP xs k)) rfl (zA hown1) ⟨wr.heap.size,0,none⟩ (atT xs k).g.size c1 (ZH (atT xs k).g.data.toList) rfl (by rw [zBn]; simp) (zA HN1) (zGH _) ?b1 ?b2 ?b3 ?next)
   case b1=>unfold maxLen; omega
   case b2=>omega
   case b3=>exact hbel1.size
   case next=>
    intro v2 w2 hown2 hgrow2 hnil2
    have hgo:=(zA hown1).lt go rfl
    have hbel2:Below w.heap.size w w2:=hbel1.grown hgrow2 hbel1.size (fun q hq=>by simp [Value.ownBlock] at hq; omega)
    obtain ⟨g2,q2,rfl⟩:=ZF hown2 (by simp [hnil2])
    rw [<- zCJ] at hown2
    have d2:w2.cell? ⟨b,off + k * 3 + 2,none⟩ = some (.string (atT xs k).t):=hgrow2.cell b2 (by simp [Value.ownBlock]; omega)
    obtain ⟨c3,w3,hrun3,hnew3,hb3⟩:=zGI w2 (atT xs k).t
    have HN3:=zB hnew3
    have hown3:=zB (hown2.kept (Z5 hb3 none) (Or.inr (by simp [Value.ownBlock])))
    have hbel3:=hbel2.trans (hb3.mono hbel2.size)
    clear hown2 hgrow2 hnil2 hown1 HN1 HB1 hnew3 hb3 b2 hrun1 a0 a1
    go_wp2_with (at_builtin; refine wpList_append_own _ rfl (.tmp 20) (.tmp 26) 121 rfl w.heap.size 5 i0 _ 1 1 Tryz.underlying121 (zA HI) (zA HZ).1 (zA HZ).2.1 (zA HZ).2.2 rfl (by decide) _ (n + (atT xs k).g.size) _ rfl (zA hown3) ⟨w2.heap.size,0,none⟩ (atT xs k).t.size c3 (ZH (atT xs k).t.data.toList) rfl (by rw [zBn]; simp) (zA HN3) (zGH _) ?b1 ?b2 ?b3 ?next)
    case b1=>unfold maxLen; omega
    case b2=>omega
    case b3=>exact hbel3.size
    case next=>
     intro v4 w4 hown4 hgrow4 hnil4
     have hg2:=(zA hown3).lt g2 rfl
     have hbel4:Below w.heap.size w w4:=hbel3.grown hgrow4 hbel3.size (fun q hq=>by simp [Value.ownBlock] at hq; omega)
     obtain ⟨g4,q4,rfl⟩:=ZF hown4 (by simp [hnil4])
     rw [<- zCJ] at hown4
     have HO4:=zB (show w4.ownsRow w.heap.size 5 1 (.slice (some ⟨g4,0,none⟩) (n + (atT xs k).g.size + (atT xs k).t.size) q4) (n + (atT xs k).g.size + (atT xs k).t.size) (ZH (ZP xs (k + 1))) from hown4)
     have HL4:=zB (show n + (atT xs k).g.size + (atT xs k).t.size = (ZP xs (k + 1)).length by rw [zBo]; have:=zA HNN; simp only [zy,zM5]; omega)
     clear hown4 hgrow4 hnil4 hown3 HN3 HNN hn
     go_wp2
     exact ⟨⟨k + 1,g4,q4,_,by omega,by go_num,rfl,HL4,HO4,hbel4⟩,by simp [intOf]; omega⟩
  ·have hkx:k = xs.length:=by omega
   have hcv:=zJR wr go n co (ZP xs k) (zA hn) (zJS (zA hown))
   have HK:=zB hkx
   clear hkx
   go_wp2
   go_ret
   exact ⟨zK3 (by rw [zA HK]),hbel⟩
end Go.Proofs.YtokabkhnidlcnacGreatDoor
