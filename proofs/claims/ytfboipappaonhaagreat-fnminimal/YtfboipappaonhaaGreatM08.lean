import Derived.Test.YtfboipappaonhaaGreatM07
namespace Go.Proofs.YtfboipappaonhaaGreat
set_option linter.unusedSimpArgs false
set_option linter.unusedVariables false
set_option maxHeartbeats 16000000
set_option maxRecDepth 100000
open Go.RowKit
def gnB:ByteArray:=⟨#[43,45,42,47,60,62,61,33,38,124]⟩
def gnN (i:Nat):UInt8:=gnB.data.getD i 0
def zER (v i:Nat):OpR:=⟨⟨#[gnN (i % 10),gnN (i / 10 % 10),gnN (i / 100)]⟩,2,1 + ((i / 3:Nat):Int),1 + (((i / 3 + v / 2) % 3:Nat):Int)⟩
def ZO (v n:Nat):List OpR:=(List.range n).map (zER v)
theorem zCM (v n:Nat):ZO v (n + 1) = ZO v n ++ [zER v n]:=by simp [ZO,List.range_succ]
theorem zCr (v n:Nat):(ZO v n).length = n:=by simp [ZO]
def zAR (k:Nat) (o d:OpR):OpR:=
 if k % 8 = 0 then { o with s:=(⟨#[43,45,43,45,43,45,43,45,43,45,43,45,43,45,43,45,43]⟩:ByteArray).extract 0 (16 + k / 8 % 2) }
 else if k % 8 = 1 then { o with s:=o.s ++ ⟨#[k.toUInt8]⟩ }
 else if k % 8 = 2 then { o with s:=⟨#[]⟩ }
 else if k % 8 = 3 then { o with l:=1001 * ((k / 8 % 2:Nat):Int) }
 else if k % 8 = 4 then { o with k:=((k / 8 % 5:Nat):Int) }
 else if k % 8 = 5 then { o with sd:=((k / 8 % 5:Nat):Int) - 1 }
 else d
def zA2 (xs:List OpR) (bs:List UInt8) (p:Nat):List OpR:=
 if nxt bs p % 8 = 7 \/ xs.length = 0 then ZO (nxt bs (adv bs p)) (500 + nxt bs (adv bs p) % 2)
 else xs.set (nxt bs (adv bs p) % xs.length) (zAR (nxt bs p) (atO xs (nxt bs (adv bs p) % xs.length)) (Zt (nxt bs (adv bs (adv bs p))) (nxt bs (adv bs (adv bs (adv bs p)))) false))
def zBN (xs:List OpR) (bs:List UInt8) (p:Nat):Nat:=
 if nxt bs p % 8 = 7 \/ xs.length = 0 then adv bs (adv bs p)
 else if nxt bs p % 8 = 6 then adv bs (adv bs (adv bs (adv bs p))) else adv bs (adv bs p)
theorem zM3 (W:World) (x y z:Int):(convert 22 9 (.slice (some ⟨W.heap.size,0,none⟩) 3 3)).run Tryz.prog (W.alloc (.cells #[.int .u8 x,.int .u8 y,.int .u8 z] 5)) = .ok (.string ⟨#[UInt8.ofNat x.toNat,UInt8.ofNat y.toNat,UInt8.ofNat z.toNat]⟩) (W.alloc (.cells #[.int .u8 x,.int .u8 y,.int .u8 z] 5)):=by
 rw [run_convert_bytes_string _ 22 9 5 _ _ _ Tryz.underlying22 Tryz.underlying5 Tryz.underlying9]
 have hl:(loadCells ⟨W.heap.size,0,none⟩ 3).run Tryz.prog (W.alloc (.cells #[.int .u8 x,.int .u8 y,.int .u8 z] 5)) = .ok ([x,y,z].map (Value.int .u8)).toArray (W.alloc (.cells #[.int .u8 x,.int .u8 y,.int .u8 z] 5)):=
  run_loadCells_list (P:=Tryz.prog) _ ⟨W.heap.size,0,none⟩ [.int .u8 x,.int .u8 y,.int .u8 z] (fun j v hv=>by
   match j,hv with
   | 0,hv=>simp at hv; subst hv; simp [Addr.add,go_sem]
   | 1,hv=>simp at hv; subst hv; simp [Addr.add,go_sem]
   | 2,hv=>simp at hv; subst hv; simp [Addr.add,go_sem])
 rw [run_bytesToString _ ⟨W.heap.size,0,none⟩ 3 3 [x,y,z] hl]
 rfl
theorem zKx (W:World) (x y z:Int):(convert 22 9 (.slice (some ⟨W.heap.size,0,none⟩) 3 3)).run Tryz.prog (W.alloc (.cells #[.int .u8 x,.int .u8 y,.int .u8 z] 5)).drew = .ok (.string ⟨#[UInt8.ofNat x.toNat,UInt8.ofNat y.toNat,UInt8.ofNat z.toNat]⟩) (W.alloc (.cells #[.int .u8 x,.int .u8 y,.int .u8 z] 5)).drew:=
 zM3 W.drew x y z
theorem zGE (w:World) (o0:Obj) (o:OpR):∀ j u,(ZL [o])[j]? = some u -> ((w.alloc o0).alloc (.cells #[.string o.s,.int .i64 o.k,.int .i64 o.l,.int .i64 o.sd] 123)).drew.cell? ((⟨w.heap.size + 1,0,none⟩:Addr).add j) = some u:=by
 have h:=zHk (w.alloc o0) o
 have e:(w.alloc o0).heap.size = w.heap.size + 1:=by simp
 rw [e] at h
 exact h
theorem zGF (m:Nat) (h:m < 10):((⟨#[43,45,42,47,60,62,61,33,38,124]⟩:ByteArray)[m]'h) = gnN m:=by
 have key:∀ m:Fin 10,((⟨#[43,45,42,47,60,62,61,33,38,124]⟩:ByteArray)[m.val]'m.isLt) = gnN m.val:=by decide
 exact key ⟨m,h⟩
structure zY (w w':World) (r g:Nat):Prop where
 os:w'.os = w.os
 tape:w'.tape = w.tape
 output:w'.output = w.output
 size:w.heap.size <= w'.heap.size
 block:∀ i,i < w.heap.size -> i ≠ r -> i ≠ g -> w'.heap[i]? = w.heap[i]?
theorem zY.of1 {w w':World} {r g:Nat} (h:zE w w' r):zY w w' r g:=⟨h.os,h.tape,h.output,h.size,fun i hi h1 _=>h.block i hi h1⟩
theorem zY.step {w w1 w2:World} {r g:Nat} (h:zY w w1 r g) (h':zE w1 w2 r):zY w w2 r g:=
 ⟨h'.os.trans h.os,h'.tape.trans h.tape,h'.output.trans h.output,Nat.le_trans h.size h'.size,fun i hi h1 h2=>(h'.block i (Nat.lt_of_lt_of_le hi h.size) h1).trans (h.block i hi h1 h2)⟩
theorem zY.below {w w1 w2:World} {r g:Nat} (h:zY w w1 r g) (hb:Below w1.heap.size w1 w2):zY w w2 r g:=h.step (zE.of_below hb)
theorem zY.setG {w w1:World} {r g:Nat} (h:zY w w1 r g) (o:Nat) (v:Value):zY w (w1.setCell ⟨g,o,none⟩ v) r g:=
 ⟨h.os,h.tape,h.output,by simpa [World.setCell] using h.size,fun i hi h1 h2=>(Below.heap_setCell _ _ _ _ h2).trans (h.block i hi h1 h2)⟩
theorem zY.setNew {w w1:World} {r g b:Nat} (h:zY w w1 r g) (o:Nat) (v:Value) (hb:w.heap.size <= b):zY w (w1.setCell ⟨b,o,none⟩ v) r g:=
 ⟨h.os,h.tape,h.output,by simpa [World.setCell] using h.size,fun i hi h1 h2=>(Below.heap_setCell _ _ _ _ (fun e=>by have:i = b:=e; omega)).trans (h.block i hi h1 h2)⟩
theorem zY.cell {w w':World} {r g:Nat} (h:zY w w' r g) {b:Nat} (hb:b < w.heap.size) (h1:b ≠ r) (h2:b ≠ g) (o:Nat):w'.cell? ⟨b,o,none⟩ = w.cell? ⟨b,o,none⟩:=World.cell?_of_block (w:=w) (h.block b hb h1 h2)
theorem zY.frozen {w w':World} {r g:Nat} (h:zY w w' r g) {b:Nat} (hb:b < w.heap.size) (h1:b ≠ r) (h2:b ≠ g) (o:Nat):w'.frozen? ⟨b,o,none⟩ = w.frozen? ⟨b,o,none⟩:=World.frozen?_of_block (w:=w) (h.block b hb h1 h2)
theorem zKy {w:World} {g T n c:Nat} {a:Option Addr} {ys:List OpR} (hf:zf w g ys ys.length) (h0:0 < ys.length) (ht:w.cell? ⟨T,0,none⟩ = some (.slice a n c)):g ≠ T:=by
 rintro rfl
 have:=(hf.ops 0 h0).1
 simp only [Nat.zero_mul,Nat.add_zero] at this
 rw [ht] at this
 cases this
theorem zFF (rp cap p g c:Nat) (a:Option Addr) (bs:List UInt8) (xs:List OpR) (w:World) (h:RdS w rp a cap bs p) (hl:bs.length <= 1200) (hm:xs.length <= 10) (hx:zf w g xs xs.length) (hne:rp < g) (hb:nxt bs p % 8 = 7 \/ xs.length = 0) :
  Calls Tryz.prog 62 #[.pointer (some ⟨rp,0,none⟩),.agg #[.slice (some ⟨g,0,none⟩) xs.length c]] w fun e w'=>(∃ g' c',e = .returned (.agg #[.slice (some ⟨g',0,none⟩) (zA2 xs bs p).length c']) /\ (g' = g \/ w.heap.size <= g') /\ zf w' g' (zA2 xs bs p) (zA2 xs bs p).length) /\ Hid (RdS w' rp a cap bs (zBN xs bs p)) /\ Hid (zY w w' rp g):=by
 have hrpw:=h.lt
 have hgw:=hx.1
 have H:=zB h
 clear h
 go_enter Tryz.func62,Tryz.ntmps62
 go_wp2_with fail
 refine (Z9 rp cap p a bs _ (((zA H).below (zC _ _)).below (zC _ _)) hl).mono ?_
 rintro e w1 ⟨⟨k,rfl,hk,HK⟩,H1,HP1⟩
 go_wp2_with fail
 refine (Z9 rp cap _ a bs _ (zA H1) hl).mono ?_
 rintro e w2 ⟨⟨v,rfl,hv,HV⟩,H2,HP2⟩
 have HP:=zB ((zA HP1).trans (zA HP2))
 have z2:w.heap.size + 2 <= w2.heap.size:=by have:=(zA HP).size; simpa using this
 have b0:w2.cell? ⟨w.heap.size,0,none⟩ = some (.slice (some ⟨g,0,none⟩) xs.length c):=((zA HP).cell (b:=w.heap.size) (by simp; omega) (by omega) 0).trans (by simp [go_sem])
 have r0:w2.cell? ⟨w.heap.size + 1,0,none⟩ = some (.slice none 0 0):=((zA HP).cell (b:=w.heap.size + 1) (by simp) (by omega) 0).trans (by simp [go_sem])
 have r1:w2.frozen? ⟨w.heap.size + 1,0,none⟩ = false:=((zA HP).frozen (b:=w.heap.size + 1) (by simp) (by omega) 0).trans (by simp [go_sem])
 have HW:=zB (show zE w w2 rp from ((zE.of_below ((zC _ _).alloc (by simp) _))).trans (zA HP))
 have HX:=zB ((zA HW).filled hx (by omega))
 clear H H1 HP1 HP2 HP hx
 obtain ⟨i0,hi,hz0,hz1,hz2⟩:=info_parts zJL
 have HI:=zB hi
 have HZ:=zB (And.intro hz0 (And.intro hz1 hz2))
 clear hi hz0 hz1 hz2
 by_cases hbig:k % 8 = 7
 ·have e0:((k:Int) % 8 == 7) = true:=by simp; omega
  have hn:(500:Int) + (v:Int) % 2 <= 501:=by omega
  go_wp2_with fail
  have HO0:=zB (show ((w2.alloc (.cells #[] 123)).alloc (.cells #[.slice (some ⟨w2.heap.size,0,none⟩) 0 0] 25)).ownsRow w2.heap.size 123 4 (.slice (some ⟨w2.heap.size,0,none⟩) 0 0) 0 [] by
   have:=(World.ownsRow_lit (base:=w2.heap.size) (e:=123) (size:=4) w2 #[] 0 (Nat.le_refl _) (Nat.zero_le _) rfl).alloc (.cells #[.slice (some ⟨w2.heap.size,0,none⟩) 0 0] 25)
   simpa using this)
  go_loopw [9] (fun i wr=>∃ (j go co:Nat),j <= 500 + v % 2 /\ i = .int .i64 (j:Int) /\ go ≠ w2.heap.size + 1 /\ wr.cell? ⟨w2.heap.size + 1,0,none⟩ = some (.slice (some ⟨go,0,none⟩) (ZO v j).length co) /\ wr.frozen? ⟨w2.heap.size + 1,0,none⟩ = false /\ Hid (wr.ownsRow w2.heap.size 123 4 (.slice (some ⟨go,0,none⟩) (ZO v j).length co) (ZO v j).length (ZL (ZO v j))) /\ w2.heap.size + 1 < wr.heap.size /\ Below w2.heap.size w2 wr) (fun i _=>500 + v % 2 - (intOf i).toNat)
  case atStart=>exact ⟨0,w2.heap.size,0,Nat.zero_le _,rfl,by omega,by simp [go_sem,ZO],by simp [go_sem],HO0,by simp,(zC _ _).alloc (by simp) _⟩
  case round=>
   clear HO0
   obtain ⟨j,go,co,hj,rfl,hgT,t0,t1,HO,zr,hbel⟩:=hrel
   by_cases hlt:j < 500 + v % 2
   ·have e1:(j:Int) < 500 + (v:Int) % 2:=by omega
    obtain ⟨m0,HM0⟩:∃ m:Nat,Hid (m = j % 10):=⟨_,zB rfl⟩
    obtain ⟨m1,HM1⟩:∃ m:Nat,Hid (m = j / 10 % 10):=⟨_,zB rfl⟩
    obtain ⟨m2,HM2⟩:∃ m:Nat,Hid (m = j / 100):=⟨_,zB rfl⟩
    have f0:(j:Int) % 10 = (m0:Int):=by have:=zA HM0; omega
    have f1:(j:Int) / 10 % 10 = (m1:Int):=by have:=zA HM1; omega
    have f2:(j:Int) / 100 = (m2:Int):=by have:=zA HM2; omega
    have g0:(m0:Int) < 10:=by omega
    have g1:(m1:Int) < 10:=by omega
    have g2:(m2:Int) < 10:=by omega
    have g0':m0 < 10:=by omega
    have g1':m1 < 10:=by omega
    have g2':m2 < 10:=by omega
    have hsz:(⟨#[43,45,42,47,60,62,61,33,38,124]⟩:ByteArray).size = 10:=rfl
    have g0s:(m0:Int) < ((⟨#[43,45,42,47,60,62,61,33,38,124]⟩:ByteArray).size:Int):=g0
    have g1s:(m1:Int) < ((⟨#[43,45,42,47,60,62,61,33,38,124]⟩:ByteArray).size:Int):=g1
    have g2s:(m2:Int) < ((⟨#[43,45,42,47,60,62,61,33,38,124]⟩:ByteArray).size:Int):=g2
    have hcv:=fun x y z=>zKx wr x y z
    go_wp2_with fail
    have hbl:(ZO v j).length <= 501:=by rw [zCr]; omega
    go_region
    go_wp2_with (at_builtin; refine wpList_append_own _ rfl (.tmp 49) (.tmp 62) 23 rfl w2.heap.size 123 i0 _ 4 40 Tryz.underlying23 (zA HI) (zA HZ).1 (zA HZ).2.1 (zA HZ).2.2 rfl (by decide) _ (ZO v j).length (ZL (ZO v j)) rfl (((zA HO).alloc _).alloc _).drew ⟨wr.heap.size + 1,0,none⟩ 1 1 (ZL [(⟨⟨#[(⟨#[43,45,42,47,60,62,61,33,38,124]⟩:ByteArray)[m0],(⟨#[43,45,42,47,60,62,61,33,38,124]⟩:ByteArray)[m1],(⟨#[43,45,42,47,60,62,61,33,38,124]⟩:ByteArray)[m2]]⟩,2,1 + (j:Int) / 3,1 + ((j:Int) / 3 + (v:Int) / 2) % 3⟩:OpR)]) rfl rfl (zGE wr _ (⟨⟨#[(⟨#[43,45,42,47,60,62,61,33,38,124]⟩:ByteArray)[m0],(⟨#[43,45,42,47,60,62,61,33,38,124]⟩:ByteArray)[m1],(⟨#[43,45,42,47,60,62,61,33,38,124]⟩:ByteArray)[m2]]⟩,2,1 + (j:Int) / 3,1 + ((j:Int) / 3 + (v:Int) / 2) % 3⟩:OpR)) (zBj _) ?b1 ?b2 ?b3 ?next)
    case b1=>unfold maxLen; omega
    case b2=>omega
    case b3=>simp; omega
    case next=>
     intro v4 w4 hown4 hgrow4 hnil4
     obtain ⟨g4,c4,rfl⟩:=zCL hown4 (by simp [hnil4])
     have ho:(⟨⟨#[(⟨#[43,45,42,47,60,62,61,33,38,124]⟩:ByteArray)[m0],(⟨#[43,45,42,47,60,62,61,33,38,124]⟩:ByteArray)[m1],(⟨#[43,45,42,47,60,62,61,33,38,124]⟩:ByteArray)[m2]]⟩,2,1 + (j:Int) / 3,1 + ((j:Int) / 3 + (v:Int) / 2) % 3⟩:OpR) = zER v j:=by
      have h0:=zA HM0
      have h1:=zA HM1
      have h2:=zA HM2
      unfold zER
      rw [zGF m0 g0',zGF m1 g1',zGF m2 g2',h0,h1,h2]
      congr 1
     have hl4:(ZO v j).length + 1 = (ZO v (j + 1)).length:=by rw [zCM]; simp
     rw [ho,<- zBw,<- zCM,hl4] at hown4
     rw [hl4]
     have hgo:=(zA HO).lt go rfl
     have hbel4:Below w2.heap.size w2 w4:=(((hbel.alloc hbel.size _).alloc (by have:=hbel.size; simp; omega) _).drew).grown hgrow4 (by have:=hbel.size; simp; omega) (fun q hq=>by simp [Value.ownBlock] at hq; omega)
     have s0:w4.cell? ⟨w2.heap.size + 1,0,none⟩ = some (.slice (some ⟨go,0,none⟩) (ZO v j).length co):=by
      refine (hgrow4.cell_far ⟨w2.heap.size + 1,0,none⟩ (by simp; omega) (by simp [Value.ownBlock]; omega)).trans ?_
      exact ((zC _ _).cell (p:=⟨w2.heap.size + 1,0,none⟩) (by simp; omega)).trans (((zC _ _).cell (p:=⟨w2.heap.size + 1,0,none⟩) zr).trans t0)
     have s1:w4.frozen? ⟨w2.heap.size + 1,0,none⟩ = false:=by
      refine (hgrow4.frozen_far ⟨w2.heap.size + 1,0,none⟩ (by simp; omega) (by simp [Value.ownBlock]; omega)).trans ?_
      exact ((zC _ _).frozen (p:=⟨w2.heap.size + 1,0,none⟩) (by simp; omega)).trans (((zC _ _).frozen (p:=⟨w2.heap.size + 1,0,none⟩) zr).trans t1)
     have hne4:g4 ≠ w2.heap.size + 1:=zKy (zAw hown4).2 (by omega) s0
     have HO4:=zB hown4
     have z4:w2.heap.size + 1 < w4.heap.size:=by have:=hgrow4.size; simp at this; omega
     clear hown4 hgrow4 hnil4 HO t0 t1 hcv hbel hl4 ho
     go_wp2_with fail
     refine ⟨⟨j + 1,g4,c4,by omega,by go_num,hne4,World.cell?_setCell_same _ _ _ s0,(World.frozen?_setCell _ _ _ _).trans s1,zB ((zA HO4).kept (zX (zAQ _ _ _ _)) (Or.inr (by simp [Value.ownBlock]; omega))),by simp; omega,hbel4.setCell (by simp) _⟩,by simp [intOf]; omega⟩
   ·have hjn:=zB (show j = 500 + v % 2 by omega)
    have e1:¬ (j:Int) < 500 + (v:Int) % 2:=by omega
    have q0:wr.cell? ⟨w.heap.size + 1,0,none⟩ = some (.slice none 0 0):=(hbel.cell (p:=⟨w.heap.size + 1,0,none⟩) (by simp; omega)).trans r0
    have q1:wr.frozen? ⟨w.heap.size + 1,0,none⟩ = false:=(hbel.frozen (p:=⟨w.heap.size + 1,0,none⟩) (by simp; omega)).trans r1
    go_wp2_with fail
    obtain ⟨hgo1,hgo2⟩:=zAw (zA HO)
    have ht:zA2 xs bs p = ZO v j:=by
     unfold zA2
     rw [if_pos hb,<- zA HV,zA hjn]
    have hpp:zBN xs bs p = adv bs (adv bs p):=by
     unfold zBN
     rw [if_pos hb]
    rw [ht,hpp]
    refine bodyPost_ret (v:=.agg #[.slice (some ⟨go,0,none⟩) (ZO v j).length co]) ?res rfl ⟨⟨go,⟨co,rfl⟩,Or.inr (by omega),?_⟩,zB ?_,zB ?_⟩
    case res=>simp [results,Tryz.results62,go_sem,q0]
    ·exact hgo2.setCell _ _ (by simp; omega)
    ·exact ((zA H2).below hbel).set _ _ _ (by omega)
    ·exact ((zY.of1 (zA HW)).below hbel).setNew _ _ (by omega)
 ·have hx0:xs.length = 0:=by
   rcases hb with h | h
   ·exact absurd (by rw [zA HK]; exact h) hbig
   ·exact h
  have e0:((k:Int) % 8 == 7) = false:=by simp; omega
  have e9:((xs.length:Int) == 0) = true:=by simp [hx0]
  have hn:(500:Int) + (v:Int) % 2 <= 501:=by omega
  go_wp2_with fail
  have HO0:=zB (show ((w2.alloc (.cells #[] 123)).alloc (.cells #[.slice (some ⟨w2.heap.size,0,none⟩) 0 0] 25)).ownsRow w2.heap.size 123 4 (.slice (some ⟨w2.heap.size,0,none⟩) 0 0) 0 [] by
   have:=(World.ownsRow_lit (base:=w2.heap.size) (e:=123) (size:=4) w2 #[] 0 (Nat.le_refl _) (Nat.zero_le _) rfl).alloc (.cells #[.slice (some ⟨w2.heap.size,0,none⟩) 0 0] 25)
   simpa using this)
  go_loopw [9] (fun i wr=>∃ (j go co:Nat),j <= 500 + v % 2 /\ i = .int .i64 (j:Int) /\ go ≠ w2.heap.size + 1 /\ wr.cell? ⟨w2.heap.size + 1,0,none⟩ = some (.slice (some ⟨go,0,none⟩) (ZO v j).length co) /\ wr.frozen? ⟨w2.heap.size + 1,0,none⟩ = false /\ Hid (wr.ownsRow w2.heap.size 123 4 (.slice (some ⟨go,0,none⟩) (ZO v j).length co) (ZO v j).length (ZL (ZO v j))) /\ w2.heap.size + 1 < wr.heap.size /\ Below w2.heap.size w2 wr) (fun i _=>500 + v % 2 - (intOf i).toNat)
  case atStart=>exact ⟨0,w2.heap.size,0,Nat.zero_le _,rfl,by omega,by simp [go_sem,ZO],by simp [go_sem],HO0,by simp,(zC _ _).alloc (by simp) _⟩
  case round=>
   clear HO0
   obtain ⟨j,go,co,hj,rfl,hgT,t0,t1,HO,zr,hbel⟩:=hrel
   by_cases hlt:j < 500 + v % 2
   ·have e1:(j:Int) < 500 + (v:Int) % 2:=by omega
    obtain ⟨m0,HM0⟩:∃ m:Nat,Hid (m = j % 10):=⟨_,zB rfl⟩
    obtain ⟨m1,HM1⟩:∃ m:Nat,Hid (m = j / 10 % 10):=⟨_,zB rfl⟩
    obtain ⟨m2,HM2⟩:∃ m:Nat,Hid (m = j / 100):=⟨_,zB rfl⟩
    have f0:(j:Int) % 10 = (m0:Int):=by have:=zA HM0; omega
    have f1:(j:Int) / 10 % 10 = (m1:Int):=by have:=zA HM1; omega
    have f2:(j:Int) / 100 = (m2:Int):=by have:=zA HM2; omega
    have g0:(m0:Int) < 10:=by omega
    have g1:(m1:Int) < 10:=by omega
    have g2:(m2:Int) < 10:=by omega
    have g0':m0 < 10:=by omega
    have g1':m1 < 10:=by omega
    have g2':m2 < 10:=by omega
    have hsz:(⟨#[43,45,42,47,60,62,61,33,38,124]⟩:ByteArray).size = 10:=rfl
    have g0s:(m0:Int) < ((⟨#[43,45,42,47,60,62,61,33,38,124]⟩:ByteArray).size:Int):=g0
    have g1s:(m1:Int) < ((⟨#[43,45,42,47,60,62,61,33,38,124]⟩:ByteArray).size:Int):=g1
    have g2s:(m2:Int) < ((⟨#[43,45,42,47,60,62,61,33,38,124]⟩:ByteArray).size:Int):=g2
    have hcv:=fun x y z=>zKx wr x y z
    go_wp2_with fail
    have hbl:(ZO v j).length <= 501:=by rw [zCr]; omega
    go_region
    go_wp2_with (at_builtin; refine wpList_append_own _ rfl (.tmp 49) (.tmp 62) 23 rfl w2.heap.size 123 i0 _ 4 40 Tryz.underlying23 (zA HI) (zA HZ).1 (zA HZ).2.1 (zA HZ).2.2 rfl (by decide) _ (ZO v j).length (ZL (ZO v j)) rfl (((zA HO).alloc _).alloc _).drew ⟨wr.heap.size + 1,0,none⟩ 1 1 (ZL [(⟨⟨#[(⟨#[43,45,42,47,60,62,61,33,38,124]⟩:ByteArray)[m0],(⟨#[43,45,42,47,60,62,61,33,38,124]⟩:ByteArray)[m1],(⟨#[43,45,42,47,60,62,61,33,38,124]⟩:ByteArray)[m2]]⟩,2,1 + (j:Int) / 3,1 + ((j:Int) / 3 + (v:Int) / 2) % 3⟩:OpR)]) rfl rfl (zGE wr _ (⟨⟨#[(⟨#[43,45,42,47,60,62,61,33,38,124]⟩:ByteArray)[m0],(⟨#[43,45,42,47,60,62,61,33,38,124]⟩:ByteArray)[m1],(⟨#[43,45,42,47,60,62,61,33,38,124]⟩:ByteArray)[m2]]⟩,2,1 + (j:Int) / 3,1 + ((j:Int) / 3 + (v:Int) / 2) % 3⟩:OpR)) (zBj _) ?b1 ?b2 ?b3 ?next)
    case b1=>unfold maxLen; omega
    case b2=>omega
    case b3=>simp; omega
    case next=>
     intro v4 w4 hown4 hgrow4 hnil4
     obtain ⟨g4,c4,rfl⟩:=zCL hown4 (by simp [hnil4])
     have ho:(⟨⟨#[(⟨#[43,45,42,47,60,62,61,33,38,124]⟩:ByteArray)[m0],(⟨#[43,45,42,47,60,62,61,33,38,124]⟩:ByteArray)[m1],(⟨#[43,45,42,47,60,62,61,33,38,124]⟩:ByteArray)[m2]]⟩,2,1 + (j:Int) / 3,1 + ((j:Int) / 3 + (v:Int) / 2) % 3⟩:OpR) = zER v j:=by
      have h0:=zA HM0
      have h1:=zA HM1
      have h2:=zA HM2
      unfold zER
      rw [zGF m0 g0',zGF m1 g1',zGF m2 g2',h0,h1,h2]
      congr 1
     have hl4:(ZO v j).length + 1 = (ZO v (j + 1)).length:=by rw [zCM]; simp
     rw [ho,<- zBw,<- zCM,hl4] at hown4
     rw [hl4]
     have hgo:=(zA HO).lt go rfl
     have hbel4:Below w2.heap.size w2 w4:=(((hbel.alloc hbel.size _).alloc (by have:=hbel.size; simp; omega) _).drew).grown hgrow4 (by have:=hbel.size; simp; omega) (fun q hq=>by simp [Value.ownBlock] at hq; omega)
     have s0:w4.cell? ⟨w2.heap.size + 1,0,none⟩ = some (.slice (some ⟨go,0,none⟩) (ZO v j).length co):=by
      refine (hgrow4.cell_far ⟨w2.heap.size + 1,0,none⟩ (by simp; omega) (by simp [Value.ownBlock]; omega)).trans ?_
      exact ((zC _ _).cell (p:=⟨w2.heap.size + 1,0,none⟩) (by simp; omega)).trans (((zC _ _).cell (p:=⟨w2.heap.size + 1,0,none⟩) zr).trans t0)
     have s1:w4.frozen? ⟨w2.heap.size + 1,0,none⟩ = false:=by
      refine (hgrow4.frozen_far ⟨w2.heap.size + 1,0,none⟩ (by simp; omega) (by simp [Value.ownBlock]; omega)).trans ?_
      exact ((zC _ _).frozen (p:=⟨w2.heap.size + 1,0,none⟩) (by simp; omega)).trans (((zC _ _).frozen (p:=⟨w2.heap.size + 1,0,none⟩) zr).trans t1)
     have hne4:g4 ≠ w2.heap.size + 1:=zKy (zAw hown4).2 (by omega) s0
     have HO4:=zB hown4
     have z4:w2.heap.size + 1 < w4.heap.size:=by have:=hgrow4.size; simp at this; omega
     clear hown4 hgrow4 hnil4 HO t0 t1 hcv hbel hl4 ho
     go_wp2_with fail
     refine ⟨⟨j + 1,g4,c4,by omega,by go_num,hne4,World.cell?_setCell_same _ _ _ s0,(World.frozen?_setCell _ _ _ _).trans s1,zB ((zA HO4).kept (zX (zAQ _ _ _ _)) (Or.inr (by simp [Value.ownBlock]; omega))),by simp; omega,hbel4.setCell (by simp) _⟩,by simp [intOf]; omega⟩
   ·have hjn:=zB (show j = 500 + v % 2 by omega)
    have e1:¬ (j:Int) < 500 + (v:Int) % 2:=by omega
    have q0:wr.cell? ⟨w.heap.size + 1,0,none⟩ = some (.slice none 0 0):=(hbel.cell (p:=⟨w.heap.size + 1,0,none⟩) (by simp; omega)).trans r0
    have q1:wr.frozen? ⟨w.heap.size + 1,0,none⟩ = false:=(hbel.frozen (p:=⟨w.heap.size + 1,0,none⟩) (by simp; omega)).trans r1
    go_wp2_with fail
    obtain ⟨hgo1,hgo2⟩:=zAw (zA HO)
    have ht:zA2 xs bs p = ZO v j:=by
     unfold zA2
     rw [if_pos hb,<- zA HV,zA hjn]
    have hpp:zBN xs bs p = adv bs (adv bs p):=by
     unfold zBN
     rw [if_pos hb]
    rw [ht,hpp]
    refine bodyPost_ret (v:=.agg #[.slice (some ⟨go,0,none⟩) (ZO v j).length co]) ?res rfl ⟨⟨go,⟨co,rfl⟩,Or.inr (by omega),?_⟩,zB ?_,zB ?_⟩
    case res=>simp [results,Tryz.results62,go_sem,q0]
    ·exact hgo2.setCell _ _ (by simp; omega)
    ·exact ((zA H2).below hbel).set _ _ _ (by omega)
    ·exact ((zY.of1 (zA HW)).below hbel).setNew _ _ (by omega)
theorem zf.put {w:World} {g i:Nat} {xs:List OpR} (h:zf w g xs xs.length) (hi:i < xs.length) (o:OpR) :
  zf (w.setCells g (i * 4) [.string o.s,.int .i64 o.k,.int .i64 o.l,.int .i64 o.sd]) g (xs.set i o) (xs.set i o).length:=by
 obtain ⟨h1,h2,h3⟩:=h
 have hin:=World.cell?_setCells_in g [.string o.s,.int .i64 o.k,.int .i64 o.l,.int .i64 o.sd] (i * 4) w (fun j hj=>by
  have:=(h2 (i * 4 + j) (by simp at hj; omega)).1
  simpa using this)
 refine ⟨?_,?_,fun j hj=>?_⟩
 ·simpa [World.setCells,World.setCell] using h1
 ·rw [List.length_set]; exact World.there_setCells h2 _ _ _
 ·rw [List.length_set] at hj
  by_cases e:j = i
  ·subst e
   have a0:=hin 0 (by simp)
   have a1:=hin 1 (by simp)
   have a2:=hin 2 (by simp)
   have a3:=hin 3 (by simp)
   have ea:atO (xs.set j o) j = o:=by unfold atO; simp [List.getD,hj]
   unfold zAI
   rw [ea]
   exact ⟨by simpa using a0,by simpa using a1,by simpa using a2,by simpa using a3⟩
  ·obtain ⟨c0,c1,c2,c3⟩:=h3 j hj
   have ea:atO (xs.set i o) j = atO xs j:=by unfold atO; simp [List.getD,List.getElem?_set,Ne.symm e]
   have out:∀ t,t < 4 -> (w.setCells g (i * 4) [.string o.s,.int .i64 o.k,.int .i64 o.l,.int .i64 o.sd]).cell? ⟨g,0 + j * 4 + t,none⟩ = w.cell? ⟨g,0 + j * 4 + t,none⟩:=fun t ht=>by
    simp only [World.setCells]
    rw [World.cell?_setCell_other _ _ _ _ (fun x=>by injection x with _ x; omega),World.cell?_setCell_other _ _ _ _ (fun x=>by injection x with _ x; omega),World.cell?_setCell_other _ _ _ _ (fun x=>by injection x with _ x; omega),World.cell?_setCell_other _ _ _ _ (fun x=>by injection x with _ x; omega)]
   unfold zAI
   rw [ea]
   exact ⟨(out 0 (by omega)).trans c0,(out 1 (by omega)).trans c1,(out 2 (by omega)).trans c2,(out 3 (by omega)).trans c3⟩
theorem zM4 (W:World) (c:Int):(convert 22 9 (.slice (some ⟨W.heap.size,0,none⟩) 1 1)).run Tryz.prog (W.alloc (.cells #[.int .u8 c] 5)) = .ok (.string ⟨#[UInt8.ofNat c.toNat]⟩) (W.alloc (.cells #[.int .u8 c] 5)):=by
 rw [run_convert_bytes_string _ 22 9 5 _ _ _ Tryz.underlying22 Tryz.underlying5 Tryz.underlying9]
 have hl:(loadCells ⟨W.heap.size,0,none⟩ 1).run Tryz.prog (W.alloc (.cells #[.int .u8 c] 5)) = .ok ([c].map (Value.int .u8)).toArray (W.alloc (.cells #[.int .u8 c] 5)):=
  run_loadCells_list (P:=Tryz.prog) _ ⟨W.heap.size,0,none⟩ [.int .u8 c] (fun j v hv=>by
   match j,hv with
   | 0,hv=>simp at hv; subst hv; simp [Addr.add,go_sem])
 rw [run_bytesToString _ ⟨W.heap.size,0,none⟩ 1 1 [c] hl]
 rfl
end Go.Proofs.YtfboipappaonhaaGreat
