import Derived.Deep.RegionHeldLaw
import Derived.Test.YtfboipappaonhaaGreatM02
import Derived.Test.YtfboipappaonhaaGreatM24
import Derived.Test.YtfboipappaonhaaGreatM33
import Derived.Test.YtfboipappaonhaaGreatM34
namespace Go.Proofs.YtfboipappaonhaaGreat
set_option linter.unusedSimpArgs false
set_option maxHeartbeats 16000000
set_option maxRecDepth 100000
open Go.RowKit Go.Maps
theorem zHR:(Tryz.prog.info? 3).map (fun i=>(i.zero,i.size,i.bytes)) = some (some (.int .i64 0),1,8):=by kernel_rfl
theorem zGZ (w:World) (v:Int):∀ j u,(zN [v])[j]? = some u -> (w.alloc (.cells #[.int .i64 v] 3)).cell? ((⟨w.heap.size,0,none⟩:Addr).add j) = some u:=by
 intro j u hj
 rw [Addr.add_mid]
 have:=World.rangeAt_of_block (w:=w.alloc (.cells #[.int .i64 v] 3)) (b:=w.heap.size) (heap_alloc_new w _) 0 1
 exact this j u (by simpa [zN] using hj)
theorem zJq (ts:List zS):∀ k,zA0 ts k <= k
 | 0=>Nat.le_refl _
 | k + 1=>by
  have:=zJq ts k
  simp only [zA0,zBW]
  split
  ·omega
  ·split <;> omega
theorem zI2 (xs:List OpR) (ts:List zS) (k:Nat):ZG xs ts k = -1 \/ 0 <= ZG xs ts k:=by
 unfold ZG ZA
 (repeat' split) <;> omega
theorem zI3 (bo bs b' off' cap':Nat) (xs:List OpR) (ts:List zS) (w:World) (hm:ts.length <= 1048576) (hidx:Idx w bo bs xs xs.length) (hc:zO xs 0) (hw':zEa w b' off' ts) (hst:zKj ts) (hB':b' < w.heap.size) :
  Calls Tryz.prog 81 #[.agg #[.map (some bo),.map (some bs)],.slice (some ⟨b',off',none⟩) ts.length cap'] w fun e w'=>(∃ (a:Option Addr) (c:Nat) (us:List Int) (v:Int),e = .returned (.tuple #[.slice a us.length c,.int .i64 v]) /\ zNV w' w.heap.size a us /\ zMG xs (zO xs 0) ts us v) /\ Below w.heap.size w w':=by
 have HT:=zB hw'
 have HST:=zB hst
 have HC:=zB hc
 have HID:=zB hidx
 clear hw' hst hc hidx
 have hmk:∀ W:World,(Instr.makeSlice 79 (.int .i64 0) (.int .i64 (ts.length:Int))).run Tryz.prog W = .ok (.slice (some ⟨W.heap.size,0,none⟩) 0 ts.length) (W.alloc (.cells (madeCells #[.int .i64 0] ts.length) 3)):=by
  obtain ⟨inf,hi,hz⟩:=Option.map_eq_some_iff.1 zHR
  simp only [Prod.mk.injEq] at hz
  obtain ⟨hz,hsz,hby⟩:=hz
  intro W
  have:=run_make (P:=Tryz.prog) W 79 3 inf _ Tryz.underlying79 hi hz .i64 .i64 0 ts.length (by omega) (by omega) (by rw [hby]; omega) (by omega)
  simpa [hsz,Value.cells] using this
 have hbo:bo < w.heap.size:=by obtain ⟨D,hD,_⟩:=(zA HID).ops; exact hD.lt
 have hbs:bs < w.heap.size:=by obtain ⟨D,hD,_⟩:=(zA HID).srts; exact hD.lt
 obtain ⟨i0,hi0,hz0,hz1,hz2⟩:=info_parts zHR
 have HI0:=zB hi0
 have HZ0:=zB (And.intro hz0 (And.intro hz1 hz2))
 clear hi0 hz0 hz1 hz2
 go_enter Tryz.func81,Tryz.ntmps81
 go_wp2_with fail
 clear hmk
 obtain ⟨W0,hW0⟩:∃ W0,W0 = ((w.alloc (.cells #[.map (some bo),.map (some bs)] 69)).alloc (.cells #[.map (some bo),.map (some bs),.bool false,.int .i64 0] 205)).alloc (.cells (madeCells #[.int .i64 0] ts.length) 3):=⟨_,rfl⟩
 have HF0:=zB (show Ft W0 (w.heap.size + 1) bo bs false 0 by
  rw [hW0]
  refine ⟨?_,?_,?_,?_,fun o=>?_⟩ <;> simp [go_sem])
 have HX0:=zB (show Idx W0 bo bs xs xs.length by
  rw [hW0]
  exact (((zA HID).kept (zC _ _)).kept (zC _ _)).kept (zC _ _))
 have HO0:=zB (show W0.ownsRow (w.heap.size + 2) 3 1 (.slice (some ⟨w.heap.size + 1 + 1,0,none⟩) 0 ts.length) 0 (zN []) by
  rw [hW0]
  have h0:=World.ownsRow_made (base:=w.heap.size + 2) (e:=3) (size:=1) ((w.alloc (.cells #[.map (some bo),.map (some bs)] 69)).alloc (.cells #[.map (some bo),.map (some bs),.bool false,.int .i64 0] 205)) (madeCells #[.int .i64 0] ts.length) ts.length (by simp) (by unfold maxLen; omega) (by rw [size_madeCells]; omega)
  simpa [zN] using h0)
 have HB0:=zB (show Below w.heap.size w W0 by
  rw [hW0]
  exact ((zC _ _).alloc (by simp) _).alloc (by simp; omega) _)
 rw [<- hW0]
 clear hW0 HID
 go_loopw [7,19] (fun rv iv wr=>∃ (k g c:Nat),k <= ts.length /\ iv = .int .i64 (k:Int) /\ rv = .slice (some ⟨g,0,none⟩) k c /\ Hid (zBo xs ts k) /\ Hid (Ft wr (w.heap.size + 1) bo bs (zA5 xs ts k) (zA0 ts k)) /\ Hid (Idx wr bo bs xs xs.length) /\ Hid (wr.ownsRow (w.heap.size + 2) 3 1 (.slice (some ⟨g,0,none⟩) k c) k (zN (zAs xs ts k))) /\ Hid (Below w.heap.size w wr) /\ Hid (k = ts.length -> ¬ (0 < ts.length /\ (atT ts (ts.length - 1)).k = 7))) (fun _ iv _=>ts.length - (intOf iv).toNat)
 case atStart=>exact ⟨0,w.heap.size + 1 + 1,ts.length,Nat.zero_le _,rfl,rfl,zB (fun i hi=>by omega),HF0,HX0,HO0,HB0,zB (fun h=>by omega)⟩
 case round=>
  clear HF0 HX0 HO0 HB0
  obtain ⟨k,g,c,hk,rfl,rfl,hfit,hft,hix,hown,hbl,hend⟩:=hrel
  by_cases hlt:k < ts.length
  ·obtain ⟨a0,a1,a2⟩:=((zA HT) k hlt).below (zA hbl) hB'
   have hzp:=block_lt_of_cell (zA hft).c0
   have HF1:=zB ((zA hft).kept (zC wr (.cells #[.int .i64 (atT ts k).k,.string (atT ts k).g,.string (atT ts k).t] 97)))
   have HX1:=zB ((zA hix).kept (zC wr (.cells #[.int .i64 (atT ts k).k,.string (atT ts k).g,.string (atT ts k).t] 97)))
   have hop:zA0 ts k <= 1048576:=by
    have:=zJq ts k
    omega
   have hgl:=(zA hown).lt g rfl
   have hlast:(((k:Int) == (ts.length:Int) - 1)) = decide (k + 1 = ts.length):=by
    rw [Bool.eq_iff_iff]; simp; omega
   go_wp2_with fail
   refine (zLi (w.heap.size + 1) bo bs (zA0 ts k) (zA5 xs ts k) (decide (k + 1 = ts.length)) xs (atT ts k) _ (zA HF1) (zA HX1) ((zA HST) k hlt).2 hop).mono ?_
   rintro e w2 ⟨rfl,hs2,hk2⟩
   have HR:=zB (show ZA xs (decide (k + 1 = ts.length)) (atT ts k) (zA5 xs ts k) (zA0 ts k) = ZG xs ts k from rfl)
   rw [zA HR] at hs2 ⊢
   have hrng:=zI2 xs ts k
   have zr:wr.heap.size < w2.heap.size:=by have:=hk2.size; simp at this; omega
   have q0:w2.cell? ⟨wr.heap.size,0,none⟩ = some (.int .i64 (atT ts k).k):=by rw [hk2.cell (by simp) (by omega)]; simp [go_sem]
   have HX2:=zB ((zA HX1).of_blocks (hk2.block bo (by simp; omega) (by omega)) (hk2.block bs (by simp; omega) (by omega)))
   have HO2:=zB ((((zA hown).alloc (.cells #[.int .i64 (atT ts k).k,.string (atT ts k).g,.string (atT ts k).t] 97))).kept (zX hk2) (Or.inr (by simp [Value.ownBlock]; omega)))
   have HB2:=zB (((zA hbl).alloc (zA hbl).size (.cells #[.int .i64 (atT ts k).k,.string (atT ts k).g,.string (atT ts k).t] 97)).trans (hk2.below (by have:=(zA hbl).size; simp; omega) (by omega)))
   have HS2:=zB hs2
   have hz2:=(zA HB2).size
   clear hs2 hk2 hown hbl HX1 HF1 hix hft
   by_cases hr:ZG xs ts k = -1
   ·have HRR:=zB hr
    have hr':(ZG xs ts k == -1) = true:=by simpa using hr
    clear hr hrng
    go_wp2_with fail
    go_ret2
    exact ⟨⟨none,0,[],(k:Int),rfl,Or.inl ⟨rfl,rfl⟩,Or.inr ⟨zA HC,Or.inl ⟨k,hlt,zA hfit,by have:=zA HRR; omega,rfl,rfl⟩⟩⟩,zA HB2⟩
   have hr':(ZG xs ts k == -1) = false:=by simpa using hr
   have hr0:0 <= ZG xs ts k:=by omega
   have HFT:=zB (show Ft w2 (w.heap.size + 1) bo bs (zA5 xs ts (k + 1)) (zA0 ts (k + 1)) from (zA HS2) hr0)
   have HFI:=zB (show zBo xs ts (k + 1) from fun i hi=>by
    by_cases e:i = k
    ·subst e; exact hr0
    ·exact (zA hfit) i (by omega))
   clear hr hrng HS2 hfit
   go_wp2_with (at_builtin; refine wpList_append_own _ rfl (.tmp 35) (.tmp 37) 79 rfl (w.heap.size + 2) 3 i0 _ 1 8 Tryz.underlying79 (zA HI0) (zA HZ0).1 (zA HZ0).2.1 (zA HZ0).2.2 rfl (by decide) _ k (zN (zAs xs ts k)) rfl ((zA HO2).alloc _) ⟨w2.heap.size,0,none⟩ 1 1 (zN [ZG xs ts k]) rfl rfl (zGZ w2 (ZG xs ts k)) (ZB _) ?b1 ?b2 ?b3 ?next)
   case b1=>unfold maxLen; omega
   case b2=>omega
   case b3=>simp; omega
   case next=>
    intro v4 w4 hown4 hgrow4 hnil4
    have hbel4:Below w.heap.size w w4:=((zA HB2).alloc (by omega) _).grown hgrow4 (by simp; omega) (fun q hq=>by simp [Value.ownBlock] at hq; omega)
    have hfar:∀ bb,bb < w2.heap.size -> bb ≠ g -> w4.heap[bb]? = w2.heap[bb]?:=fun bb h1 h2=>(hgrow4.block bb (by simp; omega) (by simp [Value.ownBlock]; omega)).trans ((zC w2 _).block bb h1)
    have q4:w4.cell? ⟨wr.heap.size,0,none⟩ = some (.int .i64 (atT ts k).k):=(World.cell?_of_block (hfar wr.heap.size zr (by omega))).trans q0
    have HX4:=zB ((zA HX2).of_blocks (hfar bo (by omega) (by omega)) (hfar bs (by omega) (by omega)))
    have hp2:w.heap.size + 1 < w2.heap.size:=by omega
    have HF4:=zB (show Ft w4 (w.heap.size + 1) bo bs (zA5 xs ts (k + 1)) (zA0 ts (k + 1)) from by
     have e:=fun o=>World.cell?_of_block (w:=w2) (a:=⟨w.heap.size + 1,o,none⟩) (hfar (w.heap.size + 1) hp2 (by omega))
     have f:=fun o=>World.frozen?_of_block (w:=w2) (a:=⟨w.heap.size + 1,o,none⟩) (hfar (w.heap.size + 1) hp2 (by omega))
     have h:=zA HFT
     exact ⟨(e _).trans h.c0,(e _).trans h.c1,(e _).trans h.c2,(e _).trans h.c3,fun o=>(f o).trans (h.fz o)⟩)
    obtain ⟨g4,c4,rfl⟩:=zt hown4 (by simp [hnil4])
    rw [<- zg,<- zG3] at hown4
    have HO4:=zB hown4
    have HB4:=zB hbel4
    clear hown4 hgrow4 hnil4 hfar hbel4 HO2 HX2 HFT HB2
    by_cases hl:k + 1 = ts.length
    ·have hl':decide (k + 1 = ts.length) = true:=decide_eq_true hl
     by_cases h7:(atT ts k).k = 7
     ·have h7':((atT ts k).k == 7) = true:=by simpa using h7
      have H7:=zB h7
      have HL:=zB hl
      clear h7 hl
      go_wp2_with fail
      go_ret2
      have hl:=zA HL
      have ho:=zA HO4
      have hlen:(zAs xs ts (k + 1)).length = k + 1:=zH2 _ _ _
      rw [<- hlen] at ho
      obtain ⟨hg,hf⟩:=zHM (by rw [hlen] at ho ⊢; exact ho)
      refine ⟨⟨some ⟨g4,0,none⟩,c4,zAs xs ts (k + 1),-1,by rw [hlen]; first | rfl | (rw [hl]; rfl),Or.inr ⟨g4,rfl,by omega,hf⟩,Or.inr ⟨zA HC,Or.inr ⟨hl ▸ zA HFI,Or.inl ⟨⟨by omega,?_⟩,by rw [hl],rfl⟩⟩⟩⟩,zA HB4⟩
      rw [<- hl]
      exact zA H7
     ·have h7':((atT ts k).k == 7) = false:=by simpa using h7
      have HE:=zB (show k + 1 = ts.length -> ¬ (0 < ts.length /\ (atT ts (ts.length - 1)).k = 7) from fun e=>by
       rw [<- e]
       exact fun h=>h7 h.2)
      have HL:=zB hl
      clear hl
      go_wp2_with fail
      have hl:=zA HL
      exact ⟨⟨k + 1,g4,c4,by omega,by go_num,by first | rfl | (rw [hl]),HFI,HF4,HX4,HO4,HB4,HE⟩,by simp [intOf]; omega⟩
    ·have hl':decide (k + 1 = ts.length) = false:=decide_eq_false hl
     have HE:=zB (show k + 1 = ts.length -> ¬ (0 < ts.length /\ (atT ts (ts.length - 1)).k = 7) from fun e=>absurd e hl)
     go_wp2_with fail
     exact ⟨⟨k + 1,g4,c4,by omega,by go_num,rfl,HFI,HF4,HX4,HO4,HB4,HE⟩,by simp [intOf]; omega⟩
  ·have HX:=zB (show k = ts.length by omega)
   go_wp2_with fail
   go_ret2
   have e:=zA HX
   subst e
   exact ⟨⟨none,0,[],(ts.length:Int),rfl,Or.inl ⟨rfl,rfl⟩,Or.inr ⟨zA HC,Or.inr ⟨zA hfit,Or.inr ⟨(zA hend) rfl,rfl,rfl⟩⟩⟩⟩,zA hbl⟩
end Go.Proofs.YtfboipappaonhaaGreat
namespace Go.Proofs.YtfboipappaonhaaGreat
set_option linter.unusedSimpArgs false
set_option linter.unusedVariables false
set_option maxHeartbeats 16000000
set_option maxRecDepth 100000
open Go.RowKit
end Go.Proofs.YtfboipappaonhaaGreat
