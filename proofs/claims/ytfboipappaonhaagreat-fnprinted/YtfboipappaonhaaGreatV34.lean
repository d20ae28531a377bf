import Derived.Deep.RegionHeldLaw
import Derived.Test.YtfboipappaonhaaGreatV02
import Derived.Test.YtfboipappaonhaaGreatV22
import Derived.Test.YtfboipappaonhaaGreatV24
import Derived.Test.YtfboipappaonhaaGreatV32
import Derived.Test.YtfboipappaonhaaGreatV33
namespace Go.Proofs.YtfboipappaonhaaGreat
set_option linter.unusedSimpArgs false
set_option maxHeartbeats 16000000
set_option maxRecDepth 100000
open Go.RowKit Go.Maps
theorem zHY:(Tryz.prog.info? 3).map (fun i=>(i.zero,i.size,i.bytes)) = some (some (.int .i64 0),1,8):=by kernel_rfl
theorem zBv (w:World) (v:Int):∀ j u,(za [v])[j]? = some u -> (w.alloc (.cells #[.int .i64 v] 3)).cell? ((⟨w.heap.size,0,none⟩:Addr).add j) = some u:=by
 intro j u hj
 rw [Addr.add_mid]
 have:=World.rangeAt_of_block (w:=w.alloc (.cells #[.int .i64 v] 3)) (b:=w.heap.size) (heap_alloc_new w _) 0 1
 exact this j u (by simpa [za] using hj)
theorem zJr (ts:List zN):∀ k,zAf ts k <= k
 | 0=>Nat.le_refl _
 | k + 1=>by
  have:=zJr ts k
  simp only [zAf,zBA]
  split
  ·omega
  ·split <;> omega
theorem zI5 (xs:List OpR) (ts:List zN) (k:Nat):zx xs ts k = -1 \/ 0 <= zx xs ts k:=by
 unfold zx zm
 (repeat' split) <;> omega
theorem zI6 (bo bs b' off' cap':Nat) (xs:List OpR) (ts:List zN) (w:World) (hm:ts.length <= 1048576) (hidx:Idx w bo bs xs xs.length) (hc:zK xs 0) (hw':zEe w b' off' ts) (hst:zKk ts) (hB':b' < w.heap.size) :
  Calls Tryz.prog 81 #[.agg #[.map (some bo),.map (some bs)],.slice (some ⟨b',off',none⟩) ts.length cap'] w fun e w'=>(∃ (a:Option Addr) (c:Nat) (us:List Int) (v:Int),e = .returned (.tuple #[.slice a us.length c,.int .i64 v]) /\ zNs w' w.heap.size a us /\ zMa xs (zK xs 0) ts us v) /\ Below w.heap.size w w':=by
 have HT:=zB hw'
 have HST:=zB hst
 have HC:=zB hc
 have HID:=zB hidx
 clear hw' hst hc hidx
 have hmk:∀ W:World,(Instr.makeSlice 79 (.int .i64 0) (.int .i64 (ts.length:Int))).run Tryz.prog W = .ok (.slice (some ⟨W.heap.size,0,none⟩) 0 ts.length) (W.alloc (.cells (madeCells #[.int .i64 0] ts.length) 3)):=by
  obtain ⟨inf,hi,hz⟩:=Option.map_eq_some_iff.1 zHY
  simp only [Prod.mk.injEq] at hz
  obtain ⟨hz,hsz,hby⟩:=hz
  intro W
  have:=run_make (P:=Tryz.prog) W 79 3 inf _ Tryz.underlying79 hi hz .i64 .i64 0 ts.length (by omega) (by omega) (by rw [hby]; omega) (by omega)
  simpa [hsz,Value.cells] using this
 have hbo:bo < w.heap.size:=by obtain ⟨D,hD,_⟩:=(zA HID).ops; exact hD.lt
 have hbs:bs < w.heap.size:=by obtain ⟨D,hD,_⟩:=(zA HID).srts; exact hD.lt
 obtain ⟨i0,hi0,hz0,hz1,hz2⟩:=info_parts zHY
 have HI0:=zB hi0
 have HZ0:=zB (And.intro hz0 (And.intro hz1 hz2))
 clear hi0 hz0 hz1 hz2
 go_enter Tryz.func81,Tryz.ntmps81
 go_wp2_with fail
 clear hmk
 obtain ⟨W0,hW0⟩:∃ W0,W0 = ((w.alloc (.cells #[.map (some bo),.map (some bs)] 69)).alloc (.cells #[.map (some bo),.map (some bs),.bool false,.int .i64 0] 205)).alloc (.cells (madeCells #[.int .i64 0] ts.length) 3):=⟨_,rfl⟩
 have HF0:=zB (show Ft W0 (w.heap.size + 1) bo bs false 0 by
  rw [hW0]
  refine ⟨?_,?_,?_,?_,fun o=>?_⟩ <;> simp [go_sem])
 have HX0:=zB (show Idx W0 bo bs xs xs.length by
  rw [hW0]
  exact (((zA HID).kept (zC _ _)).kept (zC _ _)).kept (zC _ _))
 have HO0:=zB (show W0.ownsRow (w.heap.size + 2) 3 1 (.slice (some ⟨w.heap.size + 1 + 1,0,none⟩) 0 ts.length) 0 (za []) by
  rw [hW0]
  have h0:=World.ownsRow_made (base:=w.heap.size + 2) (e:=3) (size:=1) ((w.alloc (.cells #[.map (some bo),.map (some bs)] 69)).alloc (.cells #[.map (some bo),.map (some bs),.bool false,.int .i64 0] 205)) (madeCells #[.int .i64 0] ts.length) ts.length (by simp) (by unfold maxLen; omega) (by rw [size_madeCells]; omega)
  simpa [za] using h0)
 have HB0:=zB (show Below w.heap.size w W0 by
  rw [hW0]
  exact ((zC _ _).alloc (by simp) _).alloc (by simp; omega) _)
 rw [<- hW0]
 clear hW0 HID
 go_loopw [7,19] (fun rv iv wr=>∃ (k g c:Nat),k <= ts.length /\ iv = .int .i64 (k:Int) /\ rv = .slice (some ⟨g,0,none⟩) k c /\ Hid (zBS xs ts k) /\ Hid (Ft wr (w.heap.size + 1) bo bs (zAm xs ts k) (zAf ts k)) /\ Hid (Idx wr bo bs xs xs.length) /\ Hid (wr.ownsRow (w.heap.size + 2) 3 1 (.slice (some ⟨g,0,none⟩) k c) k (za (zAZ xs ts k))) /\ Hid (Below w.heap.size w wr) /\ Hid (k = ts.length -> ¬ (0 < ts.length /\ (atT ts (ts.length - 1)).k = 7))) (fun _ iv _=>ts.length - (intOf iv).toNat)
 case atStart=>exact ⟨0,w.heap.size + 1 + 1,ts.length,Nat.zero_le _,rfl,rfl,zB (fun i hi=>by omega),HF0,HX0,HO0,HB0,zB (fun h=>by omega)⟩
 case round=>
  clear HF0 HX0 HO0 HB0
  obtain ⟨k,g,c,hk,rfl,rfl,hfit,hft,hix,hown,hbl,hend⟩:=hrel
  by_cases hlt:k < ts.length
  ·obtain ⟨a0,a1,a2⟩:=((zA HT) k hlt).below (zA hbl) hB'
   have hzp:=block_lt_of_cell (zA hft).c0
   have HF1:=zB ((zA hft).kept (zC wr (.cells #[.int .i64 (atT ts k).k,.string (atT ts k).g,.string (atT ts k).t] 97)))
   have HX1:=zB ((zA hix).kept (zC wr (.cells #[.int .i64 (atT ts k).k,.string (atT ts k).g,.string (atT ts k).t] 97)))
   have hop:zAf ts k <= 1048576:=by
    have:=zJr ts k
    omega
   have hgl:=(zA hown).lt g rfl
   have hlast:(((k:Int) == (ts.length:Int) - 1)) = decide (k + 1 = ts.length):=by
    rw [Bool.eq_iff_iff]; simp; omega
   go_wp2_with fail
   refine (zLy (w.heap.size + 1) bo bs (zAf ts k) (zAm xs ts k) (decide (k + 1 = ts.length)) xs (atT ts k) _ (zA HF1) (zA HX1) ((zA HST) k hlt).2 hop).mono ?_
   rintro e w2 ⟨rfl,hs2,hk2⟩
   have HR:=zB (show zm xs (decide (k + 1 = ts.length)) (atT ts k) (zAm xs ts k) (zAf ts k) = zx xs ts k from rfl)
   rw [zA HR] at hs2 ⊢
   have hrng:=zI5 xs ts k
   have zr:wr.heap.size < w2.heap.size:=by have:=hk2.size; simp at this; omega
   have q0:w2.cell? ⟨wr.heap.size,0,none⟩ = some (.int .i64 (atT ts k).k):=by rw [hk2.cell (by simp) (by omega)]; simp [go_sem]
   have HX2:=zB ((zA HX1).of_blocks (hk2.block bo (by simp; omega) (by omega)) (hk2.block bs (by simp; omega) (by omega)))
   have HO2:=zB ((((zA hown).alloc (.cells #[.int .i64 (atT ts k).k,.string (atT ts k).g,.string (atT ts k).t] 97))).kept (zW hk2) (Or.inr (by simp [Value.ownBlock]; omega)))
   have HB2:=zB (((zA hbl).alloc (zA hbl).size (.cells #[.int .i64 (atT ts k).k,.string (atT ts k).g,.string (atT ts k).t] 97)).trans (hk2.below (by have:=(zA hbl).size; simp; omega) (by omega)))
   have HS2:=zB hs2
   have hz2:=(zA HB2).size
   clear hs2 hk2 hown hbl HX1 HF1 hix hft
   by_cases hr:zx xs ts k = -1
   ·have HRR:=zB hr
    have hr':(zx xs ts k == -1) = true:=by simpa using hr
    clear hr hrng
    go_wp2_with fail
    go_ret2
    exact ⟨⟨none,0,[],(k:Int),rfl,Or.inl ⟨rfl,rfl⟩,Or.inr ⟨zA HC,Or.inl ⟨k,hlt,zA hfit,by have:=zA HRR; omega,rfl,rfl⟩⟩⟩,zA HB2⟩
   have hr':(zx xs ts k == -1) = false:=by simpa using hr
   have hr0:0 <= zx xs ts k:=by omega
   have HFT:=zB (show Ft w2 (w.heap.size + 1) bo bs (zAm xs ts (k + 1)) (zAf ts (k + 1)) from (zA HS2) hr0)
   have HFI:=zB (show zBS xs ts (k + 1) from fun i hi=>by
    by_cases e:i = k
    ·subst e; exact hr0
    ·exact (zA hfit) i (by omega))
   clear hr hrng HS2 hfit
   go_wp2_with (at_builtin; refine wpList_append_own _ rfl (.tmp 35) (.tmp 37) 79 rfl (w.heap.size + 2) 3 i0 _ 1 8 Tryz.underlying79 (zA HI0) (zA HZ0).1 (zA HZ0).2.1 (zA HZ0).2.2 rfl (by decide) _ k (za (zAZ xs ts k)) rfl ((zA HO2).alloc _) ⟨w2.heap.size,0,none⟩ 1 1 (za [zx xs ts k]) rfl rfl (zBv w2 (zx xs ts k)) (zAA _) ?b1 ?b2 ?b3 ?next)
   case b1=>unfold maxLen; omega
   case b2=>omega
   case b3=>simp; omega
   case next=>
    intro v4 w4 hown4 hgrow4 hnil4
    have hbel4:Below w.heap.size w w4:=((zA HB2).alloc (by omega) _).grown hgrow4 (by simp; omega) (fun q hq=>by simp [Value.ownBlock] at hq; omega)
    have hfar:∀ bb,bb < w2.heap.size -> bb ≠ g -> w4.heap[bb]? = w2.heap[bb]?:=fun bb h1 h2=>(hgrow4.block bb (by simp; omega) (by simp [Value.ownBlock]; omega)).trans ((zC w2 _).block bb h1)
    have q4:w4.cell? ⟨wr.heap.size,0,none⟩ = some (.int .i64 (atT ts k).k):=(World.cell?_of_block (hfar wr.heap.size zr (by omega))).trans q0
    have HX4:=zB ((zA HX2).of_blocks (hfar bo (by omega) (by omega)) (hfar bs (by omega) (by omega)))
    have hp2:w.heap.size + 1 < w2.heap.size:=by omega
    have HF4:=zB (show Ft w4 (w.heap.size + 1) bo bs (zAm xs ts (k + 1)) (zAf ts (k + 1)) from by
     have e:=fun o=>World.cell?_of_block (w:=w2) (a:=⟨w.heap.size + 1,o,none⟩) (hfar (w.heap.size + 1) hp2 (by omega))
     have f:=fun o=>World.frozen?_of_block (w:=w2) (a:=⟨w.heap.size + 1,o,none⟩) (hfar (w.heap.size + 1) hp2 (by omega))
     have h:=zA HFT
     exact ⟨(e _).trans h.c0,(e _).trans h.c1,(e _).trans h.c2,(e _).trans h.c3,fun o=>(f o).trans (h.fz o)⟩)
    obtain ⟨g4,c4,rfl⟩:=zAF hown4 (by simp [hnil4])
    rw [<- Zm,<- zHC] at hown4
    have HO4:=zB hown4
    have HB4:=zB hbel4
    clear hown4 hgrow4 hnil4 hfar hbel4 HO2 HX2 HFT HB2
    by_cases hl:k + 1 = ts.length
    ·have hl':decide (k + 1 = ts.length) = true:=decide_eq_true hl
     by_cases h7:(atT ts k).k = 7
     ·have h7':((atT ts k).k == 7) = true:=by simpa using h7
      have H7:=zB h7
      have HL:=zB hl
      clear h7 hl
      go_wp2_with fail
      go_ret2
      have hl:=zA HL
      have ho:=zA HO4
      have hlen:(zAZ xs ts (k + 1)).length = k + 1:=zH8 _ _ _
      rw [<- hlen] at ho
      obtain ⟨hg,hf⟩:=zDr (by rw [hlen] at ho ⊢; exact ho)
      refine ⟨⟨some ⟨g4,0,none⟩,c4,zAZ xs ts (k + 1),-1,by rw [hlen]; first | rfl | (rw [hl]; rfl),Or.inr ⟨g4,rfl,by omega,hf⟩,Or.inr ⟨zA HC,Or.inr ⟨hl ▸ zA HFI,Or.inl ⟨⟨by omega,?_⟩,by rw [hl],rfl⟩⟩⟩⟩,zA HB4⟩
      rw [<- hl]
      exact zA H7
     ·have h7':((atT ts k).k == 7) = false:=by simpa using h7
      have HE:=zB (show k + 1 = ts.length -> ¬ (0 < ts.length /\ (atT ts (ts.length - 1)).k = 7) from fun e=>by
       rw [<- e]
       exact fun h=>h7 h.2)
      have HL:=zB hl
      clear hl
      go_wp2_with fail
      have hl:=zA HL
      exact ⟨⟨k + 1,g4,c4,by omega,by go_num,by first | rfl | (rw [hl]),HFI,HF4,HX4,HO4,HB4,HE⟩,by simp [intOf]; omega⟩
    ·have hl':decide (k + 1 = ts.length) = false:=decide_eq_false hl
     have HE:=zB (show k + 1 = ts.length -> ¬ (0 < ts.length /\ (atT ts (ts.length - 1)).k = 7) from fun e=>absurd e hl)
     go_wp2_with fail
     exact ⟨⟨k + 1,g4,c4,by omega,by go_num,rfl,HFI,HF4,HX4,HO4,HB4,HE⟩,by simp [intOf]; omega⟩
  ·have HX:=zB (show k = ts.length by omega)
   go_wp2_with fail
   go_ret2
   have e:=zA HX
   subst e
   exact ⟨⟨none,0,[],(ts.length:Int),rfl,Or.inl ⟨rfl,rfl⟩,Or.inr ⟨zA HC,Or.inr ⟨zA hfit,Or.inr ⟨(zA hend) rfl,rfl,rfl⟩⟩⟩⟩,zA hbl⟩
end Go.Proofs.YtfboipappaonhaaGreat
namespace Go.Proofs.YtfboipappaonhaaGreat
set_option linter.unusedSimpArgs false
set_option linter.unusedVariables false
set_option maxHeartbeats 16000000
set_option maxRecDepth 100000
open Go.RowKit
def hL:ET -> List Int
 | .nil=>[]
 | .node _ _ _ l r=>hL l ++ hL r ++ [((1 + max (hT l) (hT r):Nat):Int)]
theorem zDF:∀ T:ET,(hL T).length = tsz T
 | .nil=>rfl
 | .node _ _ _ l r=>by simp [hL,tsz,zDF l,zDF r]; omega
theorem zDt {a b:List Int} {i:Nat} (h:i < a.length):atI (a ++ b) i = atI a i:=by
 simp [atI,List.getD,List.getElem?_append,h]
theorem zDu {a b:List Int} {i:Nat} (h:a.length <= i):atI (a ++ b) i = atI b (i - a.length):=by
 simp [atI,List.getD,List.getElem?_append_right h]
theorem zIM {a b:List zD} {i:Nat} (h:i < a.length):atN (a ++ b) i = atN a i:=by
 simp [atN,List.getD,List.getElem?_append,h]
theorem zIN {a b:List zD} {i:Nat} (h:a.length <= i):atN (a ++ b) i = atN b (i - a.length):=by
 simp [atN,List.getD,List.getElem?_append_right h]
theorem zE3:∀ {T:ET},Sh T -> atI (hL T) (tsz T - 1) = (hT T:Int)
 | .nil,h=>h.elim
 | .node b o t l r,_=>by
  have e:tsz (.node b o t l r:ET) - 1 = (hL l ++ hL r).length:=by simp [tsz,zDF]
  rw [e]
  simp only [hL,hT]
  rw [zDu (Nat.le_refl _)]
  simp [atI]
def zLz (n:zD) (H:List Int) (s i:Nat):Prop:=
 (zM n.k = 0 /\ atI H i = 1) \/ (zM n.k = 1 /\ ∃ a,n.a = ((s + a:Nat):Int) /\ a < i /\ atI H i = atI H a + 1) \/
 (zM n.k = 2 /\ ∃ a c,n.a = ((s + a:Nat):Int) /\ n.b = ((s + c:Nat):Int) /\ a < i /\ c < i /\ atI H i = max (atI H a) (atI H c) + 1)
theorem zL0:∀ (T:ET),Sh T -> ∀ (s i:Nat),i < tsz T -> zLz (atN (nd T s) i) (hL T) s i
 | .nil,h,_,_,_=>h.elim
 | .node b o t l r,h,s,i,hi=>by
  simp only [tsz] at hi
  have el:=zDF l
  have er:=zDF r
  have nl:=zg l s
  have nr:=zg r (s + tsz l)
  by_cases h1:i < tsz l
  ·have hsl:Sh l:=by
    rcases h.2 with ⟨_,rfl,_⟩ | ⟨_,hl,_⟩ | ⟨_,hl,_⟩
    ·simp [tsz] at h1
    ·exact hl
    ·exact hl
   have ih:=zL0 l hsl s i h1
   have en:atN (nd (.node b o t l r) s) i = atN (nd l s) i:=by
    simp only [nd]; rw [List.append_assoc,zIM (by omega)]
   have eH:∀ k,k < tsz l -> atI (hL (.node b o t l r)) k = atI (hL l) k:=fun k hk=>by
    simp only [hL]; rw [List.append_assoc,zDt (by omega)]
   unfold zLz
   rw [en]
   rcases ih with ⟨k0,e⟩ | ⟨k1,a,e1,e2,e3⟩ | ⟨k2,a,c,e1,e2,e3,e4,e5⟩
   ·exact Or.inl ⟨k0,by rw [eH i h1]; exact e⟩
   ·exact Or.inr (Or.inl ⟨k1,a,e1,e2,by rw [eH i h1,eH a (by omega)]; exact e3⟩)
   ·exact Or.inr (Or.inr ⟨k2,a,c,e1,e2,e3,e4,by rw [eH i h1,eH a (by omega),eH c (by omega)]; exact e5⟩)
  ·by_cases h2:i < tsz l + tsz r
   ·have hsr:Sh r:=by
     rcases h.2 with ⟨_,rfl,rfl⟩ | ⟨_,hl,rfl⟩ | ⟨_,_,hr⟩
     ·simp [tsz] at h2
     ·simp [tsz] at h2; omega
     ·exact hr
    have ih:=zL0 r hsr (s + tsz l) (i - tsz l) (by omega)
    have en:atN (nd (.node b o t l r) s) i = atN (nd r (s + tsz l)) (i - tsz l):=by
     simp only [nd]; rw [List.append_assoc,zIN (by omega),nl,zIM (by omega)]
    have eH:∀ k,k < tsz r -> atI (hL (.node b o t l r)) (tsz l + k) = atI (hL r) k:=fun k hk=>by
     simp only [hL]; rw [List.append_assoc,zDu (by omega),el,zDt (by omega)]; congr 1; omega
    have ei:i = tsz l + (i - tsz l):=by omega
    unfold zLz
    rw [en]
    rcases ih with ⟨k0,e⟩ | ⟨k1,a,e1,e2,e3⟩ | ⟨k2,a,c,e1,e2,e3,e4,e5⟩
    ·exact Or.inl ⟨k0,by rw [ei,eH _ (by omega)]; exact e⟩
    ·refine Or.inr (Or.inl ⟨k1,tsz l + a,by rw [e1]; congr 1; omega,by omega,?_⟩)
     conv=>lhs; rw [ei]
     rw [eH _ (by omega),eH a (by omega)]; exact e3
    ·refine Or.inr (Or.inr ⟨k2,tsz l + a,tsz l + c,by rw [e1]; congr 1; omega,by rw [e2]; congr 1; omega,by omega,by omega,?_⟩)
     conv=>lhs; rw [ei]
     rw [eH _ (by omega),eH a (by omega),eH c (by omega)]; exact e5
   ·have ei:i = tsz l + tsz r:=by omega
    have en:atN (nd (.node b o t l r) s) i = tN b t l r s:=by
     simp only [nd]; rw [zIN (by simp; omega)]
     have:i - (nd l s ++ nd r (s + tsz l)).length = 0:=by simp; omega
     rw [this]; rfl
    have eI:atI (hL (.node b o t l r)) i = ((1 + max (hT l) (hT r):Nat):Int):=by
     simp only [hL]; rw [zDu (by simp; omega)]
     have:i - (hL l ++ hL r).length = 0:=by simp; omega
     rw [this]; rfl
    unfold zLz
    rw [en,eI]
    rcases h.2 with ⟨k0,rfl,rfl⟩ | ⟨k1,hl,rfl⟩ | ⟨k2,hl,hr⟩
    ·exact Or.inl ⟨k0,rfl⟩
    ·have hp:=Sh.pos hl
     refine Or.inr (Or.inl ⟨k1,tsz l - 1,?_,by omega,?_⟩)
     ·simp only [tN,k1]
      rw [if_neg (by decide)]
      omega
     ·have e:atI (hL (.node b o t l .nil)) (tsz l - 1) = (hT l:Int):=by
       simp only [hL]; rw [List.append_assoc,zDt (by omega)]; exact zE3 hl
      rw [e]
      simp only [hT]
      omega
    ·have hp:=Sh.pos hl
     have hp2:=Sh.pos hr
     refine Or.inr (Or.inr ⟨k2,tsz l - 1,tsz l + tsz r - 1,?_,?_,by omega,by omega,?_⟩)
     ·simp only [tN,k2]
      rw [if_neg (by decide)]
      omega
     ·simp only [tN,k2]
      rw [if_pos trivial]
      omega
     ·have e:atI (hL (.node b o t l r)) (tsz l - 1) = (hT l:Int):=by
       simp only [hL]; rw [List.append_assoc,zDt (by omega)]; exact zE3 hl
      have e2:atI (hL (.node b o t l r)) (tsz l + tsz r - 1) = (hT r:Int):=by
       simp only [hL]; rw [List.append_assoc,zDu (by omega),el,zDt (by omega)]
       have:tsz l + tsz r - 1 - tsz l = tsz r - 1:=by omega
       rw [this]
       exact zE3 hr
      rw [e,e2]
      omega
theorem zHZ {H:List Int} {k:Nat} (h:k < H.length):H.take (k + 1) = H.take k ++ [atI H k]:=by
 rw [List.take_add_one]
 simp [atI,List.getD,h]
theorem zIO {H:List Int} {i k:Nat} (h:i < k):atI (H.take k) i = atI H i:=by
 simp [atI,List.getD,List.getElem?_take,h]
theorem zHa (bn cn:Nat) (ns:List zD) (H:List Int) (w:World) (hw:Zc w bn 0 ns) (hB:bn < w.heap.size) (hl:ns.length <= 100000) (h1:1 <= ns.length) (hH:H.length = ns.length) (hat:∀ i,i < ns.length -> zLz (atN ns i) H 0 i) (hbd:∀ i,i < ns.length -> 0 <= atI H i /\ atI H i <= 100000) :
  Calls Tryz.prog 35 #[.agg #[.slice (some ⟨bn,0,none⟩) ns.length cn]] w fun e w'=>e = .returned (.int .i64 (atI H (ns.length - 1))) /\ Below w.heap.size w w':=by
 obtain ⟨i0,hi0,hz0,hz1,hz2⟩:=info_parts zHY
 have HI0:=zB hi0
 have HZ0:=zB (And.intro hz0 (And.intro hz1 hz2))
 have HW:=zB hw
 have HAT:=zB hat
 have HBD:=zB hbd
 have HLN:=zB hH
 clear hi0 hz0 hz1 hz2 hw hat hbd hH
 have HO:=zB (show ((w.alloc (.cells #[.slice (some ⟨bn,0,none⟩) ns.length cn] 28)).alloc (.cells #[] 3)).ownsRow (w.heap.size + 1) 3 1 (.slice (some ⟨w.heap.size + 1,0,none⟩) 0 0) 0 (za []) by
  have h0:=World.ownsRow_lit (base:=w.heap.size + 1) (e:=3) (size:=1) (w.alloc (.cells #[.slice (some ⟨bn,0,none⟩) ns.length cn] 28)) #[] 0 (by simp) (Nat.zero_le _) rfl
  simpa [za] using h0)
 have hb0:Below (w.heap.size + 1) (w.alloc (.cells #[.slice (some ⟨bn,0,none⟩) ns.length cn] 28)) ((w.alloc (.cells #[.slice (some ⟨bn,0,none⟩) ns.length cn] 28)).alloc (.cells #[] 3)):=(zC _ _).mono (by simp)
 go_enter Tryz.func35,Tryz.ntmps35
 go_wp2_with fail
 go_loopw [3,4] (fun hv iv wr=>∃ (k go co:Nat),k <= ns.length /\ iv = .int .i64 (k:Int) /\ hv = .slice (some ⟨go,0,none⟩) k co /\ Hid (wr.ownsRow (w.heap.size + 1) 3 1 (.slice (some ⟨go,0,none⟩) k co) k (za (H.take k))) /\ Hid (Below (w.heap.size + 1) (w.alloc (.cells #[.slice (some ⟨bn,0,none⟩) ns.length cn] 28)) wr) /\ w.heap.size + 1 < wr.heap.size) (fun _ iv _=>ns.length - (intOf iv).toNat)
 case atStart=>exact ⟨0,w.heap.size + 1,0,Nat.zero_le _,rfl,rfl,HO,zB hb0,by simp⟩
 case round=>
  clear HO hb0
  obtain ⟨k,go,co,hk,rfl,rfl,hown,hbel,hz⟩:=hrel
  have tc:wr.cell? ⟨w.heap.size,0,none⟩ = some (.slice (some ⟨bn,0,none⟩) ns.length cn):=by
   rw [(zA hbel).cell (p:=⟨w.heap.size,0,none⟩) (show w.heap.size < _ by omega)]; simp [go_sem]
  have hbw:Below w.heap.size w wr:=(zC _ _).trans ((zA hbel).mono (by omega))
  have HFI:=zB (show zHT wr go (H.take k) (H.take k).length by
   have hlk:(H.take k).length = k:=by rw [List.length_take,zA HLN]; omega
   have ho:=zA hown
   refine (zDr (base:=w.heap.size + 1) (cap:=co) (e:=3) ?_).2
   rw [hlk]; exact ho)
  have hlk:(H.take k).length = k:=by rw [List.length_take,zA HLN]; omega
  have HLK:=zB hlk
  have hgo:=(zA hown).lt go rfl
  have HGO:=zB hgo
  by_cases hlt:k < ns.length
  ·have hltI:(k:Int) < (ns.length:Int):=by omega
   obtain ⟨a0,a1,a2,a3⟩:=((zA HW) k hlt).below hbw hB
   rw [Nat.zero_add] at a0 a1 a2 a3
   have hb1:=(zA HBD) k hlt
   have hbn:bn < wr.heap.size:=by have:=hbw.size; omega
   have HTK:=zB (zHZ (H:=H) (k:=k) (by rw [zA HLN]; exact hlt))
   have HCL:=zB (show ∀ i,i < k -> wr.cell? ⟨go,i,none⟩ = some (.int .i64 (atI H i)) from fun i hi=>by
    have:=(zA HFI).2.2 i (by rw [zA HLK]; exact hi)
    rw [this,zIO hi])
   rcases (zA HAT) k hlt with ⟨k0,e⟩ | ⟨k1,a,e1,e2,e3⟩ | ⟨k2,a,c,e1,e2,e3,e4,e5⟩
   ·have HKK:=zB k0
    have HVE:=zB e
    clear k0 e
    go_wp2_with (first | (go_at_call 55; refine (zU (zA HKK) 0 rfl _).mono ?_; rintro e w' ⟨rfl,hx⟩; obtain rfl:=hx.symm) | (at_builtin; refine wpList_append_own _ rfl (.tmp 47) (.tmp 50) 79 rfl (w.heap.size + 1) 3 i0 _ 1 8 Tryz.underlying79 (zA HI0) (zA HZ0).1 (zA HZ0).2.1 (zA HZ0).2.2 rfl (by decide) _ k (za (H.take k)) rfl (((zA hown).alloc _).alloc _) ⟨wr.heap.size + 1,0,none⟩ 1 1 (za [1]) rfl rfl (by simpa using zBv (wr.alloc (.cells #[.int .i64 (atN ns k).k,.string (atN ns k).t,.int .i64 (atN ns k).a,.int .i64 (atN ns k).b] 81)) (1)) (zAA _) ?b1 ?b2 ?b3 ?next))
    case b1=>unfold maxLen; omega
    case b2=>omega
    case b3=>simp; omega
    case next=>
     intro v4 w4 hown4 hgrow4 hnil4
     have hbel4:Below (w.heap.size + 1) (w.alloc (.cells #[.slice (some ⟨bn,0,none⟩) ns.length cn] 28)) w4:=(((zA hbel).alloc (by omega) _).alloc (by simp; omega) _).grown hgrow4 (by simp; omega) (fun q hq=>by have:=(zA HGO).1; simp [Value.ownBlock] at hq; omega)
     have z4:w.heap.size + 1 < w4.heap.size:=by have:=hgrow4.size; simp at this; omega
     obtain ⟨g4,c4,rfl⟩:=zAF hown4 (by simp [hnil4])
     rw [<- Zm,<- zA HVE,<- zA HTK] at hown4
     have HO4:=zB hown4
     have HB4:=zB hbel4
     clear hown4 hgrow4 hnil4 hbel4
     go_wp2_with fail
     exact ⟨⟨k + 1,g4,c4,by omega,by go_num,rfl,HO4,HB4,z4⟩,by simp [intOf]; omega⟩
   ·have HKK:=zB k1
    have HVE:=zB e3
    rw [Nat.zero_add] at e1
    have ca:=(zA HCL) a e2
    have hgl:go < wr.heap.size:=(zA HGO).2
    have hgn:go ≠ wr.heap.size:=by omega
    have hba:=(zA HBD) a (by omega)
    obtain ⟨hba1,hba2⟩:=hba
    have haI:(a:Int) < (k:Int):=by omega
    rw [e1] at a2
    clear k1 e3 e1
    go_wp2_with (first | (go_at_call 55; refine (zU (zA HKK) 1 rfl _).mono ?_; rintro e w' ⟨rfl,hx⟩; obtain rfl:=hx.symm) | (at_builtin; refine wpList_append_own _ rfl (.tmp 47) (.tmp 50) 79 rfl (w.heap.size + 1) 3 i0 _ 1 8 Tryz.underlying79 (zA HI0) (zA HZ0).1 (zA HZ0).2.1 (zA HZ0).2.2 rfl (by decide) _ k (za (H.take k)) rfl (((zA hown).alloc _).alloc _) ⟨wr.heap.size + 1,0,none⟩ 1 1 (za [atI H a + 1]) rfl rfl (by simpa using zBv (wr.alloc (.cells #[.int .i64 (atN ns k).k,.string (atN ns k).t,.int .i64 (a:Int),.int .i64 (atN ns k).b] 81)) (atI H a + 1)) (zAA _) ?b1 ?b2 ?b3 ?next))
    case b1=>unfold maxLen; omega
    case b2=>omega
    case b3=>simp; omega
    case next=>
     intro v4 w4 hown4 hgrow4 hnil4
     have hbel4:Below (w.heap.size + 1) (w.alloc (.cells #[.slice (some ⟨bn,0,none⟩) ns.length cn] 28)) w4:=(((zA hbel).alloc (by omega) _).alloc (by simp; omega) _).grown hgrow4 (by simp; omega) (fun q hq=>by have:=(zA HGO).1; simp [Value.ownBlock] at hq; omega)
     have z4:w.heap.size + 1 < w4.heap.size:=by have:=hgrow4.size; simp at this; omega
     obtain ⟨g4,c4,rfl⟩:=zAF hown4 (by simp [hnil4])
     rw [<- Zm,<- zA HVE,<- zA HTK] at hown4
     have HO4:=zB hown4
     have HB4:=zB hbel4
     clear hown4 hgrow4 hnil4 hbel4
     go_wp2_with fail
     exact ⟨⟨k + 1,g4,c4,by omega,by go_num,rfl,HO4,HB4,z4⟩,by simp [intOf]; omega⟩
   ·have HKK:=zB k2
    rw [Nat.zero_add] at e1 e2
    have ca:=(zA HCL) a e3
    have cc:=(zA HCL) c e4
    have hgl:go < wr.heap.size:=(zA HGO).2
    have hgn:go ≠ wr.heap.size:=by omega
    obtain ⟨hba1,hba2⟩:=(zA HBD) a (by omega)
    obtain ⟨hbc1,hbc2⟩:=(zA HBD) c (by omega)
    have haI:(a:Int) < (k:Int):=by omega
    have hcI:(c:Int) < (k:Int):=by omega
    rw [e1] at a2
    rw [e2] at a3
    by_cases hg:atI H a < atI H c
    ·have HVE:=zB (show atI H k = atI H c + 1 by omega)
     clear k2 e5 e1 e2 hb1
     go_wp2_with (first | (go_at_call 55; refine (zU (zA HKK) 2 rfl _).mono ?_; rintro e w' ⟨rfl,hx⟩; obtain rfl:=hx.symm) | (at_builtin; refine wpList_append_own _ rfl (.tmp 47) (.tmp 50) 79 rfl (w.heap.size + 1) 3 i0 _ 1 8 Tryz.underlying79 (zA HI0) (zA HZ0).1 (zA HZ0).2.1 (zA HZ0).2.2 rfl (by decide) _ k (za (H.take k)) rfl (((zA hown).alloc _).alloc _) ⟨wr.heap.size + 1,0,none⟩ 1 1 (za [atI H c + 1]) rfl rfl (by simpa using zBv (wr.alloc (.cells #[.int .i64 (atN ns k).k,.string (atN ns k).t,.int .i64 (a:Int),.int .i64 (c:Int)] 81)) (atI H c + 1)) (zAA _) ?b1 ?b2 ?b3 ?next))
     case b1=>unfold maxLen; omega
     case b2=>omega
     case b3=>simp; omega
     case next=>
      intro v4 w4 hown4 hgrow4 hnil4
      have hbel4:Below (w.heap.size + 1) (w.alloc (.cells #[.slice (some ⟨bn,0,none⟩) ns.length cn] 28)) w4:=(((zA hbel).alloc (by omega) _).alloc (by simp; omega) _).grown hgrow4 (by simp; omega) (fun q hq=>by have:=(zA HGO).1; simp [Value.ownBlock] at hq; omega)
      have z4:w.heap.size + 1 < w4.heap.size:=by have:=hgrow4.size; simp at this; omega
      obtain ⟨g4,c4,rfl⟩:=zAF hown4 (by simp [hnil4])
      rw [<- Zm,<- zA HVE,<- zA HTK] at hown4
      have HO4:=zB hown4
      have HB4:=zB hbel4
      clear hown4 hgrow4 hnil4 hbel4
      go_wp2_with fail
      exact ⟨⟨k + 1,g4,c4,by omega,by go_num,rfl,HO4,HB4,z4⟩,by simp [intOf]; omega⟩
    ·have HVE:=zB (show atI H k = atI H a + 1 by omega)
     clear k2 e5 e1 e2 hb1
     go_wp2_with (first | (go_at_call 55; refine (zU (zA HKK) 2 rfl _).mono ?_; rintro e w' ⟨rfl,hx⟩; obtain rfl:=hx.symm) | (at_builtin; refine wpList_append_own _ rfl (.tmp 47) (.tmp 50) 79 rfl (w.heap.size + 1) 3 i0 _ 1 8 Tryz.underlying79 (zA HI0) (zA HZ0).1 (zA HZ0).2.1 (zA HZ0).2.2 rfl (by decide) _ k (za (H.take k)) rfl (((zA hown).alloc _).alloc _) ⟨wr.heap.size + 1,0,none⟩ 1 1 (za [atI H a + 1]) rfl rfl (by simpa using zBv (wr.alloc (.cells #[.int .i64 (atN ns k).k,.string (atN ns k).t,.int .i64 (a:Int),.int .i64 (c:Int)] 81)) (atI H a + 1)) (zAA _) ?b1 ?b2 ?b3 ?next))
     case b1=>unfold maxLen; omega
     case b2=>omega
     case b3=>simp; omega
     case next=>
      intro v4 w4 hown4 hgrow4 hnil4
      have hbel4:Below (w.heap.size + 1) (w.alloc (.cells #[.slice (some ⟨bn,0,none⟩) ns.length cn] 28)) w4:=(((zA hbel).alloc (by omega) _).alloc (by simp; omega) _).grown hgrow4 (by simp; omega) (fun q hq=>by have:=(zA HGO).1; simp [Value.ownBlock] at hq; omega)
      have z4:w.heap.size + 1 < w4.heap.size:=by have:=hgrow4.size; simp at this; omega
      obtain ⟨g4,c4,rfl⟩:=zAF hown4 (by simp [hnil4])
      rw [<- Zm,<- zA HVE,<- zA HTK] at hown4
      have HO4:=zB hown4
      have HB4:=zB hbel4
      clear hown4 hgrow4 hnil4 hbel4
      go_wp2_with fail
      exact ⟨⟨k + 1,g4,c4,by omega,by go_num,rfl,HO4,HB4,z4⟩,by simp [intOf]; omega⟩
  ·have hltI:¬ (k:Int) < (ns.length:Int):=by omega
   have e:k = ns.length:=by omega
   subst e
   have hlast:=(zA HFI).2.2 (ns.length - 1) (by rw [zA HLK]; omega)
   rw [zIO (by omega)] at hlast
   have ec:((ns.length:Int) - 1) = ((ns.length - 1:Nat):Int):=by omega
   have hs1:((ns.length:Int) - 1) < (ns.length:Int):=by omega
   have hs0:(0:Int) <= (ns.length:Int) - 1:=by omega
   have et:((ns.length:Int) - 1).toNat = ns.length - 1:=by omega
   go_wp2_with fail
   go_ret
   exact ⟨rfl,hbw⟩
theorem zL1:∀ (T:ET) (x:Int),x ∈ hL T -> 0 <= x /\ x <= (tsz T:Int)
 | .nil,x,h=>by simp [hL] at h
 | .node b o t l r,x,h=>by
  simp only [hL,List.mem_append,List.mem_singleton] at h
  simp only [tsz]
  rcases h with (h | h) | h
  ·have:=zL1 l x h; omega
  ·have:=zL1 r x h; omega
  ·have:=zIB l
   have:=zIB r
   subst h
   omega
theorem zMt (T:ET) {i:Nat} (h:i < tsz T):0 <= atI (hL T) i /\ atI (hL T) i <= (tsz T:Int):=by
 have hl:=zDF T
 refine zL1 T _ ?_
 unfold atI
 rw [List.getD_eq_getElem?_getD,List.getElem?_eq_getElem (by omega)]
 exact List.getElem_mem _
theorem zI7 (bn cn:Nat) (us:List zD) (T:ET) (w:World) (hS:Sh T) (hx:us = nd T 0) (hul:us.length <= 50000) (hw:Zc w bn 0 us) (hB:bn < w.heap.size) :
  Calls Tryz.prog 12 #[.agg #[.slice (some ⟨bn,0,none⟩) us.length cn]] w fun e w'=>e = .returned (.int .i64 (hT T:Int)) /\ Below w.heap.size w w':=by
 have htz:tsz T = us.length:=by rw [hx,zg]
 have h1:1 <= us.length:=by rw [<- htz]; exact Sh.pos hS
 have hb:=zC w (.cells #[.slice (some ⟨bn,0,none⟩) us.length cn] 28)
 have HX:=zB (zHa bn cn us (hL T) _ (hw.below hb hB) (Nat.lt_of_lt_of_le hB hb.size) (by omega) h1 (by rw [zDF,htz]) (fun i hi=>by rw [hx]; exact zL0 T hS 0 i (by omega)) (fun i hi=>by have:=zMt T (i:=i) (by omega); omega))
 have hlast:atI (hL T) (us.length - 1) = (hT T:Int):=by rw [<- htz]; exact zE3 hS
 rw [hlast] at HX
 obtain ⟨hh,hhe⟩:∃ hh,hh = hT T:=⟨_,rfl⟩
 rw [<- hhe] at HX ⊢
 have HB:=zB hb
 clear hlast hhe hx hw hb htz
 go_enter Tryz.func12,Tryz.ntmps12
 go_wp2_with fail
 (with_reducible refine (zA HX).mono ?_)
 rintro e w1 ⟨rfl,hb1⟩
 have bel:=(zA HB).trans (hb1.mono (zA HB).size)
 clear hb1 HX HB
 go_wp2_with fail
 go_ret
 exact ⟨rfl,bel⟩
end Go.Proofs.YtfboipappaonhaaGreat
