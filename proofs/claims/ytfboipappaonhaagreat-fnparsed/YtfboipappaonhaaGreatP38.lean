import Derived.Test.YtfboipappaonhaaGreatP02
import Derived.Test.YtfboipappaonhaaGreatP14
import Derived.Test.YtfboipappaonhaaGreatP15
import Derived.Test.YtfboipappaonhaaGreatP32
import Derived.Test.YtfboipappaonhaaGreatP36
import Derived.Test.YtfboipappaonhaaGreatP37
namespace Go.Proofs.YtfboipappaonhaaGreat
set_option linter.unusedSimpArgs false
set_option maxHeartbeats 16000000
set_option maxRecDepth 100000
open Go.RowKit Go.Maps
theorem zIL:(Tryz.prog.info? 3).map (fun i=>(i.zero,i.size,i.bytes)) = some (some (.int .i64 0),1,8):=by kernel_rfl
theorem zCj (w:World) (v:Int):∀ j u,(zT [v])[j]? = some u -> (w.alloc (.cells #[.int .i64 v] 3)).cell? ((⟨w.heap.size,0,none⟩:Addr).add j) = some u:=by
 intro j u hj
 rw [Addr.add_mid]
 have:=World.rangeAt_of_block (w:=w.alloc (.cells #[.int .i64 v] 3)) (b:=w.heap.size) (heap_alloc_new w _) 0 1
 exact this j u (by simpa [zT] using hj)
theorem zKj (ts:List zI):∀ k,zA1 ts k <= k
 | 0=>Nat.le_refl _
 | k + 1=>by
  have:=zKj ts k
  simp only [zA1,zBk]
  split
  ·omega
  ·split <;> omega
theorem zJ9 (xs:List OpR) (ts:List zI) (k:Nat):zP xs ts k = -1 \/ 0 <= zP xs ts k:=by
 unfold zP zq
 (repeat' split) <;> omega
theorem zKA (bo bs b' off' cap':Nat) (xs:List OpR) (ts:List zI) (w:World) (hm:ts.length <= 1048576) (hidx:Idx w bo bs xs xs.length) (hc:zM xs 0) (hw':zCE w b' off' ts) (hst:zLh ts) (hB':b' < w.heap.size) :
  Calls Tryz.prog 81 #[.agg #[.map (some bo),.map (some bs)],.slice (some ⟨b',off',none⟩) ts.length cap'] w fun e w'=>(∃ (a:Option Addr) (c:Nat) (us:List Int) (v:Int),e = .returned (.tuple #[.slice a us.length c,.int .i64 v]) /\ zOb w' w.heap.size a us /\ zKY xs (zM xs 0) ts us v) /\ Below w.heap.size w w':=by
 have HT:=zB hw'
 have HST:=zB hst
 have HC:=zB hc
 have HID:=zB hidx
 clear hw' hst hc hidx
 have hmk:∀ W:World,(Instr.makeSlice 79 (.int .i64 0) (.int .i64 (ts.length:Int))).run Tryz.prog W = .ok (.slice (some ⟨W.heap.size,0,none⟩) 0 ts.length) (W.alloc (.cells (madeCells #[.int .i64 0] ts.length) 3)):=by
  obtain ⟨inf,hi,hz⟩:=Option.map_eq_some_iff.1 zIL
  simp only [Prod.mk.injEq] at hz
  obtain ⟨hz,hsz,hby⟩:=hz
  intro W
  have:=run_make (P:=Tryz.prog) W 79 3 inf _ Tryz.underlying79 hi hz .i64 .i64 0 ts.length (by omega) (by omega) (by rw [hby]; omega) (by omega)
  simpa [hsz,Value.cells] using this
 have hbo:bo < w.heap.size:=by obtain ⟨D,hD,_⟩:=(zA HID).ops; exact hD.lt
 have hbs:bs < w.heap.size:=by obtain ⟨D,hD,_⟩:=(zA HID).srts; exact hD.lt
 obtain ⟨i0,hi0,hz0,hz1,hz2⟩:=info_parts zIL
 have HI0:=zB hi0
 have HZ0:=zB (And.intro hz0 (And.intro hz1 hz2))
 clear hi0 hz0 hz1 hz2
 go_enter Tryz.func81,Tryz.ntmps81
 go_wp2_with fail
 clear hmk
 obtain ⟨W0,hW0⟩:∃ W0,W0 = ((w.alloc (.cells #[.map (some bo),.map (some bs)] 69)).alloc (.cells #[.map (some bo),.map (some bs),.bool false,.int .i64 0] 205)).alloc (.cells (madeCells #[.int .i64 0] ts.length) 3):=⟨_,rfl⟩
 have HF0:=zB (show Ft W0 (w.heap.size + 1) bo bs false 0 by
  rw [hW0]
  refine ⟨?_,?_,?_,?_,fun o=>?_⟩ <;> simp [go_sem])
 have HX0:=zB (show Idx W0 bo bs xs xs.length by
  rw [hW0]
  exact (((zA HID).kept (zC _ _)).kept (zC _ _)).kept (zC _ _))
 have HO0:=zB (show W0.ownsRow (w.heap.size + 2) 3 1 (.slice (some ⟨w.heap.size + 1 + 1,0,none⟩) 0 ts.length) 0 (zT []) by
  rw [hW0]
  have h0:=World.ownsRow_made (base:=w.heap.size + 2) (e:=3) (size:=1) ((w.alloc (.cells #[.map (some bo),.map (some bs)] 69)).alloc (.cells #[.map (some bo),.map (some bs),.bool false,.int .i64 0] 205)) (madeCells #[.int .i64 0] ts.length) ts.length (by simp) (by unfold maxLen; omega) (by rw [size_madeCells]; omega)
  simpa [zT] using h0)
 have HB0:=zB (show Below w.heap.size w W0 by
  rw [hW0]
  exact ((zC _ _).alloc (by simp) _).alloc (by simp; omega) _)
 rw [<- hW0]
 clear hW0 HID
 go_loopw [7,19] (fun rv iv wr=>∃ (k g c:Nat),k <= ts.length /\ iv = .int .i64 (k:Int) /\ rv = .slice (some ⟨g,0,none⟩) k c /\ Hid (zAu xs ts k) /\ Hid (Ft wr (w.heap.size + 1) bo bs (zBB xs ts k) (zA1 ts k)) /\ Hid (Idx wr bo bs xs xs.length) /\ Hid (wr.ownsRow (w.heap.size + 2) 3 1 (.slice (some ⟨g,0,none⟩) k c) k (zT (ZT xs ts k))) /\ Hid (Below w.heap.size w wr) /\ Hid (k = ts.length -> ¬ (0 < ts.length /\ (atT ts (ts.length - 1)).k = 7))) (fun _ iv _=>ts.length - (intOf iv).toNat)
 case atStart=>exact ⟨0,w.heap.size + 1 + 1,ts.length,Nat.zero_le _,rfl,rfl,zB (fun i hi=>by omega),HF0,HX0,HO0,HB0,zB (fun h=>by omega)⟩
 case round=>
  clear HF0 HX0 HO0 HB0
  obtain ⟨k,g,c,hk,rfl,rfl,hfit,hft,hix,hown,hbl,hend⟩:=hrel
  by_cases hlt:k < ts.length
  ·obtain ⟨a0,a1,a2⟩:=((zA HT) k hlt).below (zA hbl) hB'
   have hzp:=block_lt_of_cell (zA hft).c0
   have HF1:=zB ((zA hft).kept (zC wr (.cells #[.int .i64 (atT ts k).k,.string (atT ts k).g,.string (atT ts k).t] 97)))
   have HX1:=zB ((zA hix).kept (zC wr (.cells #[.int .i64 (atT ts k).k,.string (atT ts k).g,.string (atT ts k).t] 97)))
   have hop:zA1 ts k <= 1048576:=by
    have:=zKj ts k
    omega
   have hgl:=(zA hown).lt g rfl
   have hlast:(((k:Int) == (ts.length:Int) - 1)) = decide (k + 1 = ts.length):=by
    rw [Bool.eq_iff_iff]; simp; omega
   go_wp2_with fail
   refine (zMu (w.heap.size + 1) bo bs (zA1 ts k) (zBB xs ts k) (decide (k + 1 = ts.length)) xs (atT ts k) _ (zA HF1) (zA HX1) ((zA HST) k hlt).2 hop).mono ?_
   rintro e w2 ⟨rfl,hs2,hk2⟩
   have HR:=zB (show zq xs (decide (k + 1 = ts.length)) (atT ts k) (zBB xs ts k) (zA1 ts k) = zP xs ts k from rfl)
   rw [zA HR] at hs2 ⊢
   have hrng:=zJ9 xs ts k
   have zr:wr.heap.size < w2.heap.size:=by have:=hk2.size; simp at this; omega
   have q0:w2.cell? ⟨wr.heap.size,0,none⟩ = some (.int .i64 (atT ts k).k):=by rw [hk2.cell (by simp) (by omega)]; simp [go_sem]
   have HX2:=zB ((zA HX1).of_blocks (hk2.block bo (by simp; omega) (by omega)) (hk2.block bs (by simp; omega) (by omega)))
   have HO2:=zB ((((zA hown).alloc (.cells #[.int .i64 (atT ts k).k,.string (atT ts k).g,.string (atT ts k).t] 97))).kept (zU hk2) (Or.inr (by simp [Value.ownBlock]; omega)))
   have HB2:=zB (((zA hbl).alloc (zA hbl).size (.cells #[.int .i64 (atT ts k).k,.string (atT ts k).g,.string (atT ts k).t] 97)).trans (hk2.below (by have:=(zA hbl).size; simp; omega) (by omega)))
   have HS2:=zB hs2
   have hz2:=(zA HB2).size
   clear hs2 hk2 hown hbl HX1 HF1 hix hft
   by_cases hr:zP xs ts k = -1
   ·have HRR:=zB hr
    have hr':(zP xs ts k == -1) = true:=by simpa using hr
    clear hr hrng
    go_wp2_with fail
    go_ret2
    exact ⟨⟨none,0,[],(k:Int),rfl,Or.inl ⟨rfl,rfl⟩,Or.inr ⟨zA HC,Or.inl ⟨k,hlt,zA hfit,by have:=zA HRR; omega,rfl,rfl⟩⟩⟩,zA HB2⟩
   have hr':(zP xs ts k == -1) = false:=by simpa using hr
   have hr0:0 <= zP xs ts k:=by omega
   have HFT:=zB (show Ft w2 (w.heap.size + 1) bo bs (zBB xs ts (k + 1)) (zA1 ts (k + 1)) from (zA HS2) hr0)
   have HFI:=zB (show zAu xs ts (k + 1) from fun i hi=>by
    by_cases e:i = k
    ·subst e; exact hr0
    ·exact (zA hfit) i (by omega))
   clear hr hrng HS2 hfit
   go_wp2_with (at_builtin; refine wpList_append_own _ rfl (.tmp 35) (.tmp 37) 79 rfl (w.heap.size + 2) 3 i0 _ 1 8 Tryz.underlying79 (zA HI0) (zA HZ0).1 (zA HZ0).2.1 (zA HZ0).2.2 rfl (by decide) _ k (zT (ZT xs ts k)) rfl ((zA HO2).alloc _) ⟨w2.heap.size,0,none⟩ 1 1 (zT [zP xs ts k]) rfl rfl (zCj w2 (zP xs ts k)) (zAX _) ?b1 ?b2 ?b3 ?next)
   case b1=>unfold maxLen; omega
   case b2=>omega
   case b3=>simp; omega
   case next=>
    intro v4 w4 hown4 hgrow4 hnil4
    have hbel4:Below w.heap.size w w4:=((zA HB2).alloc (by omega) _).grown hgrow4 (by simp; omega) (fun q hq=>by simp [Value.ownBlock] at hq; omega)
    have hfar:∀ bb,bb < w2.heap.size -> bb ≠ g -> w4.heap[bb]? = w2.heap[bb]?:=fun bb h1 h2=>(hgrow4.block bb (by simp; omega) (by simp [Value.ownBlock]; omega)).trans ((zC w2 _).block bb h1)
    have q4:w4.cell? ⟨wr.heap.size,0,none⟩ = some (.int .i64 (atT ts k).k):=(World.cell?_of_block (hfar wr.heap.size zr (by omega))).trans q0
    have HX4:=zB ((zA HX2).of_blocks (hfar bo (by omega) (by omega)) (hfar bs (by omega) (by omega)))
    have hp2:w.heap.size + 1 < w2.heap.size:=by omega
    have HF4:=zB (show Ft w4 (w.heap.size + 1) bo bs (zBB xs ts (k + 1)) (zA1 ts (k + 1)) from by
     have e:=fun o=>World.cell?_of_block (w:=w2) (a:=⟨w.heap.size + 1,o,none⟩) (hfar (w.heap.size + 1) hp2 (by omega))
     have f:=fun o=>World.frozen?_of_block (w:=w2) (a:=⟨w.heap.size + 1,o,none⟩) (hfar (w.heap.size + 1) hp2 (by omega))
     have h:=zA HFT
     exact ⟨(e _).trans h.c0,(e _).trans h.c1,(e _).trans h.c2,(e _).trans h.c3,fun o=>(f o).trans (h.fz o)⟩)
    obtain ⟨g4,c4,rfl⟩:=ZQ hown4 (by simp [hnil4])
    rw [<- Zz,<- zEK] at hown4
    have HO4:=zB hown4
    have HB4:=zB hbel4
    clear hown4 hgrow4 hnil4 hfar hbel4 HO2 HX2 HFT HB2
    by_cases hl:k + 1 = ts.length
    ·have hl':decide (k + 1 = ts.length) = true:=decide_eq_true hl
     by_cases h7:(atT ts k).k = 7
     ·have h7':((atT ts k).k == 7) = true:=by simpa using h7
      have H7:=zB h7
      have HL:=zB hl
      clear h7 hl
      go_wp2_with fail
      go_ret2
      have hl:=zA HL
      have ho:=zA HO4
      have hlen:(ZT xs ts (k + 1)).length = k + 1:=Zu _ _ _
      rw [<- hlen] at ho
      obtain ⟨hg,hf⟩:=zC6 (by rw [hlen] at ho ⊢; exact ho)
      refine ⟨⟨some ⟨g4,0,none⟩,c4,ZT xs ts (k + 1),-1,by rw [hlen]; first | rfl | (rw [hl]; rfl),Or.inr ⟨g4,rfl,by omega,hf⟩,Or.inr ⟨zA HC,Or.inr ⟨hl ▸ zA HFI,Or.inl ⟨⟨by omega,?_⟩,by rw [hl],rfl⟩⟩⟩⟩,zA HB4⟩
      rw [<- hl]
      exact zA H7
     ·have h7':((atT ts k).k == 7) = false:=by simpa using h7
      have HE:=zB (show k + 1 = ts.length -> ¬ (0 < ts.length /\ (atT ts (ts.length - 1)).k = 7) from fun e=>by
       rw [<- e]
       exact fun h=>h7 h.2)
      have HL:=zB hl
      clear hl
      go_wp2_with fail
      have hl:=zA HL
      exact ⟨⟨k + 1,g4,c4,by omega,by go_num,by first | rfl | (rw [hl]),HFI,HF4,HX4,HO4,HB4,HE⟩,by simp [intOf]; omega⟩
    ·have hl':decide (k + 1 = ts.length) = false:=decide_eq_false hl
     have HE:=zB (show k + 1 = ts.length -> ¬ (0 < ts.length /\ (atT ts (ts.length - 1)).k = 7) from fun e=>absurd e hl)
     go_wp2_with fail
     exact ⟨⟨k + 1,g4,c4,by omega,by go_num,rfl,HFI,HF4,HX4,HO4,HB4,HE⟩,by simp [intOf]; omega⟩
  ·have HX:=zB (show k = ts.length by omega)
   go_wp2_with fail
   go_ret2
   have e:=zA HX
   subst e
   exact ⟨⟨none,0,[],(ts.length:Int),rfl,Or.inl ⟨rfl,rfl⟩,Or.inr ⟨zA HC,Or.inr ⟨zA hfit,Or.inr ⟨(zA hend) rfl,rfl,rfl⟩⟩⟩⟩,zA hbl⟩
end Go.Proofs.YtfboipappaonhaaGreat
namespace Go.Proofs.YtfboipappaonhaaGreat
set_option linter.unusedSimpArgs false
set_option linter.unusedVariables false
set_option maxHeartbeats 16000000
set_option maxRecDepth 100000
open Go.RowKit
def hL:ET -> List Int
 | .nil=>[]
 | .node _ _ _ l r=>hL l ++ hL r ++ [((1 + max (hT l) (hT r):Nat):Int)]
theorem zDz:∀ T:ET,(hL T).length = tsz T
 | .nil=>rfl
 | .node _ _ _ l r=>by simp [hL,tsz,zDz l,zDz r]; omega
theorem zEZ {a b:List Int} {i:Nat} (h:i < a.length):atI (a ++ b) i = atI a i:=by
 simp [atI,List.getD,List.getElem?_append,h]
theorem zEa {a b:List Int} {i:Nat} (h:a.length <= i):atI (a ++ b) i = atI b (i - a.length):=by
 simp [atI,List.getD,List.getElem?_append_right h]
theorem zJL {a b:List zD} {i:Nat} (h:i < a.length):atN (a ++ b) i = atN a i:=by
 simp [atN,List.getD,List.getElem?_append,h]
theorem zJM {a b:List zD} {i:Nat} (h:a.length <= i):atN (a ++ b) i = atN b (i - a.length):=by
 simp [atN,List.getD,List.getElem?_append_right h]
theorem zFg:∀ {T:ET},Sh T -> atI (hL T) (tsz T - 1) = (hT T:Int)
 | .nil,h=>h.elim
 | .node b o t l r,_=>by
  have e:tsz (.node b o t l r:ET) - 1 = (hL l ++ hL r).length:=by simp [tsz,zDz]
  rw [e]
  simp only [hL,hT]
  rw [zEa (Nat.le_refl _)]
  simp [atI]
def zMv (n:zD) (H:List Int) (s i:Nat):Prop:=
 (zR n.k = 0 /\ atI H i = 1) \/ (zR n.k = 1 /\ ∃ a,n.a = ((s + a:Nat):Int) /\ a < i /\ atI H i = atI H a + 1) \/
 (zR n.k = 2 /\ ∃ a c,n.a = ((s + a:Nat):Int) /\ n.b = ((s + c:Nat):Int) /\ a < i /\ c < i /\ atI H i = max (atI H a) (atI H c) + 1)
theorem zMw:∀ (T:ET),Sh T -> ∀ (s i:Nat),i < tsz T -> zMv (atN (nd T s) i) (hL T) s i
 | .nil,h,_,_,_=>h.elim
 | .node b o t l r,h,s,i,hi=>by
  simp only [tsz] at hi
  have el:=zDz l
  have er:=zDz r
  have nl:=ze l s
  have nr:=ze r (s + tsz l)
  by_cases h1:i < tsz l
  ·have hsl:Sh l:=by
    rcases h.2 with ⟨_,rfl,_⟩ | ⟨_,hl,_⟩ | ⟨_,hl,_⟩
    ·simp [tsz] at h1
    ·exact hl
    ·exact hl
   have ih:=zMw l hsl s i h1
   have en:atN (nd (.node b o t l r) s) i = atN (nd l s) i:=by
    simp only [nd]; rw [List.append_assoc,zJL (by omega)]
   have eH:∀ k,k < tsz l -> atI (hL (.node b o t l r)) k = atI (hL l) k:=fun k hk=>by
    simp only [hL]; rw [List.append_assoc,zEZ (by omega)]
   unfold zMv
   rw [en]
   rcases ih with ⟨k0,e⟩ | ⟨k1,a,e1,e2,e3⟩ | ⟨k2,a,c,e1,e2,e3,e4,e5⟩
   ·exact Or.inl ⟨k0,by rw [eH i h1]; exact e⟩
   ·exact Or.inr (Or.inl ⟨k1,a,e1,e2,by rw [eH i h1,eH a (by omega)]; exact e3⟩)
   ·exact Or.inr (Or.inr ⟨k2,a,c,e1,e2,e3,e4,by rw [eH i h1,eH a (by omega),eH c (by omega)]; exact e5⟩)
  ·by_cases h2:i < tsz l + tsz r
   ·have hsr:Sh r:=by
     rcases h.2 with ⟨_,rfl,rfl⟩ | ⟨_,hl,rfl⟩ | ⟨_,_,hr⟩
     ·simp [tsz] at h2
     ·simp [tsz] at h2; omega
     ·exact hr
    have ih:=zMw r hsr (s + tsz l) (i - tsz l) (by omega)
    have en:atN (nd (.node b o t l r) s) i = atN (nd r (s + tsz l)) (i - tsz l):=by
     simp only [nd]; rw [List.append_assoc,zJM (by omega),nl,zJL (by omega)]
    have eH:∀ k,k < tsz r -> atI (hL (.node b o t l r)) (tsz l + k) = atI (hL r) k:=fun k hk=>by
     simp only [hL]; rw [List.append_assoc,zEa (by omega),el,zEZ (by omega)]; congr 1; omega
    have ei:i = tsz l + (i - tsz l):=by omega
    unfold zMv
    rw [en]
    rcases ih with ⟨k0,e⟩ | ⟨k1,a,e1,e2,e3⟩ | ⟨k2,a,c,e1,e2,e3,e4,e5⟩
    ·exact Or.inl ⟨k0,by rw [ei,eH _ (by omega)]; exact e⟩
    ·refine Or.inr (Or.inl ⟨k1,tsz l + a,by rw [e1]; congr 1; omega,by omega,?_⟩)
     conv=>lhs; rw [ei]
     rw [eH _ (by omega),eH a (by omega)]; exact e3
    ·refine Or.inr (Or.inr ⟨k2,tsz l + a,tsz l + c,by rw [e1]; congr 1; omega,by rw [e2]; congr 1; omega,by omega,by omega,?_⟩)
     conv=>lhs; rw [ei]
     rw [eH _ (by omega),eH a (by omega),eH c (by omega)]; exact e5
   ·have ei:i = tsz l + tsz r:=by omega
    have en:atN (nd (.node b o t l r) s) i = tN b t l r s:=by
     simp only [nd]; rw [zJM (by simp; omega)]
     have:i - (nd l s ++ nd r (s + tsz l)).length = 0:=by simp; omega
     rw [this]; rfl
    have eI:atI (hL (.node b o t l r)) i = ((1 + max (hT l) (hT r):Nat):Int):=by
     simp only [hL]; rw [zEa (by simp; omega)]
     have:i - (hL l ++ hL r).length = 0:=by simp; omega
     rw [this]; rfl
    unfold zMv
    rw [en,eI]
    rcases h.2 with ⟨k0,rfl,rfl⟩ | ⟨k1,hl,rfl⟩ | ⟨k2,hl,hr⟩
    ·exact Or.inl ⟨k0,rfl⟩
    ·have hp:=Sh.pos hl
     refine Or.inr (Or.inl ⟨k1,tsz l - 1,?_,by omega,?_⟩)
     ·simp only [tN,k1]
      rw [if_neg (by decide)]
      omega
     ·have e:atI (hL (.node b o t l .nil)) (tsz l - 1) = (hT l:Int):=by
       simp only [hL]; rw [List.append_assoc,zEZ (by omega)]; exact zFg hl
      rw [e]
      simp only [hT]
      omega
    ·have hp:=Sh.pos hl
     have hp2:=Sh.pos hr
     refine Or.inr (Or.inr ⟨k2,tsz l - 1,tsz l + tsz r - 1,?_,?_,by omega,by omega,?_⟩)
     ·simp only [tN,k2]
      rw [if_neg (by decide)]
      omega
     ·simp only [tN,k2]
      rw [if_pos trivial]
      omega
     ·have e:atI (hL (.node b o t l r)) (tsz l - 1) = (hT l:Int):=by
       simp only [hL]; rw [List.append_assoc,zEZ (by omega)]; exact zFg hl
      have e2:atI (hL (.node b o t l r)) (tsz l + tsz r - 1) = (hT r:Int):=by
       simp only [hL]; rw [List.append_assoc,zEa (by omega),el,zEZ (by omega)]
       have:tsz l + tsz r - 1 - tsz l = tsz r - 1:=by omega
       rw [this]
       exact zFg hr
      rw [e,e2]
      omega
theorem zMx:∀ (T:ET) (x:Int),x ∈ hL T -> 0 <= x /\ x <= (tsz T:Int)
 | .nil,x,h=>by simp [hL] at h
 | .node b o t l r,x,h=>by
  simp only [hL,List.mem_append,List.mem_singleton] at h
  simp only [tsz]
  rcases h with (h | h) | h
  ·have:=zMx l x h; omega
  ·have:=zMx r x h; omega
  ·have:=zIy l
   have:=zIy r
   subst h
   omega
theorem zNr (T:ET) {i:Nat} (h:i < tsz T):0 <= atI (hL T) i /\ atI (hL T) i <= (tsz T:Int):=by
 have hl:=zDz T
 refine zMx T _ ?_
 unfold atI
 rw [List.getD_eq_getElem?_getD,List.getElem?_eq_getElem (by omega)]
 exact List.getElem_mem _
end Go.Proofs.YtfboipappaonhaaGreat
namespace Go.Proofs.YtfboipappaonhaaGreat
set_option linter.unusedSimpArgs false
set_option linter.unusedVariables false
set_option maxHeartbeats 16000000
set_option maxRecDepth 100000
theorem zBr {ns:List OpR} {ts:List zI} {i n:Nat} (h:i < n):atI (ZT ns ts n) i = zP ns ts i:=by
 simp [atI,ZT,List.getD,h]
def TkF (ns:List OpR) (ts:List zI) (i:Nat):Prop:=
 ((atT ts i).k = 3 /\ (1 <= zP ns ts i /\ zP ns ts i <= 3) /\ sgT ns ts i = ((zP ns ts i).toNat + 2,(atT ts i).t) /\ ∃ j,fnd ns (atT ts i).t (zP ns ts i) = some j /\ sLv ns (sgT ns ts i) = (atO ns j).l /\ sSo ns (sgT ns ts i) = srt (atO ns j).k (atO ns j).sd) \/
 ((atT ts i).k ≠ 3 /\ zP ns ts i = 0 /\ ¬ (3 <= (sgT ns ts i).1 /\ (sgT ns ts i).1 <= 5))
theorem zO4 {ns:List OpR} {t:ByteArray} {r:Int} (h:za ns t r = true) (hr:1 <= r /\ r <= 3):∃ j,fnd ns t r = some j /\ sLv ns (r.toNat + 2,t) = (atO ns j).l /\ sSo ns (r.toNat + 2,t) = srt (atO ns j).k (atO ns j).sd:=by
 have e:((r.toNat + 2:Nat):Int) - 2 = r:=by omega
 have hk:=zCy h e
 cases hf:fnd ns t r with
 | none=>
  unfold knB at hk
  rw [e,hf] at hk
  cases hk
 | some j=>
  have hA:opA ns (rt (r.toNat + 2) t) = atO ns j:=by
   unfold opA
   simp only [rt]
   rw [e,hf]
  refine ⟨j,rfl,?_,?_⟩
  ·rw [zC0 (by omega) hk,hA]
  ·unfold sSo
   simp only
   rw [hA]
theorem zOe {ns:List OpR} {ts:List zI} {i:Nat} (hr:0 <= zP ns ts i):TkF ns ts i:=by
 unfold TkF
 have key:((atT ts i).k = 3 /\ ((zP ns ts i = 1 /\ za ns (atT ts i).t 1 = true) \/ (zP ns ts i = 2 /\ za ns (atT ts i).t 2 = true) \/ (zP ns ts i = 3 /\ za ns (atT ts i).t 3 = true))) \/
   (((atT ts i).k = 1 \/ (atT ts i).k = 2 \/ (atT ts i).k = 4 \/ (atT ts i).k = 5 \/ (atT ts i).k = 7) /\ zP ns ts i = 0):=by
  unfold zP at hr ⊢
  generalize atT ts i = t at hr ⊢
  generalize zA1 ts i = op at hr ⊢
  generalize decide (i + 1 = ts.length) = la at hr ⊢
  generalize zBB ns ts i = bh at hr ⊢
  cases bh
  ·rw [zEM] at hr ⊢
   by_cases k1:t.k = 1 \/ t.k = 2 \/ t.k = 4
   ·rw [if_pos k1]; exact Or.inr ⟨by omega,rfl⟩
   ·rw [if_neg k1] at hr ⊢
    by_cases c:t.k = 3 /\ za ns t.t 1 = true
    ·rw [if_pos c]; exact Or.inl ⟨c.1,Or.inl ⟨rfl,c.2⟩⟩
    ·rw [if_neg c] at hr; omega
  ·rw [zDK] at hr ⊢
   by_cases c2:t.k = 3 /\ za ns t.t 2 = true
   ·rw [if_pos c2]; exact Or.inl ⟨c2.1,Or.inr (Or.inl ⟨rfl,c2.2⟩)⟩
   ·rw [if_neg c2] at hr ⊢
    by_cases c3:t.k = 3 /\ za ns t.t 3 = true
    ·rw [if_pos c3]; exact Or.inl ⟨c3.1,Or.inr (Or.inr ⟨rfl,c3.2⟩)⟩
    ·rw [if_neg c3] at hr ⊢
     by_cases c5:t.k = 5 /\ 0 < op
     ·rw [if_pos c5]; exact Or.inr ⟨by omega,rfl⟩
     ·rw [if_neg c5] at hr ⊢
      by_cases c7:t.k = 7 /\ op = 0 /\ la = true
      ·rw [if_pos c7]; exact Or.inr ⟨by omega,rfl⟩
      ·rw [if_neg c7] at hr; omega
 rcases key with ⟨k3,h⟩ | ⟨hk,h0⟩
 ·left
  have es:sgT ns ts i = ((zP ns ts i).toNat + 2,(atT ts i).t):=by unfold sgT; rw [if_pos k3]
  have hb:za ns (atT ts i).t (zP ns ts i) = true /\ 1 <= zP ns ts i /\ zP ns ts i <= 3:=by
   rcases h with ⟨e,h⟩ | ⟨e,h⟩ | ⟨e,h⟩ <;> rw [e] <;> exact ⟨h,by decide,by decide⟩
  refine ⟨k3,hb.2,es,?_⟩
  rw [es]
  exact zO4 hb.1 hb.2
 ·right
  refine ⟨by omega,h0,?_⟩
  unfold sgT
  rw [if_neg (by omega)]
  by_cases k4:(atT ts i).k = 4
  ·rw [if_pos k4]; decide
  ·rw [if_neg k4]
   by_cases k5:(atT ts i).k = 5
   ·rw [if_pos k5]; decide
   ·rw [if_neg k5]
    by_cases k7:(atT ts i).k = 7
    ·rw [if_pos k7]; decide
    ·rw [if_neg k7]
     simp only
     omega
theorem zOf {ns:List OpR} {ts:List zI} {i:Nat} (h:TkF ns ts i) (hk:1 <= (atT ts i).k /\ (atT ts i).k <= 7 /\ (atT ts i).k ≠ 6) (op:Int):opS op (sgT ns ts i) = op + (if (atT ts i).k = 4 then 1 else 0) - (if (atT ts i).k = 5 then 1 else 0):=by
 rcases h with ⟨k3,hr,es,_⟩ | ⟨k3,h0,hn⟩
 ·rw [zh (by rw [es]; simp only; omega),if_neg (by omega),if_neg (by omega)]; omega
 ·unfold sgT
  rw [if_neg k3]
  by_cases k4:(atT ts i).k = 4
  ·rw [if_pos k4,zBa,if_pos k4,if_neg (by omega)]; omega
  ·rw [if_neg k4]
   by_cases k5:(atT ts i).k = 5
   ·rw [if_pos k5,zDW,if_neg k4,if_pos k5]; omega
   ·rw [if_neg k5,if_neg k4,if_neg k5]
    by_cases k7:(atT ts i).k = 7
    ·rw [if_pos k7,zh (by decide)]; omega
    ·rw [if_neg k7,zh (by simp only; omega)]; omega
theorem zOg (op:Int) (s:SyR):op - 1 <= opS op s /\ opS op s <= op + 1:=by
 unfold opS
 split <;> split <;> omega
theorem zMy:∀ (ss:List SyR) (op:Int),op - (ss.length:Int) <= opL op ss /\ opL op ss <= op + (ss.length:Int)
 | [],op=>by simp [opL]
 | s :: r,op=>by
  rw [Zi]
  have h1:=zMy r (opS op s)
  have h2:=zOg op s
  simp only [List.length_cons]
  omega
def zCN (x:Option (Nat × SyR)):Int:=match x with
 | none=>-1
 | some x=>(x.1:Int)
theorem zNs (ns:List OpR) (ts:List zI) (a n:Nat):rtF ns (sgs ns ts a (n + 1)) a 0 none = (if opS (opL 0 (sgs ns ts a n)) (sgT ns ts (a + n)) ≠ 0 \/ ¬ (3 <= (sgT ns ts (a + n)).1 /\ (sgT ns ts (a + n)).1 <= 5) then rtF ns (sgs ns ts a n) a 0 none else zA9 ns (rtF ns (sgs ns ts a n) a 0 none) (a + n,sgT ns ts (a + n))):=by
 rw [zB4,ZB,zAA]
 rfl
theorem zKk (ns:List OpR) (ts:List zI) (a n:Nat):opL 0 (sgs ns ts a (n + 1)) = opS (opL 0 (sgs ns ts a n)) (sgT ns ts (a + n)):=by
 rw [zB4,zB1]
 rfl
theorem zKl {ns:List OpR} {ts:List zI} {a n:Nat} {L R:List SyR} {s:SyR} (h:sgs ns ts a n = L ++ s :: R):s = sgT ns ts (a + L.length) /\ L.length < n /\ L = sgs ns ts a L.length /\ R = sgs ns ts (a + L.length + 1) (n - L.length - 1):=by
 have hl:=congrArg List.length h
 rw [zAA,List.length_append,List.length_cons] at hl
 have e:n = L.length + (R.length + 1):=by omega
 rw [e,zEL,zDJ] at h
 have h2:=List.append_inj h (by rw [zAA])
 injection h2.2 with h3 h4
 refine ⟨h3.symm,by omega,h2.1.symm,?_⟩
 rw [<- h4]
 congr 1
 omega
theorem zNt {ns:List OpR} {ts:List zI} {a n:Nat} {x:Nat × SyR} (h:rtF ns (sgs ns ts a n) a 0 none = some x):a <= x.1 /\ x.1 < a + n /\ x.2 = sgT ns ts x.1 /\ (3 <= x.2.1 /\ x.2.1 <= 5):=by
 rcases zF2 _ _ _ _ _ h with h | ⟨L,R,h1,h2,h3,_⟩
 ·cases h
 ·have:=zKl h1
  refine ⟨by omega,by omega,?_,h3⟩
  rw [h2]; exact this.1
def shO (k:Nat) (x:Option (Nat × SyR)):Option (Nat × SyR):=x.map (fun x=>(x.1 + k,x.2))
theorem zHT (ns:List OpR) (k:Nat):∀ (ss:List SyR) (i:Nat) (op:Int) (best:Option (Nat × SyR)),rtF ns ss (i + k) op (shO k best) = shO k (rtF ns ss i op best)
 | [],i,op,best=>rfl
 | s :: r,i,op,best=>by
  simp only [rtF]
  have e:i + k + 1 = (i + 1) + k:=by omega
  rw [e]
  rw [<- zHT ns k r]
  congr 1
  split
  ·rfl
  ·cases best with
   | none=>rfl
   | some b=>
    simp only [zA9,shO,Option.map]
    split <;> rfl
theorem zMz (ns:List OpR) (ss:List SyR) (a:Nat):rtF ns ss a 0 none = shO a (rtF ns ss 0 0 none):=by
 have:=zHT ns a ss 0 0 none
 rw [Nat.zero_add] at this
 exact this
end Go.Proofs.YtfboipappaonhaaGreat
namespace Go.Proofs.YtfboipappaonhaaGreat
set_option maxHeartbeats 16000000
set_option maxRecDepth 100000
open Go.RowKit
theorem zGW (b off cap:Nat) (xs:List zI) (w:World) (hm:xs.length + ZF xs xs.length <= 1048576) (hw:zCE w b off xs) (hB:b < w.heap.size) :
  Calls Tryz.prog 106 #[.slice (some ⟨b,off,none⟩) xs.length cap] w fun e w'=>e = .returned (.string ⟨(ZZ xs xs.length).toArray⟩) /\ Below w.heap.size w w':=by
 obtain ⟨i0,hi,hz0,hz1,hz2⟩:=info_parts infoByte
 have HI:=zB hi
 have HZ:=zB (And.intro hz0 (And.intro hz1 hz2))
 have HW:=zB hw
 have HO:=zB (show (w.alloc (.cells #[] 5)).ownsRow w.heap.size 5 1 (.slice (some ⟨w.heap.size,0,none⟩) 0 0) 0 (cellsB (ZZ xs 0)) by
  show (w.alloc (.cells #[] 5)).ownsRow w.heap.size 5 1 (.slice (some ⟨w.heap.size,0,none⟩) 0 0) 0 []
  simpa using World.ownsRow_lit (base:=w.heap.size) (e:=5) (size:=1) w #[] 0 (Nat.le_refl _) (Nat.zero_le _) rfl)
 clear hi hz0 hz1 hz2 hw
 go_enter Tryz.func106,Tryz.ntmps106
 go_wp2
 go_loopw [3,4] (fun out i wr=>∃ (k go co n:Nat),k <= xs.length /\ i = .int .i64 (k:Int) /\ out = .slice (some ⟨go,0,none⟩) n co /\ Hid (n = (ZZ xs k).length) /\ Hid (wr.ownsRow w.heap.size 5 1 (.slice (some ⟨go,0,none⟩) n co) n (cellsB (ZZ xs k))) /\ Below w.heap.size w wr) (fun _ i _=>xs.length - (intOf i).toNat)
 case atStart=>exact ⟨0,w.heap.size,0,0,Nat.zero_le _,rfl,rfl,zB rfl,HO,zC _ _⟩
 case round=>
  clear HO
  obtain ⟨k,go,co,n,hk,rfl,rfl,hn,hown,hbel⟩:=hrel
  by_cases hlt:k < xs.length
  ·have hcell:=((zA HW) k hlt).below hbel hB
   obtain ⟨a0,a1,a2⟩:=hcell
   have hnn:=(zA hn).trans (zB3 xs k)
   have htk:ZF xs (k + 1) <= ZF xs xs.length:=zDI xs _ _ (by omega)
   simp only [ZF,zLi] at htk
   obtain ⟨c1,w1,hrun1,hnew1,hb1⟩:=zFt wr (atT xs k).g
   have HN1:=zB hnew1
   have HB1:=zB hb1
   have b2:=(hb1.cell (p:=⟨b,off + k * 3 + 2,none⟩) (Nat.lt_of_lt_of_le hB hbel.size)).trans a2
   have hown1:=zB ((zA hown).kept (zAH hb1 none) (Or.inr (by simp [Value.ownBlock])))
   have hbel1:=hbel.trans (hb1.mono hbel.size)
   have HNN:=zB hnn
   have hnb:n + (atT xs k).g.size + (atT xs k).t.size <= 1048576:=by omega
   clear hnew1 hb1 hown hnn htk hbel a2
   go_wp2_with (at_builtin; refine wpList_append_own _ rfl (.tmp 12) (.tmp 18) 22 rfl w.heap.size 5 i0 _ 1 1 Tryz.underlying22 (zA HI) (zA HZ).1 (zA HZ).2.1 (zA HZ).2.2 rfl (by decide) _ n (cellsB (ZZ xs k)) rfl (zA hown1) ⟨wr.heap.size,0,none⟩ (atT xs k).g.size c1 (cellsB (atT xs k).g.data.toList) rfl (by rw [ZI]; simp) (zA HN1) (zAQ _) ?b1 ?b2 ?b3 ?next)
   case b1=>unfold maxLen; omega
   case b2=>omega
   case b3=>exact hbel1.size
   case next=>
    intro v2 w2 hown2 hgrow2 hnil2
    have hgo:=(zA hown1).lt go rfl
    have hbel2:Below w.heap.size w w2:=hbel1.grown hgrow2 hbel1.size (fun q hq=>by simp [Value.ownBlock] at hq; omega)
    obtain ⟨g2,q2,rfl⟩:=ZQ hown2 (by simp [hnil2])
    rw [<- zAG] at hown2
    have d2:w2.cell? ⟨b,off + k * 3 + 2,none⟩ = some (.string (atT xs k).t):=hgrow2.cell b2 (by simp [Value.ownBlock]; omega)
    obtain ⟨c3,w3,hrun3,hnew3,hb3⟩:=zFt w2 (atT xs k).t
    have HN3:=zB hnew3
    have hown3:=zB (hown2.kept (zAH hb3 none) (Or.inr (by simp [Value.ownBlock])))
    have hbel3:=hbel2.trans (hb3.mono hbel2.size)
    clear hown2 hgrow2 hnil2 hown1 HN1 HB1 hnew3 hb3 b2 hrun1 a0 a1
    go_wp2_with (at_builtin; refine wpList_append_own _ rfl (.tmp 20) (.tmp 26) 22 rfl w.heap.size 5 i0 _ 1 1 Tryz.underlying22 (zA HI) (zA HZ).1 (zA HZ).2.1 (zA HZ).2.2 rfl (by decide) _ (n + (atT xs k).g.size) _ rfl (zA hown3) ⟨w2.heap.size,0,none⟩ (atT xs k).t.size c3 (cellsB (atT xs k).t.data.toList) rfl (by rw [ZI]; simp) (zA HN3) (zAQ _) ?b1 ?b2 ?b3 ?next)
    case b1=>unfold maxLen; omega
    case b2=>omega
    case b3=>exact hbel3.size
    case next=>
     intro v4 w4 hown4 hgrow4 hnil4
     have hg2:=(zA hown3).lt g2 rfl
     have hbel4:Below w.heap.size w w4:=hbel3.grown hgrow4 hbel3.size (fun q hq=>by simp [Value.ownBlock] at hq; omega)
     obtain ⟨g4,q4,rfl⟩:=ZQ hown4 (by simp [hnil4])
     rw [<- zAG] at hown4
     have HO4:=zB (show w4.ownsRow w.heap.size 5 1 (.slice (some ⟨g4,0,none⟩) (n + (atT xs k).g.size + (atT xs k).t.size) q4) (n + (atT xs k).g.size + (atT xs k).t.size) (cellsB (ZZ xs (k + 1))) from hown4)
     have HL4:=zB (show n + (atT xs k).g.size + (atT xs k).t.size = (ZZ xs (k + 1)).length by rw [zB3]; have:=zA HNN; simp only [ZF,zLi]; omega)
     clear hown4 hgrow4 hnil4 hown3 HN3 HNN hn
     go_wp2
     exact ⟨⟨k + 1,g4,q4,_,by omega,by go_num,rfl,HL4,HO4,hbel4⟩,by simp [intOf]; omega⟩
  ·have hkx:k = xs.length:=by omega
   have hcv:=Z3 wr go n co (ZZ xs k) (zA hn) (zAv (zA hown))
   have HK:=zB hkx
   clear hkx
   go_wp2
   go_ret
   exact ⟨zHZ (by rw [zA HK]),hbel⟩
end Go.Proofs.YtfboipappaonhaaGreat
