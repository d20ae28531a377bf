import Derived.Laws.CopyOwn
import Derived.Test.YtfboipappaonhaaGreatP02
import Derived.Test.YtfboipappaonhaaGreatP03
import Derived.Test.YtfboipappaonhaaGreatP38
import Derived.Test.YtfboipappaonhaaGreatP46
import Derived.Test.YtfboipappaonhaaGreatP47
import Derived.Test.YtfboipappaonhaaGreatP50
namespace Go.Proofs.YtfboipappaonhaaGreat
set_option linter.unusedSimpArgs false
set_option linter.unusedVariables false
set_option maxHeartbeats 16000000
set_option maxRecDepth 100000
open Go.RowKit
def SpF (N b off n cap:Nat) (W:World):Prop:=
 W.cell? ⟨N,0,none⟩ = some (.slice (some ⟨b,off,none⟩) n cap) /\ W.cell? ⟨N + 1,0,none⟩ = some (.slice none 0 0) /\ W.frozen? ⟨N + 1,0,none⟩ = false
theorem SpF.grown {N b off n cap:Nat} {W W':World} {row:Option Nat} (h:SpF N b off n cap W) (hg:W.grownBy W' row) (hr:∀ k,row = some k -> N + 2 <= k):SpF N b off n cap W':=by
 obtain ⟨h0,h1,h2⟩:=h
 have l0:N < W.heap.size:=block_lt_of_cell h0
 have l1:N + 1 < W.heap.size:=block_lt_of_cell h1
 exact ⟨(zG hg l0 (fun e=>by have:=hr _ e; omega) 0).trans h0,(zG hg l1 (fun e=>by have:=hr _ e; omega) 0).trans h1,(World.frozen?_of_block (w:=W) (hg.block (N + 1) l1 (fun e=>by have:=hr _ e.symm; omega))).trans h2⟩
theorem SpF.below {N b off n cap:Nat} {W W':World} (h:SpF N b off n cap W) (hb:Below W.heap.size W W'):SpF N b off n cap W':=h.grown (zS hb none) (fun k hk=>by cases hk)
theorem zM8 {ns:List OpR} {ts:List zI} (hv:zM ns 0) (hf:zAu ns ts ts.length) (hl:0 < ts.length /\ (atT ts (ts.length - 1)).k = 7) {n:Nat} (hn:ts.length <= n) :
  (∀ T,bld ns n (sgs ns ts 0 (ts.length - 1)) = some T -> RD ns 0 none (sgs ns ts 0 ts.length) = some (T,[eoS])) /\ (bld ns n (sgs ns ts 0 (ts.length - 1)) = none -> RD ns 0 none (sgs ns ts 0 ts.length) = none):=by
 obtain ⟨hseg,hend⟩:=zHv hf hl.1 hl.2
 have hb:=fun T=>zOP hv hseg (n:=n) (by rw [zAA]; omega) T
 rw [hend]
 refine ⟨fun T h=>(hb T).1 h,fun h=>?_⟩
 cases hr:RD ns 0 none (sgs ns ts 0 (ts.length - 1) ++ [eoS]) with
 | none=>rfl
 | some y=>
  obtain ⟨T,r⟩:=y
  have hre:=zMA hv hseg hr
  simp only at hre
  rw [hre] at hr
  have:=(hb T).2 hr
  rw [h] at this
  cases this
theorem TF.of {ns:List OpR} {ts:List zI} {s:ByteArray} (hv:zM ns 0) (hs:s.size <= 20000) (hx:ZK ns s 0 ts) (hf:zAu ns ts ts.length) (hno:∀ j,j < ts.length -> (atT ts j).k ≠ 6):TF ns ts (ZT ns ts ts.length) where
 len:=by have:=(zDb hx).2.1; omega
 us:=rfl
 all:=fun i hi=>by
  refine ⟨zOe (hf i hi),?_⟩
  rcases zHt (Z6 (zBQ hv)) ts 0 hx i hi with h | h | h | h | h | h
  ·have:=h.1; exact ⟨by omega,by omega,hno i hi⟩
  ·have:=h.1; exact ⟨by omega,by omega,hno i hi⟩
  ·have:=h.1; exact ⟨by omega,by omega,hno i hi⟩
  ·have:=h.1; exact ⟨by omega,by omega,hno i hi⟩
  ·exact absurd h (hno i hi)
  ·have:=h.1; exact ⟨by omega,by omega,hno i hi⟩
theorem zGu (b off cap:Nat) (xs:List OpR) (s:ByteArray) (w:World) (hmx:xs.length <= 1048576) (hw:Ops w b off xs) (hsz:ZV xs) (hB:b < w.heap.size) (hs:s.size <= 1048576) :
  Calls Tryz.prog 27 #[.agg #[.slice (some ⟨b,off,none⟩) xs.length cap],.string s] w (Zj xs s w):=by
 have HW:=zB hw
 have HS:=zB hsz
 clear hw hsz
 have bel0:Below w.heap.size w ((w.alloc (.cells #[.slice (some ⟨b,off,none⟩) xs.length cap] 25)).alloc (.cells #[.slice none 0 0] 28)):=(zC _ _).alloc (by simp) _
 have HX:=Zo b off cap xs _ hmx ((zA HW).below bel0 hB) (zA HS) (by have:=bel0.size; omega)
 go_enter Tryz.func27,Tryz.ntmps27
 go_wp2_with fail
 refine HX.mono ?_
 clear HX
 rintro e w1 ⟨⟨c,rfl,hc⟩,hb1⟩
 have HC:=zB hc
 have z1:w.heap.size + 2 <= w1.heap.size:=by have:=hb1.size; simp at this; omega
 have bel1:Below w.heap.size w w1:=bel0.trans (hb1.mono bel0.size)
 have HF:=zB (show SpF w.heap.size b off xs.length cap w1 from SpF.below ⟨by simp [go_sem],by simp [go_sem],by simp [go_sem]⟩ hb1)
 obtain ⟨t0,t1,u1⟩:=zA HF
 clear hc hb1 bel0
 by_cases hc0:c = 0
 case neg=>
  have hc0':(c != 0) = true:=by simpa using hc0
  have HN:=zB (show ¬ zM xs 0 from fun h=>hc0 (zAk (zA HC) h))
  clear hc0
  go_wp2_with fail
  refine bodyPost_ret (v:=.tuple #[.agg #[.slice none 0 0],.int .i64 1,.int .i64 0]) ?_ rfl (Zj.empty (Or.inl ⟨zA HN,rfl,rfl,rfl⟩) (bel1.setCell (by simp only; omega) _))
  simp [results,Tryz.results27,go_sem,t1]
 subst hc0
 have HX:=zIJ b off cap xs s w1 hmx ((zA HW).below bel1 hB) (zA HS) (Nat.lt_of_lt_of_le hB bel1.size) (by unfold maxLen; omega)
 go_wp2_with fail
 refine HX.mono ?_
 clear HX t0 t1 u1
 rintro e w2 ⟨⟨g,ct,ts,v,rfl,⟨hg,hct,hcm⟩,hfil,hlex⟩,hb2⟩
 have bel2:=bel1.trans (hb2.mono bel1.size)
 replace HF:=zB ((zA HF).below hb2)
 have hgw:w.heap.size <= g:=by omega
 obtain ⟨t0,t1,u1⟩:=zA HF
 rcases hlex with ⟨⟨_,h20⟩,rfl,hlex⟩ | ⟨hno,rfl,_⟩
 case inr=>
  have HN:=zB (show 20000 < s.size by
   rcases Nat.lt_or_ge 20000 s.size with h | h
   ·exact h
   ·exact absurd ⟨zA HC,h⟩ hno)
  clear hno hfil
  go_wp2_with fail
  refine bodyPost_ret (v:=.tuple #[.agg #[.slice none 0 0],.int .i64 2,.int .i64 0]) ?_ rfl (Zj.empty (Or.inr ⟨zA HC,Or.inl ⟨zA HN,rfl,rfl,rfl⟩⟩) (bel2.setCell (by simp only; omega) _))
  simp [results,Tryz.results27,go_sem,t1]
 have HLX:=zB hlex
 have hg2:g < w2.heap.size:=hfil.1
 have HT:=zB (show zCE w2 g 0 ts from hfil.2.2)
 have HR:=zB (zDb hlex)
 have HZ:=zB (zB7 ts 0 hlex)
 have hm3:ts.length + ZF ts ts.length <= 1048576:=by have:=zA HR; omega
 have hln:ts.length <= 20001:=by have:=zA HR; omega
 have hla:=zBL ts 0 hlex
 have h1l:=hla.1
 have HLA:=zB hla
 clear hfil hlex hb2 hla
 go_wp2_with fail
 go_loop [9] (fun iv=>∃ k:Nat,k <= ts.length /\ iv = .int .i64 (k:Int) /\ Hid (∀ j,j < k -> (atT ts j).k ≠ 6)) (fun iv=>ts.length - (intOf iv).toNat)
 case atStart=>exact ⟨0,Nat.zero_le _,rfl,zB (fun j hj=>absurd hj (Nat.not_lt_zero j))⟩
 case round=>
  obtain ⟨k,hk,rfl,hno⟩:=hrel
  by_cases hlt:k < ts.length
  ·have hltI:(k:Int) < (ts.length:Int):=by omega
   obtain ⟨k0,k1,k2⟩:=(zA HT) k hlt
   rw [Nat.zero_add] at k0 k1 k2
   by_cases h6:(atT ts k).k = 6
   ·have e6:((atT ts k).k == 6) = true:=by rw [h6]; rfl
    have H6:=zB h6
    have HX:=zEb g 0 ct k ts w2 hm3 hlt hct hcm (zA HT) hg2 (by have:=((zA HZ) k hlt).1; omega)
    clear h6
    go_wp2_with fail
    refine HX.mono ?_
    clear HX
    rintro e w3 ⟨rfl,hb3⟩
    have bel3:=bel2.trans (hb3.mono bel2.size)
    obtain ⟨s0,s1,s2⟩:=(zA HF).below hb3
    go_wp2_with fail
    refine bodyPost_ret (v:=.tuple #[.agg #[.slice none 0 0],.int .i64 3,.int .i64 (zFJ ts k:Int)]) ?_ rfl (Zj.empty (Or.inr ⟨zA HC,Or.inr ⟨h20,ts,zA HLX,Or.inl ⟨k,hlt,zA H6,zA hno,rfl,rfl,rfl⟩⟩⟩) (bel3.setCell (by simp only; omega) _))
    simp [results,Tryz.results27,go_sem,s1]
   ·have e6:((atT ts k).k == 6) = false:=by simpa using h6
    have HNX:=zB (show ∀ j,j < k + 1 -> (atT ts j).k ≠ 6 from fun j hj=>by
     by_cases e:j = k
     ·subst e; exact h6
     ·exact (zA hno) j (by omega))
    clear h6
    go_wp2_with fail
    exact ⟨⟨k + 1,by omega,by go_num,HNX⟩,by simp [intOf]; omega⟩
  ·have hltI:¬ (k:Int) < (ts.length:Int):=by omega
   have e:k = ts.length:=by omega
   subst e
   have HX:=zGp b off cap g 0 ct xs ts w2 hmx (by omega) ((zA HW).below bel2 hB) (zA HS) (Nat.lt_of_lt_of_le hB bel2.size) (zA HT) hg2
   go_wp2_with fail
   refine HX.mono ?_
   clear HX t0 t1 u1
   rintro e w3 ⟨⟨gr,cr,us,at_,rfl,hgr,hfr,hroles⟩,hb3⟩
   have bel3:=bel2.trans (hb3.mono bel2.size)
   replace HF:=zB ((zA HF).below hb3)
   replace HT:=zB ((zA HT).below hb3 hg2)
   have hg3:g < w3.heap.size:=Nat.lt_of_lt_of_le hg2 hb3.size
   obtain ⟨t0,t1,u1⟩:=zA HF
   rcases hroles with ⟨hnc,_⟩ | ⟨_,⟨i,hi,hfi,hro,_,rfl⟩ | ⟨hfit,⟨_,hus,rfl⟩ | ⟨hnl,_⟩⟩⟩
   ·exact absurd (zA HC) hnc
   ·have eA:decide ((i:Int) ≥ 0) = true:=by simp
    have HFI:=zB hfi
    have HRO:=zB hro
    have HX:=zEb g 0 ct i ts w3 hm3 hi hct hcm (zA HT) hg3 (by have:=((zA HZ) i hi).1; omega)
    clear hfi hro hfr
    go_wp2_with fail
    refine HX.mono ?_
    clear HX
    rintro e w4 ⟨rfl,hb4⟩
    have bel4:=bel3.trans (hb4.mono bel3.size)
    obtain ⟨s0,s1,s2⟩:=(zA HF).below hb4
    go_wp2_with fail
    refine bodyPost_ret (v:=.tuple #[.agg #[.slice none 0 0],.int .i64 4,.int .i64 (zFJ ts i:Int)]) ?_ rfl (Zj.empty (Or.inr ⟨zA HC,Or.inr ⟨h20,ts,zA HLX,Or.inr ⟨zA hno,Or.inl ⟨i,hi,zA HFI,zA HRO,rfl,rfl,rfl⟩⟩⟩⟩) (bel4.setCell (by simp only; omega) _))
    simp [results,Tryz.results27,go_sem,s1]
   case inr.inr.inr=>exact absurd (zA HLA) hnl
   have HFT:=zB hfit
   have HTF:=zB (show TF xs ts us by rw [hus]; exact TF.of (zA HC) h20 (zA HLX) hfit (zA hno))
   have hgr3:gr < w3.heap.size:=hfr.1
   have hBE:BE w3 w3.heap.size b off g 0 gr xs ts us:=⟨(zA HW).below bel3 hB,Nat.lt_of_lt_of_le hB bel3.size,zA HT,hg3,⟨hfr.1,hfr.2.2⟩,hgr3,Nat.le_refl _⟩
   have HBE:=zB (hBE.below (zC w3 (.cells #[] 81)))
   have HROW:=zB (show zn (w3.alloc (.cells #[] 81)) w3.heap.size (.slice (some ⟨w3.heap.size,0,none⟩) 0 0) [] by
    have h0:=World.ownsRow_lit (base:=w3.heap.size) (e:=81) (size:=4) w3 #[] 0 (Nat.le_refl _) (Nat.zero_le _) rfl
    simpa [zn,zH] using h0)
   have HSG:=zB (zHv hfit h1l (zA HLA).2).1
   have HX:=zAx (cap:=cap) (ct:=ct) (cr:=cr) (zA HC) hmx (zA HS) (zA HTF) ts.length 0 (ts.length - 1) (.slice (some ⟨w3.heap.size,0,none⟩) 0 0) [] _ (Nat.zero_le _) (by omega) (by omega) (by rw [Nat.sub_zero]; exact zA HSG) (zA HBE) (zA HROW) (by simp; omega)
   rw [Nat.sub_zero,show ((0:Nat):Int) = 0 from rfl,show ((ts.length - 1:Nat):Int) = (ts.length:Int) - 1 by omega] at HX
   have HRB:=zB (zM8 (zA HC) hfit (zA HLA) (n:=ts.length) (Nat.le_refl _))
   have HGD:=zB (show ∀ T,bld xs ts.length (sgs xs ts 0 (ts.length - 1)) = some T -> zX xs T from fun T h=>(Z2 (zA HC) _ _ _ (zA HSG) h).1)
   obtain ⟨bl,hbl⟩:∃ bl,bl = bld xs ts.length (sgs xs ts 0 (ts.length - 1)):=⟨_,rfl⟩
   rw [<- hbl] at HX HRB HGD
   have z3:w.heap.size + 2 <= w3.heap.size:=by have:=hb3.size; omega
   clear hfit hus hfr hBE HROW HSG HTF hbl hb3
   go_wp2_with fail
   refine HX.mono ?_
   clear HX t0 t1 u1
   rintro e w4 ⟨u4,vs,ok,rfl,HR4,HG4,HA4,hl4,HO4⟩
   have HG:=zB (zJ (zC w3 (.cells #[] 81)) (zA HG4))
   have HB4:=zB (show Below w.heap.size w w4 from bel3.grown (zA HG) bel3.size (fun q hq=>by simp [Value.ownBlock] at hq; omega))
   replace HF:=zB ((zA HF).grown (zA HG) (fun q hq=>by simp [Value.ownBlock] at hq; omega))
   have z4:=(zA HG).size
   obtain ⟨t0,t1,u1⟩:=zA HF
   rcases zA HO4 with ⟨T,hbT,rfl,hvs⟩ | ⟨hbN,rfl⟩
   case inr=>
    have HRN:=zB ((zA HRB).2 hbN)
    clear hbN HO4 HRB HGD
    go_wp2_with fail
    refine bodyPost_ret (v:=.tuple #[.agg #[.slice none 0 0],.int .i64 5,.int .i64 0]) ?_ rfl (Zj.empty (Or.inr ⟨zA HC,Or.inr ⟨h20,ts,zA HLX,Or.inr ⟨zA hno,Or.inr ⟨zA HFT,Or.inl ⟨zA HRN,rfl,rfl,rfl⟩⟩⟩⟩⟩) ((zA HB4).setCell (by simp only; omega) _))
    simp [results,Tryz.results27,go_sem,t1]
   rw [List.nil_append,List.length_nil] at hvs
   have HGT:=zB ((zA HGD) T hbT)
   have HRS:=zB ((zA HRB).1 T hbT)
   have hv1:1 <= vs.length:=by rw [hvs,ze]; exact Sh.pos (zA HGT).sh
   obtain ⟨g4,c4,rfl,hg4,hfl⟩:=zCC (zA HR4) hv1
   rw [List.length_nil,Nat.zero_add] at hl4
   have htz:tsz T = vs.length:=by rw [hvs,ze]
   have hb5:=zC w4 (.cells #[.slice (some ⟨g4,0,none⟩) vs.length c4] 28)
   have HFL:=zB hfl
   have HX:=zIQ g4 c4 vs (hL T) _ (hfl.below hb5 hfl.1).2.2 (by have:=hb5.size; have:=hfl.1; omega) (by omega) hv1 (by rw [zDz,htz]) (fun i hi=>by rw [hvs]; exact zMw T (zA HGT).sh 0 i (by omega)) (fun i hi=>by have:=zNr T (i:=i) (by omega); omega)
   have hlast:atI (hL T) (vs.length - 1) = (hT T:Int):=by rw [<- htz]; exact zFg (zA HGT).sh
   rw [hlast] at HX
   have HVS:=zB hvs
   obtain ⟨hh,hhe⟩:∃ hh,hh = hT T:=⟨_,rfl⟩
   rw [<- hhe] at HX
   have HHE:=zB hhe
   clear hvs hbT HO4 HRB HGD htz hfl hlast hhe HR4 HG4 HA4 HG
   go_wp2_with fail
   refine HX.mono ?_
   clear HX
   rintro e w5 ⟨rfl,hb6⟩
   have HB5:=zB (((zA HB4).trans (hb5.mono (zA HB4).size)).trans (hb6.mono (by have:=(zA HB4).size; simp; omega)))
   have HF5:=zB (((zA HF).below hb5).below hb6)
   have HFL5:=zB (((zA HFL).below hb5 (zA HFL).1).below hb6 (by have:=hb5.size; have:=(zA HFL).1; omega))
   have tr5:w5.cell? ⟨w4.heap.size,0,none⟩ = some (.slice (some ⟨g4,0,none⟩) vs.length c4):=(hb6.cell (p:=⟨w4.heap.size,0,none⟩) (by simp)).trans (by simp [go_sem])
   obtain ⟨s0,s1,s2⟩:=zA HF5
   clear t0 t1 u1 hb5 hb6 HF HFL
   by_cases hgt:1000 < hh
   ·have hgI:(1000:Int) < (hh:Int):=by omega
    have HHT:=zB (show 1000 < hT T by rw [<- zA HHE]; exact hgt)
    clear hgt
    go_wp2_with fail
    refine bodyPost_ret (v:=.tuple #[.agg #[.slice none 0 0],.int .i64 6,.int .i64 0]) ?_ rfl (Zj.empty (Or.inr ⟨zA HC,Or.inr ⟨h20,ts,zA HLX,Or.inr ⟨zA hno,Or.inr ⟨zA HFT,Or.inr ⟨T,_,zA HRS,Or.inl ⟨zA HHT,rfl,rfl,rfl⟩⟩⟩⟩⟩⟩) ((zA HB5).setCell (by simp only; omega) _))
    simp [results,Tryz.results27,go_sem,s1]
   ·have hgI:¬ (1000:Int) < (hh:Int):=by omega
    have HHT:=zB (show hT T <= 1000 by rw [<- zA HHE]; omega)
    clear hgt
    go_wp2_with fail
    refine bodyPost_ret (v:=.tuple #[.agg #[.slice (some ⟨g4,0,none⟩) vs.length c4],.int .i64 0,.int .i64 0]) ?_ rfl ⟨⟨some ⟨g4,0,none⟩,c4,vs,0,0,rfl,zB (Or.inr ⟨g4,rfl,by omega,?_⟩),zB (Or.inr ⟨zA HC,Or.inr ⟨h20,ts,zA HLX,Or.inr ⟨zA hno,Or.inr ⟨zA HFT,Or.inr ⟨T,_,zA HRS,Or.inr ⟨zA HHT,zA HVS,rfl,rfl⟩⟩⟩⟩⟩⟩)⟩,(zA HB5).setCell (by simp only; omega) _⟩
    ·simp [results,Tryz.results27,go_sem,s1]
    ·exact (zA HFL5).setCell _ _ _ (by omega)
end Go.Proofs.YtfboipappaonhaaGreat
namespace Go.Proofs.YtfboipappaonhaaGreat
set_option maxHeartbeats 16000000
set_option maxRecDepth 100000
open Go.RowKit
def zGb (first:Nat) (s:ByteArray):Prop:=1 <= s.size /\ cls (bt s 0) = first /\ ∀ j,j < s.size -> zBT first (bt s j) = true
theorem zGc (first:Nat) (s:ByteArray) (w:World) (hs:s.size <= maxLen) :
  Calls Tryz.prog 139 #[.int .i64 (first:Int),.string s] w fun e w'=>zCQ e (zGb first s) /\ w' = w:=by
 unfold maxLen at hs
 by_cases h0:s.size = 0
 ·have HN:=zB (show ¬ zGb first s from fun h=>by have:=h.1; omega)
  obtain rfl:=zEj h0
  go_enter Tryz.func139,Tryz.ntmps139
  go_wp2_with fail
  go_ret
  exact ⟨⟨_,rfl,zL (zA HN)⟩,rfl⟩
 have hne:=zEi h0
 have h0I:(0:Int) < (s.size:Int):=by omega
 have h0N:0 < s.size:=by omega
 by_cases hc:cls (bt s 0) = first
 case neg=>
  have HN:=zB (show ¬ zGb first s from fun h=>hc h.2.1)
  have hb:=ZM h0N
  have hc':((cls s[0]:Int) != (first:Int)) = true:=by rw [hb]; simp; omega
  clear hb
  go_enter Tryz.func139,Tryz.ntmps139
  go_wp2_with (go_at_call 125; refine (Zf _ _).mono ?_; rintro e w' ⟨rfl,hx⟩; obtain rfl:=hx.symm)
  go_ret
  exact ⟨⟨_,rfl,zL (zA HN)⟩,rfl⟩
 have HC:=zB hc
 have hb:=ZM h0N
 have HX:=zB (show (cls s[0]:Int) = (first:Int) by rw [hb]; omega)
 clear hb hc
 go_enter Tryz.func139,Tryz.ntmps139
 go_wp2_with (go_at_call 125; refine (Zf _ _).mono ?_; rw [zA HX]; rintro e w' ⟨rfl,hx⟩; obtain rfl:=hx.symm)
 go_loop [17] (fun i=>∃ k:Nat,k <= s.size /\ i = .int .i64 (k:Int) /\ Hid (∀ j,j < k -> zBT first (bt s j) = true)) (fun i=>s.size - (intOf i).toNat)
 case atStart=>exact ⟨0,Nat.zero_le _,rfl,zB (fun j h=>by omega)⟩
 case round=>
  obtain ⟨k,hk,rfl,hn⟩:=hrel
  by_cases hlt:k < s.size
  ·have hltI:(k:Int) < (s.size:Int):=by omega
   cases hb:zBT first s[k]
   ·have Hb:=zB (show zBT first (bt s k) = false by rw [<- ZM hlt]; exact hb)
    go_wp2_with (go_at_call 159; refine (zCR _ _ _).mono ?_; rintro e w' ⟨rfl,hx⟩; obtain rfl:=hx.symm)
    go_ret
    exact ⟨⟨_,rfl,zL (fun h=>by have:=h.2.2 k hlt; rw [zA Hb] at this; cases this)⟩,rfl⟩
   ·have Hb:=zB (show zBT first (bt s k) = true by rw [<- ZM hlt]; exact hb)
    go_wp2_with (go_at_call 159; refine (zCR _ _ _).mono ?_; rintro e w' ⟨rfl,hx⟩; obtain rfl:=hx.symm)
    refine ⟨⟨k + 1,by omega,by go_num,zB (fun j hj=>?_)⟩,by simp [intOf]; omega⟩
    by_cases e:j = k
    ·subst e; exact zA Hb
    ·exact (zA hn) j (by omega)
  ·go_wp2_with fail
   go_ret
   exact ⟨⟨_,rfl,Ze ⟨by omega,zA HC,fun j hj=>(zA hn) j (by omega)⟩⟩,rfl⟩
theorem zN8 (s:ByteArray):zGb 2 s ↔ zDA s:=by
 unfold zGb zDA zBT
 constructor
 ·rintro ⟨h1,h2,h3⟩
  refine ⟨h1,fun j hj=>?_⟩
  have:=h3 j hj
  simpa using this
 ·rintro ⟨h1,h2⟩
  exact ⟨h1,h2 0 (by omega),fun j hj=>by simp [h2 j hj]⟩
theorem zN9 (s:ByteArray):zGb 3 s ↔ zBH s:=by
 unfold zGb zBH zBT
 constructor
 ·rintro ⟨h1,h2,h3⟩
  refine ⟨h1,fun j hj=>?_⟩
  have:=h3 j hj
  simp at this
  by_cases e:j = 0
  ·subst e; exact Or.inl h2
  ·omega
 ·rintro ⟨h1,h2⟩
  refine ⟨h1,?_,fun j hj=>?_⟩
  ·have:=h2 0 (by omega); omega
  ·have:=h2 j hj; simp; omega
end Go.Proofs.YtfboipappaonhaaGreat
namespace Go.Proofs.YtfboipappaonhaaGreat
set_option linter.unusedVariables false
set_option maxHeartbeats 16000000
set_option maxRecDepth 100000
open Go.RowKit
theorem zIV (k:Int) (w:World) :
  Calls Tryz.prog 91 #[.int .i64 k] w fun e w'=>e = .returned (.int .i64 (zR k:Int)) /\ w' = w:=by
 by_cases h4:k = 4
 ·subst h4
  go_enter Tryz.func91,Tryz.ntmps91
  go_wp2
  go_ret
  exact ⟨zF (by simp [zR]),rfl⟩
 by_cases h3:k = 3
 ·subst h3
  go_enter Tryz.func91,Tryz.ntmps91
  go_wp2
  go_ret
  exact ⟨zF (by simp [zR]),rfl⟩
 by_cases h5:k = 5
 ·subst h5
  go_enter Tryz.func91,Tryz.ntmps91
  go_wp2
  go_ret
  exact ⟨zF (by simp [zR]),rfl⟩
 by_cases h6:k = 6
 ·subst h6
  go_enter Tryz.func91,Tryz.ntmps91
  go_wp2
  go_ret
  exact ⟨zF (by simp [zR]),rfl⟩
 have e4:(k == 4) = false:=by simpa using h4
 have e3:(k == 3) = false:=by simpa using h3
 have e5:(k == 5) = false:=by simpa using h5
 have e6:(k == 6) = false:=by simpa using h6
 have HK:=zB (show zR k = 0 by simp [zR,h4,h3,h5,h6])
 clear h4 h3 h5 h6
 go_enter Tryz.func91,Tryz.ntmps91
 go_wp2
 go_ret
 exact ⟨zF (by rw [zA HK]; rfl),rfl⟩
theorem Zv {k:Int} {n:Nat} (h:zR k = n) (z:Int) (hz:(n:Int) = z) (w:World) :
  Calls Tryz.prog 91 #[.int .i64 k] w fun e w'=>e = .returned (.int .i64 z) /\ w' = w:=by
 subst hz
 subst h
 exact zIV k w
theorem zBp (o:zD) (w:World) (hs:o.t.size <= maxLen) :
  Calls Tryz.prog 93 #[.agg #[.int .i64 o.k,.string o.t,.int .i64 o.a,.int .i64 o.b]] w fun e w'=>zCQ e (zAL o) /\ Below w.heap.size w w':=by
 have HS:=zB hs
 unfold maxLen at hs
 by_cases hbig:20000 < o.t.size
 ·have hbigI:(20000:Int) < (o.t.size:Int):=by omega
  have HN:=zB (zGy hbig)
  clear hbig
  go_enter Tryz.func93,Tryz.ntmps93
  go_wp2_with fail
  go_ret
  exact ⟨⟨_,rfl,zL (zA HN)⟩,zC _ _⟩
 have hbigI:¬ (20000:Int) < (o.t.size:Int):=by omega
 have hsm:o.t.size <= 20000:=by omega
 clear hbig
 by_cases k1:o.k = 1
 ·have HT:=zB ((zKN hsm k1).trans (zN8 _).symm)
  rw [k1]
  clear k1
  go_enter Tryz.func93,Tryz.ntmps93
  go_wp2_with (go_at_call 139; refine (zGc 2 _ _ (zA HS)).mono ?_; rintro e w' ⟨⟨v,rfl,hv⟩,hx⟩; obtain rfl:=hx.symm)
  go_ret
  exact ⟨⟨_,rfl,hv.trans (zA HT).symm⟩,zC _ _⟩
 by_cases k2:o.k = 2
 ·have HT:=zB ((zKO hsm k2).trans (zN9 _).symm)
  rw [k2]
  clear k1 k2
  go_enter Tryz.func93,Tryz.ntmps93
  go_wp2_with (go_at_call 139; refine (zGc 3 _ _ (zA HS)).mono ?_; rintro e w' ⟨⟨v,rfl,hv⟩,hx⟩; obtain rfl:=hx.symm)
  go_ret
  exact ⟨⟨_,rfl,hv.trans (zA HT).symm⟩,zC _ _⟩
 by_cases k6:o.k = 6
 ·have HT:=zB (zKP k6)
  rw [k6]
  clear k1 k2 k6
  by_cases h0:o.t.size = 0
  ·rw [zEj h0]
   go_enter Tryz.func93,Tryz.ntmps93
   go_wp2_with fail
   go_ret
   exact ⟨⟨_,rfl,Ze ((zA HT).2 h0)⟩,zC _ _⟩
  ·have hne:o.t.toList.isEmpty = false:=zEi h0
   go_enter Tryz.func93,Tryz.ntmps93
   go_wp2_with fail
   go_ret
   exact ⟨⟨_,rfl,zL (fun h=>h0 ((zA HT).1 h))⟩,zC _ _⟩
 have e1:(o.k == 1) = false:=by simpa using k1
 have e2:(o.k == 2) = false:=by simpa using k2
 have e6:(o.k == 6) = false:=by simpa using k6
 by_cases k3:o.k = 3
 ·have HT:=zB (zFT hsm (Or.inl k3))
  rw [k3]
  clear k1 k2 k6 e1 e2 e6 k3
  go_enter Tryz.func93,Tryz.ntmps93
  go_wp2_with (go_at_call 140; refine (Z7 _ _ (zA HS)).mono ?_; rintro e w' ⟨rfl,hx⟩; obtain rfl:=hx.symm)
  go_ret
  exact ⟨⟨_,rfl,(zA HT).symm⟩,zC _ _⟩
 by_cases k4:o.k = 4
 ·have HT:=zB (zFT hsm (Or.inr (Or.inl k4)))
  rw [k4]
  clear k1 k2 k6 e1 e2 e6 k3 k4
  go_enter Tryz.func93,Tryz.ntmps93
  go_wp2_with (go_at_call 140; refine (Z7 _ _ (zA HS)).mono ?_; rintro e w' ⟨rfl,hx⟩; obtain rfl:=hx.symm)
  go_ret
  exact ⟨⟨_,rfl,(zA HT).symm⟩,zC _ _⟩
 by_cases k5:o.k = 5
 ·have HT:=zB (zFT hsm (Or.inr (Or.inr k5)))
  rw [k5]
  clear k1 k2 k6 e1 e2 e6 k3 k4 k5
  go_enter Tryz.func93,Tryz.ntmps93
  go_wp2_with (go_at_call 140; refine (Z7 _ _ (zA HS)).mono ?_; rintro e w' ⟨rfl,hx⟩; obtain rfl:=hx.symm)
  go_ret
  exact ⟨⟨_,rfl,(zA HT).symm⟩,zC _ _⟩
 have e3:(o.k == 3) = false:=by simpa using k3
 have e4:(o.k == 4) = false:=by simpa using k4
 have e5:(o.k == 5) = false:=by simpa using k5
 have HT:=zB (zHb (o:=o) (by omega))
 clear k1 k2 k6 k3 k4 k5
 go_enter Tryz.func93,Tryz.ntmps93
 go_wp2_with fail
 go_ret
 exact ⟨⟨_,rfl,zL (zA HT)⟩,zC _ _⟩
theorem zM9:(Tryz.prog.info? 3).map (·.size) = some 1:=by kernel_rfl
theorem zEf (o:zD) (a:Option Addr) (cap:Nat) (w:World) :
  Calls Tryz.prog 92 #[.agg #[.int .i64 o.k,.string o.t,.int .i64 o.a,.int .i64 o.b],.slice a 0 cap] w fun e w'=>zCQ e (o.a = 0 /\ o.b = 0) /\ Below w.heap.size w w':=by
 have hcp:∀ W:World,(Builtin.copy_ #[79,79] 3 #[.slice (some ⟨w.heap.size + 1,0,none⟩) 2 2,.slice a 0 cap]).run Tryz.prog W = .ok (goInt 0) W:=fun W=>run_copy_none W _ _ _ 3 _ _ _ _ _ _ Tryz.underlying79 zM9 (by simp)
 have HC:=zB hcp
 clear hcp
 by_cases ha:o.a = 0
 ·rw [ha]
  by_cases hb:o.b = 0
  ·rw [hb]
   clear ha hb
   go_enter Tryz.func92,Tryz.ntmps92
   go_wp2
   rw [zA HC]
   simp only [Result.andThen]
   rw [Oper.upon_value]
   go_wp2
   go_ret
   exact ⟨⟨_,rfl,Ze (by simp)⟩,(zC _ _).alloc (by simp) _⟩
  ·have hb':(o.b == 0) = false:=by simpa using hb
   clear ha
   go_enter Tryz.func92,Tryz.ntmps92
   go_wp2
   rw [zA HC]
   simp only [Result.andThen]
   rw [Oper.upon_value]
   go_wp2
   go_ret
   exact ⟨⟨_,rfl,zL (fun h=>hb h.2)⟩,(zC _ _).alloc (by simp) _⟩
 ·have ha':(o.a == 0) = false:=by simpa using ha
  go_enter Tryz.func92,Tryz.ntmps92
  go_wp2
  rw [zA HC]
  simp only [Result.andThen]
  rw [Oper.upon_value]
  go_wp2
  go_ret
  exact ⟨⟨_,rfl,zL (fun h=>ha h.1)⟩,(zC _ _).alloc (by simp) _⟩
theorem zNA (o:zD) (g off cap:Nat) (t:Int) (w:World) (h0:w.cell? ⟨g,off,none⟩ = some (.int .i64 t)) :
  Calls Tryz.prog 92 #[.agg #[.int .i64 o.k,.string o.t,.int .i64 o.a,.int .i64 o.b],.slice (some ⟨g,off,none⟩) 1 cap] w fun e w'=>zCQ e (o.a = t /\ o.b = 0) /\ Below w.heap.size w w':=by
 have HC:=zB (show ∀ (x y:Int),(Builtin.copy_ #[79,79] 3 #[.slice (some ⟨w.heap.size + 1,0,none⟩) 2 2,.slice (some ⟨g,off,none⟩) 1 cap]).run Tryz.prog ((w.alloc (.cells #[.int .i64 o.k,.string o.t,.int .i64 x,.int .i64 y] 81)).alloc (.cells #[.int .i64 0,.int .i64 0] 209)) = .ok (goInt 1) (((w.alloc (.cells #[.int .i64 o.k,.string o.t,.int .i64 x,.int .i64 y] 81)).alloc (.cells #[.int .i64 0,.int .i64 0] 209)).setCells (w.heap.size + 1) 0 [.int .i64 t]) from fun x y=>by
  have hlt:g < w.heap.size:=block_lt_of_cell h0
  have bel:Below w.heap.size w ((w.alloc (.cells #[.int .i64 o.k,.string o.t,.int .i64 x,.int .i64 y] 81)).alloc (.cells #[.int .i64 0,.int .i64 0] 209)):=(zC _ _).alloc (by simp) _
  exact run_copy_cells _ _ _ _ 3 _ _ _ _ _ _ _ [.int .i64 t] Tryz.underlying79 zM9 rfl (fun j v hj=>by
   rw [Addr.add_mid]
   match j,hj with
   | 0,hj=>
    simp only [List.getElem?_cons_zero,Option.some.injEq] at hj
    rw [<- hj]
    exact (bel.cell (p:=⟨g,off,none⟩) hlt).trans h0) (fun j hj=>by simp at hj; subst hj; simp [go_sem]) (fun j hj=>by simp [go_sem]) (fun v hv=>by simp at hv; rw [hv]; rfl))
 clear h0
 by_cases ha:o.a = t
 ·rw [ha]
  by_cases hb:o.b = 0
  ·rw [hb]
   clear ha hb
   go_enter Tryz.func92,Tryz.ntmps92
   go_wp2
   rw [zA HC]
   simp only [Result.andThen,World.setCells]
   rw [Oper.upon_value]
   go_wp2
   go_ret
   exact ⟨⟨_,rfl,Ze (by simp)⟩,(zC _ _).alloc (by simp) _⟩
  ·have hb':(o.b == 0) = false:=by simpa using hb
   clear ha
   go_enter Tryz.func92,Tryz.ntmps92
   go_wp2
   rw [zA HC]
   simp only [Result.andThen,World.setCells]
   rw [Oper.upon_value]
   go_wp2
   go_ret
   exact ⟨⟨_,rfl,zL (fun h=>hb h.2)⟩,(zC _ _).alloc (by simp) _⟩
 ·have ha':(o.a == t) = false:=by simpa using ha
  go_enter Tryz.func92,Tryz.ntmps92
  go_wp2
  rw [zA HC]
  simp only [Result.andThen,World.setCells]
  rw [Oper.upon_value]
  go_wp2
  go_ret
  exact ⟨⟨_,rfl,zL (fun h=>ha h.1)⟩,(zC _ _).alloc (by simp) _⟩
theorem zNB (o:zD) (g off cap:Nat) (t t':Int) (w:World) (h0:w.cell? ⟨g,off,none⟩ = some (.int .i64 t)) (h1:w.cell? ⟨g,off + 1,none⟩ = some (.int .i64 t')) :
  Calls Tryz.prog 92 #[.agg #[.int .i64 o.k,.string o.t,.int .i64 o.a,.int .i64 o.b],.slice (some ⟨g,off,none⟩) 2 cap] w fun e w'=>zCQ e (o.a = t /\ o.b = t') /\ Below w.heap.size w w':=by
 have HC:=zB (show ∀ (x y:Int),(Builtin.copy_ #[79,79] 3 #[.slice (some ⟨w.heap.size + 1,0,none⟩) 2 2,.slice (some ⟨g,off,none⟩) 2 cap]).run Tryz.prog ((w.alloc (.cells #[.int .i64 o.k,.string o.t,.int .i64 x,.int .i64 y] 81)).alloc (.cells #[.int .i64 0,.int .i64 0] 209)) = .ok (goInt 2) (((w.alloc (.cells #[.int .i64 o.k,.string o.t,.int .i64 x,.int .i64 y] 81)).alloc (.cells #[.int .i64 0,.int .i64 0] 209)).setCells (w.heap.size + 1) 0 [.int .i64 t,.int .i64 t']) from fun x y=>by
  have hlt:g < w.heap.size:=block_lt_of_cell h0
  have bel:Below w.heap.size w ((w.alloc (.cells #[.int .i64 o.k,.string o.t,.int .i64 x,.int .i64 y] 81)).alloc (.cells #[.int .i64 0,.int .i64 0] 209)):=(zC _ _).alloc (by simp) _
  exact run_copy_cells _ _ _ _ 3 _ _ _ _ _ _ _ [.int .i64 t,.int .i64 t'] Tryz.underlying79 zM9 rfl (fun j v hj=>by
   rw [Addr.add_mid]
   match j,hj with
   | 0,hj=>
    simp only [List.getElem?_cons_zero,Option.some.injEq] at hj
    rw [<- hj]
    exact (bel.cell (p:=⟨g,off,none⟩) hlt).trans h0
   | 1,hj=>
    simp only [List.getElem?_cons_succ,List.getElem?_cons_zero,Option.some.injEq] at hj
    rw [<- hj]
    exact (bel.cell (p:=⟨g,off + 1,none⟩) hlt).trans h1) (fun j hj=>by simp at hj; rcases (by omega:j = 0 \/ j = 1) with rfl | rfl <;> simp [go_sem]) (fun j hj=>by simp [go_sem]) (fun v hv=>by simp at hv; rcases hv with rfl | rfl <;> rfl))
 clear h0 h1
 by_cases ha:o.a = t
 ·rw [ha]
  by_cases hb:o.b = t'
  ·rw [hb]
   clear ha hb
   go_enter Tryz.func92,Tryz.ntmps92
   go_wp2
   rw [zA HC]
   simp only [Result.andThen,World.setCells]
   rw [Oper.upon_value]
   go_wp2
   go_ret
   exact ⟨⟨_,rfl,Ze (by simp)⟩,(zC _ _).alloc (by simp) _⟩
  ·have hb':(o.b == t') = false:=by simpa using hb
   clear ha
   go_enter Tryz.func92,Tryz.ntmps92
   go_wp2
   rw [zA HC]
   simp only [Result.andThen,World.setCells]
   rw [Oper.upon_value]
   go_wp2
   go_ret
   exact ⟨⟨_,rfl,zL (fun h=>hb h.2)⟩,(zC _ _).alloc (by simp) _⟩
 ·have ha':(o.a == t) = false:=by simpa using ha
  go_enter Tryz.func92,Tryz.ntmps92
  go_wp2
  rw [zA HC]
  simp only [Result.andThen,World.setCells]
  rw [Oper.upon_value]
  go_wp2
  go_ret
  exact ⟨⟨_,rfl,zL (fun h=>ha h.1)⟩,(zC _ _).alloc (by simp) _⟩
end Go.Proofs.YtfboipappaonhaaGreat
