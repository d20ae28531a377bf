import Derived.Deep.RegionHeldLaw
import Derived.Deep.AppendLies
import Derived.Test.YtfboipappaonhaaGreatP09
import Derived.Test.YtfboipappaonhaaGreatP14
import Derived.Test.YtfboipappaonhaaGreatP18
import Derived.Test.YtfboipappaonhaaGreatP21
import Derived.Test.YtfboipappaonhaaGreatP26
import Derived.Test.YtfboipappaonhaaGreatP28
import Derived.Test.YtfboipappaonhaaGreatP29
namespace Go.Proofs.YtfboipappaonhaaGreat
set_option linter.unusedSimpArgs false
set_option linter.unusedVariables false
set_option maxHeartbeats 16000000
set_option maxRecDepth 100000
open Go.RowKit
theorem zJ0 (w:World) (b b':UInt8):∀ j u,(cellsB [b,b'])[j]? = some u -> (w.alloc (.cells #[.int .u8 (b.toNat:Int),.int .u8 (b'.toNat:Int)] 5)).cell? ((⟨w.heap.size,0,none⟩:Addr).add j) = some u:=by
 intro j u hj
 rw [Addr.add_mid]
 have:=World.rangeAt_of_block (w:=w.alloc (.cells #[.int .u8 (b.toNat:Int),.int .u8 (b'.toNat:Int)] 5)) (b:=w.heap.size) (heap_alloc_new w _) 0 2
 exact this j u (by simpa [cellsB] using hj)
theorem zLG {w:World} {g:Nat} {b:UInt8} (h:w.cell? ⟨g,0,none⟩ = some (.int .u8 (b.toNat:Int))):∀ j u,(cellsB [b])[j]? = some u -> w.cell? ((⟨g,0,none⟩:Addr).add j) = some u:=by
 intro j u hj
 rw [Addr.add_mid,Nat.zero_add]
 match j,hj with
 | 0,hj=>simp [cellsB] at hj; subst hj; exact h
theorem zEV {w w':World} {g b k:Nat} {xs:List OpR} (ho:zm w b xs k) (hg:w.grownBy w' (some g)) (hne:g ≠ b):zm w' b xs k:=by
 obtain ⟨a1,a2,a3⟩:=ho
 have hb:=hg.block b a1 (fun e=>hne (by injection e with e; exact e.symm))
 refine ⟨Nat.lt_of_lt_of_le a1 hg.size,fun j hj=>?_,fun i hi=>?_⟩
 ·obtain ⟨c1,c2⟩:=a2 j hj
  exact ⟨by rw [World.cell?_of_block (w:=w) (w':=w') (a:=⟨b,0 + j,none⟩) hb]; exact c1,by rw [World.frozen?_of_block (w:=w) (w':=w') (a:=⟨b,0 + j,none⟩) hb]; exact c2⟩
 ·obtain ⟨c0,c1,c2,c3⟩:=a3 i hi
  exact ⟨(World.cell?_of_block (w:=w) hb).trans c0,(World.cell?_of_block (w:=w) hb).trans c1,(World.cell?_of_block (w:=w) hb).trans c2,(World.cell?_of_block (w:=w) hb).trans c3⟩
theorem zI8 {B b:Nat} {w wr:World} {v:Value} (h:Below B w wr) (hb:B <= b:=by simp):Below B w (wr.drew.setCell ⟨b,0,none⟩ v):=(h.trans ((Below.refl _ _).drew)).setCell hb _
def zOY (bs:List UInt8) (w:World) (e:Ending) (w':World):Prop:=
 (∃ (gt ct:Nat) (ns:List OpR) (s:ByteArray),e = .returned (.tuple #[.agg #[.slice (some ⟨gt,0,none⟩) ns.length ct],.string s]) /\ w.heap.size <= gt /\ Hid (zm w' gt ns ns.length) /\ Hid (zIA bs ns) /\ s.size <= 1048576) /\ Below w.heap.size w w'
theorem zDk (a:Option Addr) (cap:Nat) (l:List UInt8) (w:World) (hl:l.length <= 1048576) (hcap:l.length <= cap) (h:zFi w a l) :
  Calls Tryz.prog 28 #[.slice a l.length cap] w (zOY (zDf l) w):=by
 have HA:=zB h
 clear h
 obtain ⟨bs,HBS⟩:∃ bs,Hid (bs = zDf l):=⟨_,zB rfl⟩
 have hbl:bs.length <= 1200:=by rw [zA HBS]; exact zIm l
 rw [<- zA HBS]
 go_enter Tryz.func28,Tryz.ntmps28
 go_wp2_with fail
 have HB0:=zB (zC w (.cells #[.slice none 0 0] 25))
 (with_reducible refine (zFj a cap l _ hl hcap ((zA HA).step (zA HB0))).mono ?_)
 rintro e w1 ⟨⟨rp,cap',rfl,hrp,H1⟩,hb1⟩
 rw [<- zA HBS] at H1
 have z1:w.heap.size + 1 <= w1.heap.size:=by have:=hb1.size; simpa using this
 have hrp2:w.heap.size + 1 <= rp:=by simpa using hrp
 have q0:w1.cell? ⟨w.heap.size,0,none⟩ = some (.slice none 0 0):=(hb1.cell (p:=⟨w.heap.size,0,none⟩) (by simp)).trans (by simp [go_sem])
 have g0:w1.frozen? ⟨w.heap.size,0,none⟩ = false:=(hb1.frozen (p:=⟨w.heap.size,0,none⟩) (by simp)).trans (by simp [go_sem])
 have bel1:=zB ((zA HB0).trans (hb1.mono (by simp)))
 have hrl:=(zA H1).lt
 clear hb1 HB0 hrp HA
 go_wp2_with fail
 (with_reducible refine (ZP rp cap' 0 a bs _ (zA H1) hbl).mono ?_)
 rintro e w2 ⟨⟨k,rfl,hk,HK⟩,H2,HP2⟩
 have z2:=(zA HP2).size
 clear H1
 go_wp2_with fail
 (with_reducible refine (zFI rp cap' (adv bs 0) a bs _ (zA H2) hbl).mono ?_)
 rintro e w3 ⟨⟨gt,ct,q,ys,rfl,hgt,hF,HT,H3⟩,HP3⟩
 have hy1:=(zA HT).len
 have h38:=Nat.mod_lt (nxt bs (adv bs 0)) (show 0 < 8 by decide)
 have hy10:ys.length <= 10:=by omega
 have HYS:=zB hy1.2
 have HYA:=zB (zNI hy1.2)
 have HYK:=zB (zA HT).kinds
 have z3:=(zA HP3).size
 have hgl:=hF.1
 have hgr:gt ≠ rp:=by omega
 have HB3:=zB (zC w3 (.cells #[.slice (some ⟨gt,0,none⟩) ys.length ct] 25))
 have HF3:=zB (hF.below (zA HB3) hgl)
 have HX:=zB (zGG rp cap' q gt ct a bs ys ((k:Int) % 3 == 2) _ ((zA H3).below (zA HB3)) hbl hy10 (zA HF3) hgr (zA HYA) (zA HYK))
 clear hy1 h38 H2 H3 hF
 go_wp2_with fail
 (with_reducible refine (zA HX).mono ?_)
 rintro e w4 ⟨⟨s,q2,rfl,hss,HD4,H4⟩,HP4⟩
 have z4:w3.heap.size + 1 <= w4.heap.size:=by have:=(zA HP4).size; simpa using this
 have HF4:=zB ((zA HP4).filled (zA HF3) hgr)
 have tR:w4.cell? ⟨w3.heap.size,0,none⟩ = some (.slice (some ⟨gt,0,none⟩) ys.length ct):=((zA HP4).cell (b:=w3.heap.size) (by simp) (by omega) 0).trans (by simp [go_sem])
 have tF:w4.frozen? ⟨w3.heap.size,0,none⟩ = false:=((zA HP4).frozen (b:=w3.heap.size) (by simp) (by omega) 0).trans (by simp [go_sem])
 have kc:=fun (b:Nat) (hb:b < w1.heap.size) (h1:b ≠ rp)=>((zA HP4).cell (b:=b) (by simp; omega) h1 0).trans (((zA HB3).cell (p:=⟨b,0,none⟩) (by show b < w3.heap.size; omega)).trans (((zA HP3).cell (b:=b) (by omega) h1 0).trans ((zA HP2).cell (b:=b) hb h1 0)))
 have kf:=fun (b:Nat) (hb:b < w1.heap.size) (h1:b ≠ rp)=>((zA HP4).frozen (b:=b) (by simp; omega) h1 0).trans (((zA HB3).frozen (p:=⟨b,0,none⟩) (by show b < w3.heap.size; omega)).trans (((zA HP3).frozen (b:=b) (by omega) h1 0).trans ((zA HP2).frozen (b:=b) hb h1 0)))
 have rR:=(kc w.heap.size (by omega) (by omega)).trans q0
 have fR:=(kf w.heap.size (by omega) (by omega)).trans g0
 have belR:=zB ((((zA bel1).trans ((zA HP2).below (B:=w.heap.size) (by omega) (by omega))).trans ((zA HP3).below (B:=w.heap.size) (by omega) (by omega))).trans (((zA HB3).mono (by omega)).trans ((zA HP4).below (B:=w.heap.size) (by simp; omega) (by omega))))
 have HTD:=zB (show zLF bs ys (decide (nxt bs 0 % 3 = 2)) q q2 by
  have e:((k:Int) % 3 == 2) = decide (nxt bs 0 % 3 = 2):=by rw [<- zA HK,Bool.eq_iff_iff,decide_eq_true_eq,beq_iff_eq]; omega
  rw [<- e]; exact zA HD4)
 have m0:w.heap.size < w4.heap.size:=by omega
 have n0:¬ w.heap.size = w3.heap.size:=by omega
 have n1:¬ w3.heap.size = w.heap.size:=by omega
 have m1:w3.heap.size < w4.heap.size:=by omega
 clear HX HD4 HP4 HB3 HF3 HP2 HP3 kc kf q0 g0 bel1
 by_cases h31:k % 32 = 31
 ·have e31:((k:Int) % 32 == 31) = true:=by simp; omega
  have e29:((k:Int) % 32 == 29) = false:=by simp; omega
  have e30:((k:Int) % 32 == 30) = false:=by simp; omega
  obtain ⟨ms,HMS⟩:∃ ms,Hid (zCU ys bs q2 = ms):=⟨_,zB rfl⟩
  have HC:=zB (zIB rp cap' q2 gt ct a bs ys _ (zA H4) hbl hy10 (zA HF4) (by omega) (fun i hi=>by have:=(zA HYS) i hi; omega))
  rw [zA HMS] at HC
  have HPD:=zB (show zIA bs ms from ⟨ys,q,q2,zA HT,zA HTD,Or.inr (Or.inl ⟨by rw [<- zA HK]; exact h31,(zA HMS).symm⟩)⟩)
  go_wp2_with fail
  (with_reducible refine (zA HC).mono ?_)
  rintro e w5 ⟨⟨g',c',rfl,hg',hF5⟩,H5,HP5⟩
  have z5:=(zA HP5).size
  have t5:=((zA HP5).cell (b:=w3.heap.size) (by omega) (by omega) (by omega) 0).trans tR
  have tf5:=((zA HP5).frozen (b:=w3.heap.size) (by omega) (by omega) (by omega) 0).trans tF
  have r5:=((zA HP5).cell (b:=w.heap.size) (by omega) (by omega) (by omega) 0).trans rR
  have rf5:=((zA HP5).frozen (b:=w.heap.size) (by omega) (by omega) (by omega) 0).trans fR
  have HF5:=zB hF5
  have hgl5:=hF5.1
  have bel5:=zB (show Below w.heap.size w w5 from (zA belR).trans ⟨(zA HP5).os,(zA HP5).tape,(zA HP5).output,(zA HP5).size,fun i hi=>(zA HP5).block i (by omega) (by omega) (by omega)⟩)
  have hg5:w.heap.size + 1 <= g' /\ g' ≠ w3.heap.size:=by omega
  clear HC hF5 HP5 H5
  go_wp2_with fail
  refine bodyPost_ret (v:=.tuple #[.agg #[.slice (some ⟨g',0,none⟩) ms.length c'],.string s]) ?res rfl ⟨⟨g',c',ms,s,rfl,by omega,zB (zm.setCell (zm.setCell (zA HF5) _ _ (by show w3.heap.size ≠ g'; omega)) _ _ (by show w.heap.size ≠ g'; omega)),HPD,by omega⟩,((zA bel5).setCell (by show w.heap.size <= w3.heap.size; omega) _).setCell (Nat.le_refl _) _⟩
  case res=>simp [results,Tryz.results28,go_sem,r5,t5,n0,n1]
 have e31:((k:Int) % 32 == 31) = false:=by simp; omega
 by_cases h29:k % 32 = 29
 ·have e29:((k:Int) % 32 == 29) = true:=by simp; omega
  obtain ⟨N,HN⟩:∃ N,Hid (N = 1000 + k / 32 % 4 - 2):=⟨_,zB rfl⟩
  have eN:(1000:Int) + (k:Int) / 32 % 4 - 2 = (N:Int):=by have:=zA HN; omega
  have hN:N <= 1001:=by have:=zA HN; omega
  obtain ⟨i1,hi1,hy0,hy1,hy2⟩:=zZ infoByte
  have HI:=zB hi1
  have HZ:=zB (And.intro hy0 (And.intro hy1 hy2))
  have HR0:=zB (zAn.nil (w:=w4) (B:=w4.heap.size) (Nat.le_refl _))
  have HPD:=zB (show zIA bs zCS from ⟨ys,q,q2,zA HT,zA HTD,Or.inl ⟨by rw [<- zA HK]; exact h29,rfl⟩⟩)
  clear hi1 hy0 hy1 hy2 H4 HF4
  go_wp2_with fail
  go_loopw [8,10] (fun ov iv wr=>∃ (j g' c':Nat) (l':List UInt8),ov = .slice (some ⟨g',0,none⟩) l'.length c' /\ iv = .int .i64 (j:Int) /\ j <= N /\ Hid (l'.length = 2 * j) /\ Hid (zAn wr w4.heap.size (.slice (some ⟨g',0,none⟩) l'.length c') l') /\ Hid (Below w4.heap.size w4 wr)) (fun _ iv _=>N - (intOf iv).toNat)
  case atStart=>exact ⟨0,w4.heap.size,0,[],rfl,rfl,Nat.zero_le _,zB rfl,HR0,zB (zC _ _)⟩
  case round=>
   clear HR0
   obtain ⟨j,g',c',l',rfl,rfl,hj,HL,HRB,HBB⟩:=hrel
   have hll:l'.length <= 2002:=by rw [zA HL]; omega
   have hgl':=(zA HRB).lt
   have zr:=(zA HBB).size
   by_cases hlt:j < N
   ·have hltI:(j:Int) < (N:Int):=by omega
    go_wp2_with (at_builtin; refine wpList_append_own_at _ rfl (.tmp 44) (.tmp 45) 22 rfl w4.heap.size 5 i1 _ 1 1 Tryz.underlying22 (zA HI) (zA HZ).1 (zA HZ).2.1 (zA HZ).2.2 rfl (by decide) _ l'.length (cellsB l') rfl ((zA HRB).below (zC _ _)) ⟨wr.heap.size,0,none⟩ 2 2 (cellsB [45,32]) rfl rfl (by simpa using zJ0 wr 45 32) (zAQ _) ?b1 ?b2 ?b3 ?next)
    case b1=>unfold maxLen; omega
    case b2=>omega
    case b3=>first | omega | (simp; omega)
    case next=>
     intro v5 w5 hown5 hgrow5 hnil5 hat5
     obtain ⟨l5,HL5⟩:∃ l5,Hid (l5 = l' ++ [45,32]):=⟨_,zB rfl⟩
     have hr5:zAn w5 w4.heap.size v5 l5:=zAn.join (us:=l') (vs:=[45,32]) hown5 (zA HL5)
     obtain ⟨g5,c5,rfl⟩:=hr5.has (by rw [zA HL5]; simp)
     have HR5:=zB hr5
     have hgr5:World.grownBy _ w5 (some g'):=hgrow5
     have HB5:=zB (zk ((zA HBB).alloc (zA HBB).size _) hgr5 (fun k hk=>by injection hk with hk; omega) (by simp; omega))
     have HLL:=zB (show l5.length = 2 * (j + 1) by rw [zA HL5,List.length_append,zA HL]; simp; omega)
     clear hown5 hgrow5 hnil5 hat5 hgr5 hr5
     go_wp2_with fail
     exact ⟨⟨j + 1,g5,c5,l5,rfl,by simp,by omega,HLL,HR5,HB5⟩,by simp [intOf]; omega⟩
   ·have hltI:¬ (j:Int) < (N:Int):=by omega
    have rW:=((zA HBB).cell (p:=⟨w.heap.size,0,none⟩) m0).trans rR
    have fW:=((zA HBB).frozen (p:=⟨w.heap.size,0,none⟩) m0).trans fR
    have HRA:=zB ((zA HRB).below (Below.refl _ _).drew)
    have HRC:=zB ((zA HRB).below ((zC wr (.cells #[.int .u8 49] 5)).drew))
    have HXa:=zB (zE7 wr.drew)
    have HXb:=zB (zE7 (wr.alloc (.cells #[.int .u8 49] 5)).drew)
    obtain ⟨l6,HL6⟩:∃ l6,Hid (l6 = l' ++ [49]):=⟨_,zB rfl⟩
    have HLE:=zB (show l'.length + 1 = l6.length by rw [zA HL6]; simp)
    go_wp2_with fail
    go_region_held_law (fun _=>True) (trivial)
     (first
      | (go_at_call 63; (with_reducible refine (zA HXa).mono ?_); rintro e w5 ⟨⟨gm,cm,rfl,hgm,hFm⟩,hb5⟩; have z5:wr.heap.size <= w5.heap.size:=hb5.size; have HM5:=zB hFm; have hgm5:wr.heap.size <= gm:=hgm; have HR5:=zB ((zA HRA).below hb5); have HB5:=zB ((zA HBB).drew.trans (hb5.mono (by show w4.heap.size <= wr.heap.size; omega))); have r5:=(hb5.cell (p:=⟨w.heap.size,0,none⟩) (by show w.heap.size < wr.heap.size; omega)).trans rW; have f5:=(hb5.frozen (p:=⟨w.heap.size,0,none⟩) (by show w.heap.size < wr.heap.size; omega)).trans fW; clear hb5 hgm hFm)
      | (go_at_call 63; (with_reducible refine (zA HXb).mono ?_); rintro e w5 ⟨⟨gm,cm,rfl,hgm,hFm⟩,hb5⟩; have z5:wr.heap.size + 1 <= w5.heap.size:=(by have:=hb5.size; simpa using this); have HM5:=zB hFm; have hgm5:wr.heap.size <= gm:=(by have:wr.heap.size + 1 <= gm:=(by simpa using hgm); omega); have HR5:=zB ((zA HRC).below hb5); have HB5:=zB (((zA HBB).alloc (by omega) (.cells #[.int .u8 49] 5)).drew.trans (hb5.mono (by simp; omega))); have r5:=(hb5.cell (p:=⟨w.heap.size,0,none⟩) (by simp; omega)).trans (((zC wr (.cells #[.int .u8 49] 5)).drew.cell (p:=⟨w.heap.size,0,none⟩) (by show w.heap.size < wr.heap.size; omega)).trans rW); have f5:=(hb5.frozen (p:=⟨w.heap.size,0,none⟩) (by simp; omega)).trans (((zC wr (.cells #[.int .u8 49] 5)).drew.frozen (p:=⟨w.heap.size,0,none⟩) (by show w.heap.size < wr.heap.size; omega)).trans fW); have x5:w5.cell? ⟨wr.heap.size,0,none⟩ = some (.int .u8 49):=(hb5.cell (p:=⟨wr.heap.size,0,none⟩) (by simp)).trans (by simp [go_sem]); clear hb5 hgm hFm)
      | (refine step_append_lies _ (by rfl) (.tmp 48) (.tmp 49) 22 (by rfl) w4.heap.size 5 i1 _ 1 1 Tryz.underlying22 (zA HI) (zA HZ).1 (zA HZ).2.1 (zA HZ).2.2 rfl (by decide) _ l'.length (cellsB l') (by rfl) ?hownA ⟨w5.heap.size,0,none⟩ 1 1 (cellsB [49]) (by rfl) rfl ?hnewsA (zAQ _) (by decide) (by unfold maxLen; omega) (by omega) ?hbaseA _ rfl ?_; exact ((zA HR5).below (zC _ _)); exact (by simpa using zC5 w5 49); (first | omega | (simp; omega)); intro g6 c6 w6 hown6 hgrow6 hat6 hlt6; have HR6:=zB (show zAn w6 w4.heap.size (.slice (some ⟨g6,0,none⟩) (l'.length + 1) c6) l6 from zAn.join (us:=l') (vs:=[49]) hown6 (zA HL6)); have hgr6:World.grownBy _ w6 (some g'):=hgrow6; have HB6:=zB (zk ((zA HB5).alloc (by omega) (.cells #[.int .u8 49] 5)) hgr6 (fun k hk=>by injection hk with hk; omega) (by first | omega | (simp; omega))); have HM6:=zB (zEV ((zA HM5).below (zC w5 (.cells #[.int .u8 49] 5)) (zA HM5).lt1) hgr6 (by omega)); have hg6:w4.heap.size <= g6:=(zA HR6).lt.1; have HRX:=zB (show w6.ownsRow w4.heap.size 5 1 (.slice (some ⟨g6,0,none⟩) (l'.length + 1) c6) (l'.length + 1) (cellsB l6) from (by have h:=zA HR6; unfold zAn at h; rw [<- zA HLE] at h; exact h)); have hcv:=Z3 w6 g6 (l'.length + 1) c6 l6 (zA HLE) (zAv (zA HRX)); have hcv2:=Z3 (w6.setCell ⟨w.heap.size,0,none⟩ (.slice (some ⟨gm,0,none⟩) zCS.length cm)) g6 (l'.length + 1) c6 l6 (zA HLE) (zAv (zD8 (zA HRX) _ _ _ (by simp [Value.ownBlock]; omega))); have r6:=(zG hgr6 (b:=w.heap.size) (by simp; omega) (by intro e; injection e with e; omega) 0).trans (((zC w5 (.cells #[.int .u8 49] 5)).cell (p:=⟨w.heap.size,0,none⟩) (by show w.heap.size < w5.heap.size; omega)).trans r5); have f6:w6.frozen? ⟨w.heap.size,0,none⟩ = false:=((zA HB6).frozen (p:=⟨w.heap.size,0,none⟩) m0).trans fR; clear hown6 hgrow6 hgr6 hat6)
      | (refine step_append_lies _ (by rfl) (.tmp 48) (.tmp 49) 22 (by rfl) w4.heap.size 5 i1 _ 1 1 Tryz.underlying22 (zA HI) (zA HZ).1 (zA HZ).2.1 (zA HZ).2.2 rfl (by decide) _ l'.length (cellsB l') (by rfl) ?hownB ⟨wr.heap.size,0,none⟩ 1 1 (cellsB [49]) (by rfl) rfl ?hnewsB (zAQ _) (by decide) (by unfold maxLen; omega) (by omega) ?hbaseB _ rfl ?_; exact (zA HR5); exact (zLG x5); (first | omega | (simp; omega)); intro g6 c6 w6 hown6 hgrow6 hat6 hlt6; have HR6:=zB (show zAn w6 w4.heap.size (.slice (some ⟨g6,0,none⟩) (l'.length + 1) c6) l6 from zAn.join (us:=l') (vs:=[49]) hown6 (zA HL6)); have hgr6:World.grownBy _ w6 (some g'):=hgrow6; have HB6:=zB (zk (zA HB5) hgr6 (fun k hk=>by injection hk with hk; omega) (by first | omega | (simp; omega))); have HM6:=zB (zEV (zA HM5) hgr6 (by omega)); have hg6:w4.heap.size <= g6:=(zA HR6).lt.1; have HRX:=zB (show w6.ownsRow w4.heap.size 5 1 (.slice (some ⟨g6,0,none⟩) (l'.length + 1) c6) (l'.length + 1) (cellsB l6) from (by have h:=zA HR6; unfold zAn at h; rw [<- zA HLE] at h; exact h)); have hcv:=Z3 w6 g6 (l'.length + 1) c6 l6 (zA HLE) (zAv (zA HRX)); have hcv2:=Z3 (w6.setCell ⟨w.heap.size,0,none⟩ (.slice (some ⟨gm,0,none⟩) zCS.length cm)) g6 (l'.length + 1) c6 l6 (zA HLE) (zAv (zD8 (zA HRX) _ _ _ (by simp [Value.ownBlock]; omega))); have r6:=(zG hgr6 (b:=w.heap.size) (by omega) (by intro e; injection e with e; omega) 0).trans r5; have f6:w6.frozen? ⟨w.heap.size,0,none⟩ = false:=((zA HB6).frozen (p:=⟨w.heap.size,0,none⟩) m0).trans fR; clear hown6 hgrow6 hgr6 hat6))
    all_goals
     go_wp2_with fail
     refine bodyPost_ret (v:=.tuple #[.agg #[.slice (some ⟨gm,0,none⟩) zCS.length cm],.string ⟨l6.toArray⟩]) ?res rfl ⟨⟨gm,cm,zCS,_,rfl,by omega,zB (zm.setCell (zA HM6) _ _ (by show w.heap.size ≠ gm; omega)),HPD,by show l6.toArray.size <= 1048576; rw [List.size_toArray,<- zA HLE]; omega⟩,((zA belR).trans ((zA HB6).mono (by omega))).setCell (Nat.le_refl _) _⟩
     case res=>simp [results,Tryz.results28,go_sem,r6]
 have e29:((k:Int) % 32 == 29) = false:=by simp; omega
 have HPD:=zB (show zIA bs ys from ⟨ys,q,q2,zA HT,zA HTD,Or.inr (Or.inr ⟨by rw [<- zA HK]; exact h29,by rw [<- zA HK]; exact h31,rfl⟩)⟩)
 by_cases h30:k % 32 = 30
 ·have e30:((k:Int) % 32 == 30) = true:=by simp; omega
  obtain ⟨N,HN⟩:∃ N,Hid (N = 20000 + k / 32 % 3 - 1):=⟨_,zB rfl⟩
  have eN:(20000:Int) + (k:Int) / 32 % 3 - 1 = (N:Int):=by have:=zA HN; omega
  have hN:N <= 20001:=by have:=zA HN; omega
  obtain ⟨v0,W0,hr0,hrow0,hb0⟩:=zLz w4 s (by omega)
  obtain ⟨g0,cap0,rfl,hrow0'⟩:=(show ∃ g0 cap0,v0 = .slice (some ⟨g0,0,none⟩) s.data.toList.length cap0 /\ True from by obtain ⟨g,cap,h,_⟩:=hrow0; exact ⟨g,cap,h,trivial⟩)
  have hsl:s.data.toList.length = s.size:=by simp
  have HROW:=zB hrow0
  have HB0:=zB hb0
  clear hrow0 hb0 hrow0' H4
  go_wp2_with fail
  go_loopw [11] (fun ov wr=>∃ n:Nat,n <= N - s.size /\ Hid (zHg wr w4.heap.size ov (s.data.toList ++ List.replicate n (32:UInt8))) /\ Hid (Below w4.heap.size w4 wr)) (fun ov _=>600000 - zOp ov)
  case atStart=>exact ⟨0,Nat.zero_le _,zB (by rw [List.replicate_zero,List.append_nil]; exact zA HROW),HB0⟩
  case round=>
   clear HROW HB0 hr0
   obtain ⟨n,hn,HRw,HBw⟩:=hrel
   obtain ⟨L,HL⟩:∃ L,Hid (L = s.data.toList ++ List.replicate n (32:UInt8)):=⟨_,zB rfl⟩
   rw [<- zA HL] at HRw
   obtain ⟨gL,cL,rfl,hgL⟩:=(show ∃ gL cL,u11 = .slice (some ⟨gL,0,none⟩) L.length cL /\ w4.heap.size <= gL from by obtain ⟨g,cap,h,h',_⟩:=zA HRw; exact ⟨g,cap,h,h'⟩)
   have HLl:=zB (show L.length = s.size + n by rw [zA HL]; simp)
   have hLs:s.size <= L.length:=by rw [zA HLl]; omega
   have hLb:L.length <= 20001 \/ L.length = s.size:=by have:=zA HLl; omega
   have tW:wr.cell? ⟨w3.heap.size,0,none⟩ = some (.slice (some ⟨gt,0,none⟩) ys.length ct):=((zA HBw).cell (p:=⟨w3.heap.size,0,none⟩) m1).trans tR
   by_cases hlt:L.length < N
   ·have hltI:(L.length:Int) < (N:Int):=by omega
    have hL1:L.length <= 1000000:=by omega
    go_wp2_with (at_builtin; refine zIl rfl (.tmp 65) (.tmp 66) rfl w4.heap.size _ L 32 rfl ((zA HRw).below (zC _ _)) (by have:=(zA HBw).size; simp; omega) ⟨wr.heap.size,0,none⟩ rfl (by simp [Addr.add,go_sem]) hL1 ?next)
    case next=>
     intro v' w' hrow' hbel'
     have HR':=zB hrow'
     have HB':=zB ((zA HBw).trans (((zC wr _).mono (zA HBw).size).trans hbel'))
     obtain ⟨g',c',rfl,_⟩:=hrow'
     clear hbel'
     go_wp2_with fail
     refine ⟨⟨n + 1,by have:=zA HLl; omega,zB ?_,HB'⟩,by simp [zOp]; omega⟩
     rw [List.replicate_succ',<- List.append_assoc,<- zA HL]
     exact zA HR'
   ·have hltI:¬ (L.length:Int) < (N:Int):=by omega
    have hL6:L.length <= 600000:=by omega
    obtain ⟨_,_,hv,_,hgs,_,_,_,hcl⟩:=zA HRw
    injection hv with hv1 hv2 hv3
    injection hv1 with hv1
    injection hv1 with hv1
    subst hv1
    have hcs:(convert 22 9 (.slice (some ⟨gL,0,none⟩) L.length cL)).run Tryz.prog wr.drew = .ok (.string ⟨L.toArray⟩) wr.drew:=Z3 wr.drew gL L.length cL L rfl (fun j u hj=>by rw [Addr.add_mid,Nat.zero_add]; exact hcl j u hj)
    have hcs2:(convert 22 9 (.slice (some ⟨gL,0,none⟩) L.length cL)).run Tryz.prog (wr.setCell ⟨w.heap.size,0,none⟩ (.slice (some ⟨gt,0,none⟩) ys.length ct)).drew = .ok (.string ⟨L.toArray⟩) (wr.setCell ⟨w.heap.size,0,none⟩ (.slice (some ⟨gt,0,none⟩) ys.length ct)).drew:=Z3 (wr.setCell ⟨w.heap.size,0,none⟩ (.slice (some ⟨gt,0,none⟩) ys.length ct)).drew gL L.length cL L rfl (fun j u hj=>by rw [Addr.add_mid,Nat.zero_add]; exact (World.cell?_setCell_other _ _ _ _ (fun e=>by injection e with e; omega)).trans (hcl j u hj))
    have rW:wr.cell? ⟨w.heap.size,0,none⟩ = some (.slice none 0 0):=((zA HBw).cell (p:=⟨w.heap.size,0,none⟩) m0).trans rR
    have fW:wr.frozen? ⟨w.heap.size,0,none⟩ = false:=((zA HBw).frozen (p:=⟨w.heap.size,0,none⟩) m0).trans fR
    have belW:Below w.heap.size w wr:=(zA belR).trans ((zA HBw).mono (by omega))
    have HFW:=zB ((zA HF4).below (zA HBw) (zA HF4).lt1)
    clear hcl hv2 hv3
    go_wp2_with fail
    go_region
    all_goals go_wp2
    all_goals
     refine bodyPost_ret (v:=.tuple #[.agg #[.slice (some ⟨gt,0,none⟩) ys.length ct],.string ⟨L.toArray⟩]) ?res rfl ⟨⟨gt,ct,ys,_,rfl,by omega,zB (zm.setCell (zA HFW) _ _ (by simp; omega)),HPD,by show L.toArray.size <= 1048576; rw [List.size_toArray]; omega⟩,zI8 belW⟩
     case res=>simp [results,Tryz.results28,go_sem,rW]
 have e30:((k:Int) % 32 == 30) = false:=by simp; omega
 go_wp2_with fail
 refine bodyPost_ret (v:=.tuple #[.agg #[.slice (some ⟨gt,0,none⟩) ys.length ct],.string s]) ?res rfl ⟨⟨gt,ct,ys,s,rfl,by omega,zB (zm.setCell (zA HF4) _ _ (by show w.heap.size ≠ gt; omega)),HPD,by omega⟩,(zA belR).setCell (Nat.le_refl _) _⟩
 case res=>simp [results,Tryz.results28,go_sem,rR]
end Go.Proofs.YtfboipappaonhaaGreat
namespace Go.Proofs.YtfboipappaonhaaGreat
set_option linter.unusedSimpArgs false
set_option linter.unusedVariables false
set_option maxHeartbeats 16000000
set_option maxRecDepth 100000
open Go.RowKit
open Go.Deep (BT)
theorem zDN (T:ET):(yT T).length = (ySy T).length:=by simp [yT]
theorem zI9 (bz offz cz:Nat) (ns:List OpR) (zs:List zD) (B:Nat) (hbz:bz < B) (hzl:zs.length <= 20000):∀ (T:ET),zBY ns T -> ∀ (s:Nat) (us vs:List Za),zDG zs T s -> s + tsz T <= zs.length -> us.length + (ySy T).length <= 90000 -> vs = us ++ yT T -> zLE bz offz cz zs B (s + tsz T - 1) us vs:=by
 intro T
 induction T with
 | nil=>intro h; exact h.elim
 | node b o t l r ihl ihr=>
  rintro ⟨rfl,h⟩ s us vs ⟨h1,h2,h3⟩ hz hlen hvs
  simp only [tsz] at hz
  have e:s + tsz (.node b 0 t l r) - 1 = s + tsz l + tsz r:=by simp only [tsz]; omega
  rw [e]
  intro u W hW hB hrow
  have hcell:∀ ja jb:Nat,(if zR (b:Int) = 0 then (0:Int) else ((s + tsz l:Nat):Int) - 1) = (ja:Int) -> (if zR (b:Int) = 2 then ((s + tsz l + tsz r:Nat):Int) - 1 else 0) = (jb:Int) -> atN zs (s + tsz l + tsz r) = ⟨(b:Int),t,(ja:Int),(jb:Int)⟩:=fun ja jb ha hb=>by
   rw [h3,tN,ha,hb]
  rcases h with ⟨h12,rfl,rfl⟩ | ⟨rfl,rfl,hl,rfl⟩ | ⟨h35,hk,hl,rfl⟩ | ⟨rfl,hk,hl,hr⟩
  ·have hk0:zR (b:Int) = 0:=by rcases h12 with h | h <;> subst h <;> decide
   refine zGD bz offz cz _ zs (b:Int) t 0 0 B u us vs W hW hbz hB hrow (by simp only [tsz] at hz ⊢; omega) hzl (hcell 0 0 (by rw [if_pos hk0]; rfl) (by rw [if_neg (by omega)]; rfl)) (by omega) (Or.inl ⟨hk0,?_⟩)
   rw [hvs]
   have:yT (.node b 0 t .nil .nil) = [⟨t,false,false⟩]:=by
    simp only [yT,ySy]
    rw [if_neg (by omega),if_neg (by omega),if_neg (by omega),if_neg (by omega)]
    simp [wS]
    omega
   rw [this]
  ·have hp:=hl.sh.pos
   have hy:yT (.node 6 0 ByteArray.empty l .nil) = ⟨opn,false,false⟩ :: (yT l ++ [⟨zA7,false,false⟩]):=by simp [yT,ySy,wS]
   have hy2:(ySy (.node 6 0 ByteArray.empty l .nil)).length = (ySy l).length + 2:=by simp [ySy]
   rw [hy2] at hlen
   refine zGD bz offz cz _ zs 6 ByteArray.empty (s + tsz l - 1) 0 B u us vs W hW hbz hB hrow (by simp only [tsz] at hz ⊢; omega) hzl (hcell _ 0 (by rw [if_neg (by decide)]; omega) (by rw [if_neg (by decide)]; rfl)) (by omega) (Or.inr (Or.inr (Or.inl ⟨rfl,us ++ [⟨opn,false,false⟩],us ++ [⟨opn,false,false⟩] ++ yT l,rfl,ihl hl s _ _ h1 (by omega) (by simp; omega) rfl,?_,?_⟩)))
   ·rw [hvs,hy]; simp
   ·simp [zDN]; omega
  ·have hp:=hl.sh.pos
   rcases h35 with rfl | rfl
   ·have hy:yT (.node 3 0 t l .nil) = ⟨t,true,false⟩ :: yT l:=by simp [yT,ySy,wS]
    have hy2:(ySy (.node 3 0 t l .nil)).length = (ySy l).length + 1:=by simp [ySy]
    rw [hy2] at hlen
    refine zGD bz offz cz _ zs 3 t (s + tsz l - 1) 0 B u us vs W hW hbz hB hrow (by simp only [tsz] at hz ⊢; omega) hzl (hcell _ 0 (by rw [if_neg (by decide)]; omega) (by rw [if_neg (by decide)]; rfl)) (by omega) (Or.inr (Or.inl ⟨rfl,us ++ [⟨t,true,false⟩],rfl,ihl hl s _ _ h1 (by omega) (by simp; omega) ?_⟩))
    rw [hvs,hy]; simp
   ·have hy:yT (.node 5 0 t l .nil) = yT l ++ [⟨t,true,false⟩]:=by simp [yT,ySy,wS]
    have hy2:(ySy (.node 5 0 t l .nil)).length = (ySy l).length + 1:=by simp [ySy]
    rw [hy2] at hlen
    refine zGD bz offz cz _ zs 5 t (s + tsz l - 1) 0 B u us vs W hW hbz hB hrow (by simp only [tsz] at hz ⊢; omega) hzl (hcell _ 0 (by rw [if_neg (by decide)]; omega) (by rw [if_neg (by decide)]; rfl)) (by omega) (Or.inr (Or.inr (Or.inr (Or.inl ⟨rfl,us ++ yT l,ihl hl s _ _ h1 (by omega) (by omega) rfl,?_,?_⟩))))
    ·rw [hvs,hy]; simp
    ·simp [zDN]; omega
  ·have hp:=hl.sh.pos
   have hq:=hr.sh.pos
   have hy:yT (.node 4 0 t l r) = yT l ++ (⟨t,true,true⟩ :: yT r):=by simp [yT,ySy,wS]
   have hy2:(ySy (.node 4 0 t l r)).length = (ySy l).length + (ySy r).length + 1:=by simp [ySy]; omega
   rw [hy2] at hlen
   refine zGD bz offz cz _ zs 4 t (s + tsz l - 1) (s + tsz l + tsz r - 1) B u us vs W hW hbz hB hrow (by omega) hzl (hcell _ _ (by rw [if_neg (by decide)]; omega) (by rw [if_pos (by decide)]; omega)) (by omega) (Or.inr (Or.inr (Or.inr (Or.inr ⟨rfl,us ++ yT l,us ++ yT l ++ [⟨t,true,true⟩],ihl hl s _ _ h1 (by omega) (by omega) rfl,rfl,ihr hr (s + tsz l) _ _ h2 (by omega) (by simp [zDN]; omega) ?_,?_⟩))))
   ·rw [hvs,hy]; simp
   ·simp [zDN]; omega
end Go.Proofs.YtfboipappaonhaaGreat
