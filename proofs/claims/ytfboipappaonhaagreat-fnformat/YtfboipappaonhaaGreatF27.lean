import Derived.Deep.RegionHeldLaw
import Derived.Deep.AppendLies
import Derived.Test.YtfboipappaonhaaGreatF08
import Derived.Test.YtfboipappaonhaaGreatF12
import Derived.Test.YtfboipappaonhaaGreatF16
import Derived.Test.YtfboipappaonhaaGreatF25
import Derived.Test.YtfboipappaonhaaGreatF26
namespace Go.Proofs.YtfboipappaonhaaGreat
set_option linter.unusedSimpArgs false
set_option linter.unusedVariables false
set_option maxHeartbeats 16000000
set_option maxRecDepth 100000
open Go.RowKit
theorem zLL (w:World) (b b':UInt8):∀ j u,(cellsB [b,b'])[j]?=some u->(w.alloc (.cells #[.int .u8 (b.toNat:Int),.int .u8 (b'.toNat:Int)] 5)).cell? ((⟨w.heap.size,0,none⟩:Addr).add j)=some u:=by
 intro j u hj
 rw [Addr.add_mid]
 have:=World.rangeAt_of_block (w:=w.alloc (.cells #[.int .u8 (b.toNat:Int),.int .u8 (b'.toNat:Int)] 5)) (b:=w.heap.size) (heap_alloc_new w _) 0 2
 exact this j u (by simpa [cellsB] using hj)
theorem zMc {w:World} {g:Nat} {b:UInt8} (h:w.cell? ⟨g,0,none⟩=some (.int .u8 (b.toNat:Int))):∀ j u,(cellsB [b])[j]?=some u->w.cell? ((⟨g,0,none⟩:Addr).add j)=some u:=by
 intro j u hj
 rw [Addr.add_mid,Nat.zero_add]
 match j,hj with
 | 0,hj=>simp [cellsB] at hj; subst hj; exact h
theorem zFM {w w':World} {g b k:Nat} {xs:List OpR} (ho:zt w b xs k) (hg:w.grownBy w' (some g)) (hne:g≠b):zt w' b xs k:=by
 obtain ⟨a1,a2,a3⟩:=ho
 have hb:=hg.block b a1 (fun e=>hne (by injection e with e; exact e.symm))
 refine ⟨Nat.lt_of_lt_of_le a1 hg.size,fun j hj=>?_,fun i hi=>?_⟩
 ·obtain ⟨c1,c2⟩:=a2 j hj
  exact ⟨by rw [World.cell?_of_block (w:=w) (w':=w') (a:=⟨b,0+j,none⟩) hb]; exact c1,by rw [World.frozen?_of_block (w:=w) (w':=w') (a:=⟨b,0+j,none⟩) hb]; exact c2⟩
 ·obtain ⟨c0,c1,c2,c3⟩:=a3 i hi
  exact ⟨(World.cell?_of_block (w:=w) hb).trans c0,(World.cell?_of_block (w:=w) hb).trans c1,(World.cell?_of_block (w:=w) hb).trans c2,(World.cell?_of_block (w:=w) hb).trans c3⟩
theorem zKQ {B b:Nat} {w wr:World} {v:Value} (h:Below B w wr) (hb:B<=b:=by simp):Below B w (wr.drew.setCell ⟨b,0,none⟩ v):=(h.trans ((Below.refl _ _).drew)).setCell hb _
def zOB (bs:List UInt8) (w:World) (e:Ending) (w':World):Prop:=
 (∃ (gt ct:Nat) (ns:List OpR) (s:ByteArray),e = .returned (.tuple #[.agg #[.slice (some ⟨gt,0,none⟩) ns.length ct],.string s])/\w.heap.size<=gt/\Hid (zt w' gt ns ns.length)/\Hid (zJQ bs ns)/\s.size<=1048576)/\Below w.heap.size w w'
theorem zHw (a:Option Addr) (cap:Nat) (l:List UInt8) (w:World) (hl:l.length<=1048576) (hcap:l.length<=cap) (h:zIk w a l) :
  Calls Tryz.prog 28 #[.slice a l.length cap] w (zOB (zGG l) w):=by
 have HA:=zB h
 clear h
 obtain ⟨bs,HBS⟩:∃ bs,Hid (bs=zGG l):=⟨_,zB rfl⟩
 have hbl:bs.length<=1200:=by rw [zA HBS]; exact zNO l
 rw [<- zA HBS]
 go_enter Tryz.func28,Tryz.ntmps28
 go_wp2_with fail
 have HB0:=zB (zC w (.cells #[.slice none 0 0] 25))
 (with_reducible refine (zKr a cap l _ hl hcap ((zA HA).step (zA HB0))).mono ?_)
 rintro e w1 ⟨⟨rp,cap',rfl,hrp,H1⟩,hb1⟩
 rw [<- zA HBS] at H1
 have z1:w.heap.size+1<=w1.heap.size:=by have:=hb1.size; simpa using this
 have hrp2:w.heap.size+1<=rp:=by simpa using hrp
 have q0:w1.cell? ⟨w.heap.size,0,none⟩=some (.slice none 0 0):=(hb1.cell (p:=⟨w.heap.size,0,none⟩) (by simp)).trans (by simp [go_sem])
 have g0:w1.frozen? ⟨w.heap.size,0,none⟩=false:=(hb1.frozen (p:=⟨w.heap.size,0,none⟩) (by simp)).trans (by simp [go_sem])
 have bel1:=zB ((zA HB0).trans (hb1.mono (by simp)))
 have hrl:=(zA H1).lt
 clear hb1 HB0 hrp HA
 go_wp2_with fail
 (with_reducible refine (zAC rp cap' 0 a bs _ (zA H1) hbl).mono ?_)
 rintro e w2 ⟨⟨k,rfl,hk,HK⟩,H2,HP2⟩
 have z2:=(zA HP2).size
 clear H1
 go_wp2_with fail
 (with_reducible refine (zGH rp cap' (adv bs 0) a bs _ (zA H2) hbl).mono ?_)
 rintro e w3 ⟨⟨gt,ct,q,ys,rfl,hgt,hF,HT,H3⟩,HP3⟩
 have hy1:=(zA HT).len
 have h38:=Nat.mod_lt (nxt bs (adv bs 0)) (show 0<8 by decide)
 have hy10:ys.length<=10:=by omega
 have HYS:=zB hy1.2
 have HYA:=zB (zOm hy1.2)
 have HYK:=zB (zA HT).kinds
 have z3:=(zA HP3).size
 have hgl:=hF.1
 have hgr:gt≠rp:=by omega
 have HB3:=zB (zC w3 (.cells #[.slice (some ⟨gt,0,none⟩) ys.length ct] 25))
 have HF3:=zB (hF.below (zA HB3) hgl)
 have HX:=zB (zHO rp cap' q gt ct a bs ys ((k:Int)%3==2) _ ((zA H3).below (zA HB3)) hbl hy10 (zA HF3) hgr (zA HYA) (zA HYK))
 clear hy1 h38 H2 H3 hF
 go_wp2_with fail
 (with_reducible refine (zA HX).mono ?_)
 rintro e w4 ⟨⟨s,q2,rfl,hss,HD4,H4⟩,HP4⟩
 have z4:w3.heap.size+1<=w4.heap.size:=by have:=(zA HP4).size; simpa using this
 have HF4:=zB ((zA HP4).filled (zA HF3) hgr)
 have tR:w4.cell? ⟨w3.heap.size,0,none⟩=some (.slice (some ⟨gt,0,none⟩) ys.length ct):=((zA HP4).cell (b:=w3.heap.size) (by simp) (by omega) 0).trans (by simp [go_sem])
 have tF:w4.frozen? ⟨w3.heap.size,0,none⟩=false:=((zA HP4).frozen (b:=w3.heap.size) (by simp) (by omega) 0).trans (by simp [go_sem])
 have kc:=fun (b:Nat) (hb:b<w1.heap.size) (h1:b≠rp)=>((zA HP4).cell (b:=b) (by simp; omega) h1 0).trans (((zA HB3).cell (p:=⟨b,0,none⟩) (by show b<w3.heap.size; omega)).trans (((zA HP3).cell (b:=b) (by omega) h1 0).trans ((zA HP2).cell (b:=b) hb h1 0)))
 have kf:=fun (b:Nat) (hb:b<w1.heap.size) (h1:b≠rp)=>((zA HP4).frozen (b:=b) (by simp; omega) h1 0).trans (((zA HB3).frozen (p:=⟨b,0,none⟩) (by show b<w3.heap.size; omega)).trans (((zA HP3).frozen (b:=b) (by omega) h1 0).trans ((zA HP2).frozen (b:=b) hb h1 0)))
 have rR:=(kc w.heap.size (by omega) (by omega)).trans q0
 have fR:=(kf w.heap.size (by omega) (by omega)).trans g0
 have belR:=zB ((((zA bel1).trans ((zA HP2).below (B:=w.heap.size) (by omega) (by omega))).trans ((zA HP3).below (B:=w.heap.size) (by omega) (by omega))).trans (((zA HB3).mono (by omega)).trans ((zA HP4).below (B:=w.heap.size) (by simp; omega) (by omega))))
 have HTD:=zB (show zMb bs ys (decide (nxt bs 0%3=2)) q q2 by
  have e:((k:Int)%3==2)=decide (nxt bs 0%3=2):=by rw [<- zA HK,Bool.eq_iff_iff,decide_eq_true_eq,beq_iff_eq]; omega
  rw [<- e]; exact zA HD4)
 have m0:w.heap.size<w4.heap.size:=by omega
 have n0:¬ w.heap.size=w3.heap.size:=by omega
 have n1:¬ w3.heap.size=w.heap.size:=by omega
 have m1:w3.heap.size<w4.heap.size:=by omega
 clear HX HD4 HP4 HB3 HF3 HP2 HP3 kc kf q0 g0 bel1
 by_cases h31:k%32=31
 ·have e31:((k:Int)%32==31)=true:=by simp; omega
  have e29:((k:Int)%32==29)=false:=by simp; omega
  have e30:((k:Int)%32==30)=false:=by simp; omega
  obtain ⟨ms,HMS⟩:∃ ms,Hid (zCl ys bs q2=ms):=⟨_,zB rfl⟩
  have HC:=zB (zJR rp cap' q2 gt ct a bs ys _ (zA H4) hbl hy10 (zA HF4) (by omega) (fun i hi=>by have:=(zA HYS) i hi; omega))
  rw [zA HMS] at HC
  have HPD:=zB (show zJQ bs ms from ⟨ys,q,q2,zA HT,zA HTD,Or.inr (Or.inl ⟨by rw [<- zA HK]; exact h31,(zA HMS).symm⟩)⟩)
  go_wp2_with fail
  (with_reducible refine (zA HC).mono ?_)
  rintro e w5 ⟨⟨g',c',rfl,hg',hF5⟩,H5,HP5⟩
  have z5:=(zA HP5).size
  have t5:=((zA HP5).cell (b:=w3.heap.size) (by omega) (by omega) (by omega) 0).trans tR
  have tf5:=((zA HP5).frozen (b:=w3.heap.size) (by omega) (by omega) (by omega) 0).trans tF
  have r5:=((zA HP5).cell (b:=w.heap.size) (by omega) (by omega) (by omega) 0).trans rR
  have rf5:=((zA HP5).frozen (b:=w.heap.size) (by omega) (by omega) (by omega) 0).trans fR
  have HF5:=zB hF5
  have hgl5:=hF5.1
  have bel5:=zB (show Below w.heap.size w w5 from (zA belR).trans ⟨(zA HP5).os,(zA HP5).tape,(zA HP5).output,(zA HP5).size,fun i hi=>(zA HP5).block i (by omega) (by omega) (by omega)⟩)
  have hg5:w.heap.size+1<=g'/\g'≠w3.heap.size:=by omega
  clear HC hF5 HP5 H5
  go_wp2_with fail
  refine bodyPost_ret (v:=.tuple #[.agg #[.slice (some ⟨g',0,none⟩) ms.length c'],.string s]) ?res rfl ⟨⟨g',c',ms,s,rfl,by omega,zB (zt.setCell (zt.setCell (zA HF5) _ _ (by show w3.heap.size≠g'; omega)) _ _ (by show w.heap.size≠g'; omega)),HPD,by omega⟩,((zA bel5).setCell (by show w.heap.size<=w3.heap.size; omega) _).setCell (Nat.le_refl _) _⟩
  case res=>simp [results,Tryz.results28,go_sem,r5,t5,n0,n1]
 have e31:((k:Int)%32==31)=false:=by simp; omega
 by_cases h29:k%32=29
 ·have e29:((k:Int)%32==29)=true:=by simp; omega
  obtain ⟨N,HN⟩:∃ N,Hid (N=1000+k/32%4-2):=⟨_,zB rfl⟩
  have eN:(1000:Int)+(k:Int)/32%4-2=(N:Int):=by have:=zA HN; omega
  have hN:N<=1001:=by have:=zA HN; omega
  obtain ⟨i1,hi1,hy0,hy1,hy2⟩:=zl infoByte
  have HI:=zB hi1
  have HZ:=zB (And.intro hy0 (And.intro hy1 hy2))
  have HR0:=zB (zA4.nil (w:=w4) (B:=w4.heap.size) (Nat.le_refl _))
  have HPD:=zB (show zJQ bs zCj from ⟨ys,q,q2,zA HT,zA HTD,Or.inl ⟨by rw [<- zA HK]; exact h29,rfl⟩⟩)
  clear hi1 hy0 hy1 hy2 H4 HF4
  go_wp2_with fail
  go_loopw [8,10] (fun ov iv wr=>∃ (j g' c':Nat) (l':List UInt8),ov = .slice (some ⟨g',0,none⟩) l'.length c'/\iv = .int .i64 (j:Int)/\j<=N/\Hid (l'.length=2*j)/\Hid (zA4 wr w4.heap.size (.slice (some ⟨g',0,none⟩) l'.length c') l')/\Hid (Below w4.heap.size w4 wr)) (fun _ iv _=>N-(intOf iv).toNat)
  case atStart=>exact ⟨0,w4.heap.size,0,[],rfl,rfl,Nat.zero_le _,zB rfl,HR0,zB (zC _ _)⟩
  case round=>
   clear HR0
   obtain ⟨j,g',c',l',rfl,rfl,hj,HL,HRB,HBB⟩:=hrel
   have hll:l'.length<=2002:=by rw [zA HL]; omega
   have hgl':=(zA HRB).lt
   have zr:=(zA HBB).size
   by_cases hlt:j<N
   ·have hltI:(j:Int)<(N:Int):=by omega
    go_wp2_with (at_builtin; refine wpList_append_own_at _ rfl (.tmp 44) (.tmp 45) 22 rfl w4.heap.size 5 i1 _ 1 1 Tryz.underlying22 (zA HI) (zA HZ).1 (zA HZ).2.1 (zA HZ).2.2 rfl (by decide) _ l'.length (cellsB l') rfl ((zA HRB).below (zC _ _)) ⟨wr.heap.size,0,none⟩ 2 2 (cellsB [45,32]) rfl rfl (by simpa using zLL wr 45 32) (Zo _) ?b1 ?b2 ?b3 ?next)
    case b1=>unfold maxLen; omega
    case b2=>omega
    case b3=>first | omega | (simp; omega)
    case next=>
     intro v5 w5 hown5 hgrow5 hnil5 hat5
     obtain ⟨l5,HL5⟩:∃ l5,Hid (l5=l'++[45,32]):=⟨_,zB rfl⟩
     have hr5:zA4 w5 w4.heap.size v5 l5:=zA4.join (us:=l') (vs:=[45,32]) hown5 (zA HL5)
     obtain ⟨g5,c5,rfl⟩:=hr5.has (by rw [zA HL5]; simp)
     have HR5:=zB hr5
     have hgr5:World.grownBy _ w5 (some g'):=hgrow5
     have HB5:=zB (ZD ((zA HBB).alloc (zA HBB).size _) hgr5 (fun k hk=>by injection hk with hk; omega) (by simp; omega))
     have HLL:=zB (show l5.length=2*(j+1) by rw [zA HL5,List.length_append,zA HL]; simp; omega)
     clear hown5 hgrow5 hnil5 hat5 hgr5 hr5
     go_wp2_with fail
     exact ⟨⟨j+1,g5,c5,l5,rfl,by simp,by omega,HLL,HR5,HB5⟩,by simp [intOf]; omega⟩
   ·have hltI:¬ (j:Int)<(N:Int):=by omega
    have rW:=((zA HBB).cell (p:=⟨w.heap.size,0,none⟩) m0).trans rR
    have fW:=((zA HBB).frozen (p:=⟨w.heap.size,0,none⟩) m0).trans fR
    have HRA:=zB ((zA HRB).below (Below.refl _ _).drew)
    have HRC:=zB ((zA HRB).below ((zC wr (.cells #[.int .u8 49] 5)).drew))
    have HXa:=zB (zF2 wr.drew)
    have HXb:=zB (zF2 (wr.alloc (.cells #[.int .u8 49] 5)).drew)
    obtain ⟨l6,HL6⟩:∃ l6,Hid (l6=l'++[49]):=⟨_,zB rfl⟩
    have HLE:=zB (show l'.length+1=l6.length by rw [zA HL6]; simp)
    go_wp2_with fail
    go_region_held_law (fun _=>True) (trivial)
     (first
      | (go_at_call 63; (with_reducible refine (zA HXa).mono ?_); rintro e w5 ⟨⟨gm,cm,rfl,hgm,hFm⟩,hb5⟩; have z5:wr.heap.size<=w5.heap.size:=hb5.size; have HM5:=zB hFm; have hgm5:wr.heap.size<=gm:=hgm; have HR5:=zB ((zA HRA).below hb5); have HB5:=zB ((zA HBB).drew.trans (hb5.mono (by show w4.heap.size<=wr.heap.size; omega))); have r5:=(hb5.cell (p:=⟨w.heap.size,0,none⟩) (by show w.heap.size<wr.heap.size; omega)).trans rW; have f5:=(hb5.frozen (p:=⟨w.heap.size,0,none⟩) (by show w.heap.size<wr.heap.size; omega)).trans fW; clear hb5 hgm hFm)
      | (go_at_call 63; (with_reducible refine (zA HXb).mono ?_); rintro e w5 ⟨⟨gm,cm,rfl,hgm,hFm⟩,hb5⟩; have z5:wr.heap.size+1<=w5.heap.size:=(by have:=hb5.size; simpa using this); have HM5:=zB hFm; have hgm5:wr.heap.size<=gm:=(by have:wr.heap.size+1<=gm:=(by simpa using hgm); omega); have HR5:=zB ((zA HRC).below hb5); have HB5:=zB (((zA HBB).alloc (by omega) (.cells #[.int .u8 49] 5)).drew.trans (hb5.mono (by simp; omega))); have r5:=(hb5.cell (p:=⟨w.heap.size,0,none⟩) (by simp; omega)).trans (((zC wr (.cells #[.int .u8 49] 5)).drew.cell (p:=⟨w.heap.size,0,none⟩) (by show w.heap.size<wr.heap.size; omega)).trans rW); have f5:=(hb5.frozen (p:=⟨w.heap.size,0,none⟩) (by simp; omega)).trans (((zC wr (.cells #[.int .u8 49] 5)).drew.frozen (p:=⟨w.heap.size,0,none⟩) (by show w.heap.size<wr.heap.size; omega)).trans fW); have x5:w5.cell? ⟨wr.heap.size,0,none⟩=some (.int .u8 49):=(hb5.cell (p:=⟨wr.heap.size,0,none⟩) (by simp)).trans (by simp [go_sem]); clear hb5 hgm hFm)
      | (refine step_append_lies _ (by rfl) (.tmp 48) (.tmp 49) 22 (by rfl) w4.heap.size 5 i1 _ 1 1 Tryz.underlying22 (zA HI) (zA HZ).1 (zA HZ).2.1 (zA HZ).2.2 rfl (by decide) _ l'.length (cellsB l') (by rfl) ?hownA ⟨w5.heap.size,0,none⟩ 1 1 (cellsB [49]) (by rfl) rfl ?hnewsA (Zo _) (by decide) (by unfold maxLen; omega) (by omega) ?hbaseA _ rfl ?_; exact ((zA HR5).below (zC _ _)); exact (by simpa using zDh w5 49); (first | omega | (simp; omega)); intro g6 c6 w6 hown6 hgrow6 hat6 hlt6; have HR6:=zB (show zA4 w6 w4.heap.size (.slice (some ⟨g6,0,none⟩) (l'.length+1) c6) l6 from zA4.join (us:=l') (vs:=[49]) hown6 (zA HL6)); have hgr6:World.grownBy _ w6 (some g'):=hgrow6; have HB6:=zB (ZD ((zA HB5).alloc (by omega) (.cells #[.int .u8 49] 5)) hgr6 (fun k hk=>by injection hk with hk; omega) (by first | omega | (simp; omega))); have HM6:=zB (zFM ((zA HM5).below (zC w5 (.cells #[.int .u8 49] 5)) (zA HM5).lt1) hgr6 (by omega)); have hg6:w4.heap.size<=g6:=(zA HR6).lt.1; have HRX:=zB (show w6.ownsRow w4.heap.size 5 1 (.slice (some ⟨g6,0,none⟩) (l'.length+1) c6) (l'.length+1) (cellsB l6) from (by have h:=zA HR6; unfold zA4 at h; rw [<- zA HLE] at h; exact h)); have hcv:=Z1 w6 g6 (l'.length+1) c6 l6 (zA HLE) (zAm (zA HRX)); have hcv2:=Z1 (w6.setCell ⟨w.heap.size,0,none⟩ (.slice (some ⟨gm,0,none⟩) zCj.length cm)) g6 (l'.length+1) c6 l6 (zA HLE) (zAm (zEw (zA HRX) _ _ _ (by simp [Value.ownBlock]; omega))); have r6:=(zH hgr6 (b:=w.heap.size) (by simp; omega) (by intro e; injection e with e; omega) 0).trans (((zC w5 (.cells #[.int .u8 49] 5)).cell (p:=⟨w.heap.size,0,none⟩) (by show w.heap.size<w5.heap.size; omega)).trans r5); have f6:w6.frozen? ⟨w.heap.size,0,none⟩=false:=((zA HB6).frozen (p:=⟨w.heap.size,0,none⟩) m0).trans fR; clear hown6 hgrow6 hgr6 hat6)
      | (refine step_append_lies _ (by rfl) (.tmp 48) (.tmp 49) 22 (by rfl) w4.heap.size 5 i1 _ 1 1 Tryz.underlying22 (zA HI) (zA HZ).1 (zA HZ).2.1 (zA HZ).2.2 rfl (by decide) _ l'.length (cellsB l') (by rfl) ?hownB ⟨wr.heap.size,0,none⟩ 1 1 (cellsB [49]) (by rfl) rfl ?hnewsB (Zo _) (by decide) (by unfold maxLen; omega) (by omega) ?hbaseB _ rfl ?_; exact (zA HR5); exact (zMc x5); (first | omega | (simp; omega)); intro g6 c6 w6 hown6 hgrow6 hat6 hlt6; have HR6:=zB (show zA4 w6 w4.heap.size (.slice (some ⟨g6,0,none⟩) (l'.length+1) c6) l6 from zA4.join (us:=l') (vs:=[49]) hown6 (zA HL6)); have hgr6:World.grownBy _ w6 (some g'):=hgrow6; have HB6:=zB (ZD (zA HB5) hgr6 (fun k hk=>by injection hk with hk; omega) (by first | omega | (simp; omega))); have HM6:=zB (zFM (zA HM5) hgr6 (by omega)); have hg6:w4.heap.size<=g6:=(zA HR6).lt.1; have HRX:=zB (show w6.ownsRow w4.heap.size 5 1 (.slice (some ⟨g6,0,none⟩) (l'.length+1) c6) (l'.length+1) (cellsB l6) from (by have h:=zA HR6; unfold zA4 at h; rw [<- zA HLE] at h; exact h)); have hcv:=Z1 w6 g6 (l'.length+1) c6 l6 (zA HLE) (zAm (zA HRX)); have hcv2:=Z1 (w6.setCell ⟨w.heap.size,0,none⟩ (.slice (some ⟨gm,0,none⟩) zCj.length cm)) g6 (l'.length+1) c6 l6 (zA HLE) (zAm (zEw (zA HRX) _ _ _ (by simp [Value.ownBlock]; omega))); have r6:=(zH hgr6 (b:=w.heap.size) (by omega) (by intro e; injection e with e; omega) 0).trans r5; have f6:w6.frozen? ⟨w.heap.size,0,none⟩=false:=((zA HB6).frozen (p:=⟨w.heap.size,0,none⟩) m0).trans fR; clear hown6 hgrow6 hgr6 hat6))
    all_goals
     go_wp2_with fail
     refine bodyPost_ret (v:=.tuple #[.agg #[.slice (some ⟨gm,0,none⟩) zCj.length cm],.string ⟨l6.toArray⟩]) ?res rfl ⟨⟨gm,cm,zCj,_,rfl,by omega,zB (zt.setCell (zA HM6) _ _ (by show w.heap.size≠gm; omega)),HPD,by show l6.toArray.size<=1048576; rw [List.size_toArray,<- zA HLE]; omega⟩,((zA belR).trans ((zA HB6).mono (by omega))).setCell (Nat.le_refl _) _⟩
     case res=>simp [results,Tryz.results28,go_sem,r6]
 have e29:((k:Int)%32==29)=false:=by simp; omega
 have HPD:=zB (show zJQ bs ys from ⟨ys,q,q2,zA HT,zA HTD,Or.inr (Or.inr ⟨by rw [<- zA HK]; exact h29,by rw [<- zA HK]; exact h31,rfl⟩)⟩)
 by_cases h30:k%32=30
 ·have e30:((k:Int)%32==30)=true:=by simp; omega
  obtain ⟨N,HN⟩:∃ N,Hid (N=20000+k/32%3-1):=⟨_,zB rfl⟩
  have eN:(20000:Int)+(k:Int)/32%3-1=(N:Int):=by have:=zA HN; omega
  have hN:N<=20001:=by have:=zA HN; omega
  obtain ⟨v0,W0,hr0,hrow0,hb0⟩:=zNM w4 s (by omega)
  obtain ⟨g0,cap0,rfl,hrow0'⟩:=(show ∃ g0 cap0,v0 = .slice (some ⟨g0,0,none⟩) s.data.toList.length cap0/\True from by obtain ⟨g,cap,h,_⟩:=hrow0; exact ⟨g,cap,h,trivial⟩)
  have hsl:s.data.toList.length=s.size:=by simp
  have HROW:=zB hrow0
  have HB0:=zB hb0
  clear hrow0 hb0 hrow0' H4
  go_wp2_with fail
  go_loopw [11] (fun ov wr=>∃ n:Nat,n<=N-s.size/\Hid (zIs wr w4.heap.size ov (s.data.toList++List.replicate n (32:UInt8)))/\Hid (Below w4.heap.size w4 wr)) (fun ov _=>600000-zQj ov)
  case atStart=>exact ⟨0,Nat.zero_le _,zB (by rw [List.replicate_zero,List.append_nil]; exact zA HROW),HB0⟩
  case round=>
   clear HROW HB0 hr0
   obtain ⟨n,hn,HRw,HBw⟩:=hrel
   obtain ⟨L,HL⟩:∃ L,Hid (L=s.data.toList++List.replicate n (32:UInt8)):=⟨_,zB rfl⟩
   rw [<- zA HL] at HRw
   obtain ⟨gL,cL,rfl,hgL⟩:=(show ∃ gL cL,u11 = .slice (some ⟨gL,0,none⟩) L.length cL/\w4.heap.size<=gL from by obtain ⟨g,cap,h,h',_⟩:=zA HRw; exact ⟨g,cap,h,h'⟩)
   have HLl:=zB (show L.length=s.size+n by rw [zA HL]; simp)
   have hLs:s.size<=L.length:=by rw [zA HLl]; omega
   have hLb:L.length<=20001\/L.length=s.size:=by have:=zA HLl; omega
   have tW:wr.cell? ⟨w3.heap.size,0,none⟩=some (.slice (some ⟨gt,0,none⟩) ys.length ct):=((zA HBw).cell (p:=⟨w3.heap.size,0,none⟩) m1).trans tR
   by_cases hlt:L.length<N
   ·have hltI:(L.length:Int)<(N:Int):=by omega
    have hL1:L.length<=1000000:=by omega
    go_wp2_with (at_builtin; refine zJ3 rfl (.tmp 65) (.tmp 66) rfl w4.heap.size _ L 32 rfl ((zA HRw).below (zC _ _)) (by have:=(zA HBw).size; simp; omega) ⟨wr.heap.size,0,none⟩ rfl (by simp [Addr.add,go_sem]) hL1 ?next)
    case next=>
     intro v' w' hrow' hbel'
     have HR':=zB hrow'
     have HB':=zB ((zA HBw).trans (((zC wr _).mono (zA HBw).size).trans hbel'))
     obtain ⟨g',c',rfl,_⟩:=hrow'
     clear hbel'
     go_wp2_with fail
     refine ⟨⟨n+1,by have:=zA HLl; omega,zB ?_,HB'⟩,by simp [zQj]; omega⟩
     rw [List.replicate_succ',<- List.append_assoc,<- zA HL]
     exact zA HR'
   ·have hltI:¬ (L.length:Int)<(N:Int):=by omega
    have hL6:L.length<=600000:=by omega
    obtain ⟨_,_,hv,_,hgs,_,_,_,hcl⟩:=zA HRw
    injection hv with hv1 hv2 hv3
    injection hv1 with hv1
    injection hv1 with hv1
    subst hv1
    have hcs:(convert 22 9 (.slice (some ⟨gL,0,none⟩) L.length cL)).run Tryz.prog wr.drew = .ok (.string ⟨L.toArray⟩) wr.drew:=Z1 wr.drew gL L.length cL L rfl (fun j u hj=>by rw [Addr.add_mid,Nat.zero_add]; exact hcl j u hj)
    have hcs2:(convert 22 9 (.slice (some ⟨gL,0,none⟩) L.length cL)).run Tryz.prog (wr.setCell ⟨w.heap.size,0,none⟩ (.slice (some ⟨gt,0,none⟩) ys.length ct)).drew = .ok (.string ⟨L.toArray⟩) (wr.setCell ⟨w.heap.size,0,none⟩ (.slice (some ⟨gt,0,none⟩) ys.length ct)).drew:=Z1 (wr.setCell ⟨w.heap.size,0,none⟩ (.slice (some ⟨gt,0,none⟩) ys.length ct)).drew gL L.length cL L rfl (fun j u hj=>by rw [Addr.add_mid,Nat.zero_add]; exact (World.cell?_setCell_other _ _ _ _ (fun e=>by injection e with e; omega)).trans (hcl j u hj))
    have rW:wr.cell? ⟨w.heap.size,0,none⟩=some (.slice none 0 0):=((zA HBw).cell (p:=⟨w.heap.size,0,none⟩) m0).trans rR
    have fW:wr.frozen? ⟨w.heap.size,0,none⟩=false:=((zA HBw).frozen (p:=⟨w.heap.size,0,none⟩) m0).trans fR
    have belW:Below w.heap.size w wr:=(zA belR).trans ((zA HBw).mono (by omega))
    have HFW:=zB ((zA HF4).below (zA HBw) (zA HF4).lt1)
    clear hcl hv2 hv3
    go_wp2_with fail
    go_region
    all_goals go_wp2
    all_goals
     refine bodyPost_ret (v:=.tuple #[.agg #[.slice (some ⟨gt,0,none⟩) ys.length ct],.string ⟨L.toArray⟩]) ?res rfl ⟨⟨gt,ct,ys,_,rfl,by omega,zB (zt.setCell (zA HFW) _ _ (by simp; omega)),HPD,by show L.toArray.size<=1048576; rw [List.size_toArray]; omega⟩,zKQ belW⟩
     case res=>simp [results,Tryz.results28,go_sem,rW]
 have e30:((k:Int)%32==30)=false:=by simp; omega
 go_wp2_with fail
 refine bodyPost_ret (v:=.tuple #[.agg #[.slice (some ⟨gt,0,none⟩) ys.length ct],.string s]) ?res rfl ⟨⟨gt,ct,ys,s,rfl,by omega,zB (zt.setCell (zA HF4) _ _ (by show w.heap.size≠gt; omega)),HPD,by omega⟩,(zA belR).setCell (Nat.le_refl _) _⟩
 case res=>simp [results,Tryz.results28,go_sem,rR]
theorem zD2 (a:Option Addr) (cap:Nat) (l:List UInt8) (w:World) (hl:l.length<=1048576) (hcap:l.length<=cap) (h:zIk w a l) :
  Calls Tryz.prog 24 #[.slice a l.length cap] w (zOB (zGG l) w):=by
 have HA:=zB h
 clear h
 go_enter Tryz.func24,Tryz.ntmps24
 go_wp2_with fail
 have HB0:=zB (zC w (.cells #[.slice none 0 0] 25))
 (with_reducible refine (zHw a cap l _ hl hcap ((zA HA).step (zA HB0))).mono ?_)
 rintro e w1 ⟨⟨gt,ct,ns,s,rfl,hgt,hF,hD,hs⟩,hb1⟩
 have z1:w.heap.size+1<=w1.heap.size:=by have:=hb1.size; simpa using this
 have hgt2:w.heap.size+1<=gt:=by simpa using hgt
 have q0:w1.cell? ⟨w.heap.size,0,none⟩=some (.slice none 0 0):=(hb1.cell (p:=⟨w.heap.size,0,none⟩) (by simp)).trans (by simp [go_sem])
 have g0:w1.frozen? ⟨w.heap.size,0,none⟩=false:=(hb1.frozen (p:=⟨w.heap.size,0,none⟩) (by simp)).trans (by simp [go_sem])
 have l0:w.heap.size<w1.heap.size:=by omega
 have bel1:=zB ((zA HB0).trans (hb1.mono (by simp)))
 clear hb1 HB0 hgt
 go_wp2_with fail
 refine bodyPost_ret (v:=.tuple #[.agg #[.slice (some ⟨gt,0,none⟩) ns.length ct],.string s]) ?res rfl ⟨⟨gt,ct,ns,s,rfl,by omega,zB (zt.setCell (zA hF) _ _ (by show w.heap.size≠gt; omega)),hD,hs⟩,(zA bel1).setCell (Nat.le_refl _) _⟩
 case res=>simp [results,Tryz.results24,go_sem,q0,l0]
theorem zHP {ns:List OpR} {xs:List zD} {T:ET} {s:Nat} (h:Sh T) (hl:zBr xs T s):Zd ns (atN xs (s+tsz T-1))=lvT ns T:=by
 cases T with
 | nil=>exact h.elim
 | node b o t l r=>
  obtain ⟨_,_,h3⟩:=hl
  have e:s+tsz (.node b o t l r)-1=s+tsz l+tsz r:=by simp only [tsz]; omega
  rw [e,h3]
  exact zIw ns _ b t rfl rfl
theorem zEJ {ns:List OpR} {b:Nat} {t:ByteArray} {j:Nat} (h:fnd ns t ((b:Int)-2)=some j) (c:Bool):sH ns (b,t) c=zCy ns j c:=by
 unfold sH zY rt
 simp only
 rw [h]
theorem zOC {ns:List OpR} {xs:List zD}:∀ (T:ET) (s:Nat),zA9 ns T->zBr xs T s->((∀ i,s<=i->i<s+tsz T->zCz ns xs i)↔zf ns T):=by
 intro T
 induction T with
 | nil=>intro s h; exact h.elim
 | node b o t l r ihl ihr=>
  intro s hw hl
  have hsh:=hw.sh
  obtain ⟨h1,h2,h3⟩:=hl
  obtain ⟨rfl,hw⟩:=hw
  have hz:tsz (.node b 0 t l r)=tsz l+tsz r+1:=rfl
  have split:(∀ i,s<=i->i<s+tsz (.node b 0 t l r)->zCz ns xs i)↔(∀ i,s<=i->i<s+tsz l->zCz ns xs i)/\(∀ i,s+tsz l<=i->i<s+tsz l+tsz r->zCz ns xs i)/\zCz ns xs (s+tsz l+tsz r):=by
   rw [hz]
   refine ⟨fun h=>⟨fun i a c=>h i a (by omega),fun i a c=>h i (by omega) (by omega),h _ (by omega) (by omega)⟩,fun ⟨h1,h2,h3⟩ i a c=>?_⟩
   by_cases e1:i<s+tsz l
   ·exact h1 i a e1
   ·by_cases e2:i<s+tsz l+tsz r
    ·exact h2 i (by omega) e2
    ·have:i=s+tsz l+tsz r:=by omega
     rw [this]; exact h3
  rw [split]
  have root:zCz ns xs (s+tsz l+tsz r)↔∀ j,ZF (tN b t l r s)->fnd ns t ((b:Int)-2)=some j->zCy ns j false<=Zd ns (atN xs (tN b t l r s).a.toNat)/\(zU (b:Int)=1\/zCy ns j true<=Zd ns (atN xs (tN b t l r s).b.toNat)):=by
   unfold zCz
   rw [h3]
   exact Iff.rfl
  rcases hw with ⟨hb,rfl,rfl⟩ | ⟨rfl,rfl,wl,rfl⟩ | ⟨hb,hk,wl,rfl⟩ | ⟨rfl,hk,wl,wr⟩
  ·refine ⟨fun _=>⟨rfl,Or.inl ⟨hb,rfl,rfl⟩⟩,fun _=>⟨fun i a c=>by simp [tsz] at c; omega,fun i a c=>by simp [tsz] at c; omega,root.2 fun j hop=>?_⟩⟩
   exfalso
   unfold ZF tN at hop
   simp only at hop
   omega
  ·rw [ihl s wl h1]
   refine ⟨fun h=>⟨rfl,Or.inr (Or.inl ⟨rfl,rfl,h.1,rfl⟩)⟩,fun h=>⟨?_,fun i a c=>by simp [tsz] at c; omega,root.2 fun j hop=>?_⟩⟩
   ·obtain ⟨_,⟨h | h,_⟩ | ⟨_,_,h,_⟩ | ⟨h | h,_⟩ | ⟨h,_⟩⟩:=h
    ·cases h
    ·cases h
    ·exact h
    ·cases h
    ·cases h
    ·cases h
   ·exfalso
    unfold ZF tN at hop
    simp only at hop
    omega
  ·rw [ihl s wl h1]
   obtain ⟨j,hj,hf,_,_⟩:=zE8 hk
   simp only at hf
   have hp:=wl.sh.pos
   have hlev:=zHP (ns:=ns) wl.sh h1
   have ka:zU (b:Int)=1:=by rcases hb with rfl | rfl <;> decide
   have ea:(tN b t l .nil s).a.toNat=s+tsz l-1:=by
    unfold tN
    simp only
    rw [if_neg (by rw [ka]; decide)]
    omega
   have hop:ZF (tN b t l .nil s):=by
    unfold ZF tN
    simp only
    rcases hb with rfl | rfl <;> decide
   constructor
   ·rintro ⟨g,_,hr⟩
    have:=(root.1 hr) j hop hf
    rw [ea,hlev,<- zEJ hf] at this
    exact ⟨rfl,Or.inr (Or.inr (Or.inl ⟨hb,hk,g,rfl,this.1⟩))⟩
   ·rintro ⟨_,⟨h | h,_⟩ | ⟨h,_⟩ | ⟨_,_,g,_,hh⟩ | ⟨h,_⟩⟩
    ·omega
    ·omega
    ·omega
    ·refine ⟨g,fun i a c=>by simp [tsz] at c; omega,root.2 fun j' _ hf'=>?_⟩
     rw [hf] at hf'
     injection hf' with hf'
     subst hf'
     rw [ea,hlev,<- zEJ hf]
     exact ⟨hh,Or.inl ka⟩
    ·omega
  ·rw [ihl s wl h1,ihr (s+tsz l) wr h2]
   obtain ⟨j,hj,hf,_,_⟩:=zE8 hk
   simp only at hf
   have hp:=wl.sh.pos
   have hq:=wr.sh.pos
   have hlev:=zHP (ns:=ns) wl.sh h1
   have hlev2:=zHP (ns:=ns) wr.sh h2
   have ea:(tN 4 t l r s).a.toNat=s+tsz l-1:=by
    unfold tN
    simp only
    rw [if_neg (by decide)]
    omega
   have eb:(tN 4 t l r s).b.toNat=s+tsz l+tsz r-1:=by
    unfold tN
    simp only
    rw [if_pos (by decide)]
    omega
   have hop:ZF (tN 4 t l r s):=by
    unfold ZF tN
    simp only
    decide
   constructor
   ·rintro ⟨g,g',hr⟩
    have:=(root.1 hr) j hop hf
    rw [ea,eb,hlev,hlev2,<- zEJ hf,<- zEJ hf] at this
    exact ⟨rfl,Or.inr (Or.inr (Or.inr ⟨rfl,hk,g,g',this.1,this.2.resolve_left (by decide)⟩))⟩
   ·rintro ⟨_,⟨h | h,_⟩ | ⟨h,_⟩ | ⟨h | h,_⟩ | ⟨_,_,g,g',hh,hh'⟩⟩
    ·omega
    ·omega
    ·omega
    ·omega
    ·omega
    ·refine ⟨g,g',root.2 fun j' _ hf'=>?_⟩
     rw [hf] at hf'
     injection hf' with hf'
     subst hf'
     rw [ea,eb,hlev,hlev2,<- zEJ hf,<- zEJ hf]
     exact ⟨hh,Or.inr hh'⟩
theorem zKR {ns:List OpR} {xs:List zD} (htx:∀ i,i<xs.length->zAA (atN xs i)):∀ (T:ET) (s:Nat),zA9 ns T->zBr xs T s->s+tsz T<=xs.length->∀ q∈ySy T,WdK ns q.2 (tkK q.1):=by
 have hop:∀ {b:Nat} {t:ByteArray},knB ns (b,t)=true->opT ns t:=fun {b t} hk=>by
  obtain ⟨j,hj,_,_,h3⟩:=zE8 hk
  have:=zFA hk
  simp only at h3
  rw [h3] at this
  exact ⟨j,hj,this⟩
 intro T
 induction T with
 | nil=>intro s h; exact h.elim
 | node b o t l r ihl ihr=>
  rintro s hw ⟨h1,h2,h3⟩ hz
  simp only [tsz] at hz
  have ht:=htx (s+tsz l+tsz r) (by omega)
  rw [h3] at ht
  obtain ⟨rfl,⟨hb,rfl,rfl⟩ | ⟨rfl,rfl,wl,rfl⟩ | ⟨hb,hk,wl,rfl⟩ | ⟨rfl,hk,wl,wr⟩⟩:=hw
  ·rw [zAV hb]
   intro q hq
   simp only [List.mem_singleton] at hq
   subst hq
   rcases ht.2 with ⟨e,h⟩ | ⟨e,h⟩ | ⟨e,_⟩ | ⟨e,_⟩
   ·have:b=1:=by simp only [tN] at e; omega
    subst this
    exact Or.inl ⟨rfl,h⟩
   ·have:b=2:=by simp only [tN] at e; omega
    subst this
    exact Or.inr (Or.inl ⟨rfl,h⟩)
   ·simp only [tN] at e; omega
   ·simp only [tN] at e; omega
  ·rw [zAy]
   intro q hq
   simp only [List.mem_cons,List.mem_append,List.not_mem_nil,or_false] at hq
   rcases hq with rfl | hq | rfl
   ·exact Or.inr (Or.inr (Or.inr (Or.inl ⟨rfl,rfl⟩)))
   ·exact ihl s wl h1 (by omega) q hq
   ·exact Or.inr (Or.inr (Or.inr (Or.inr ⟨rfl,rfl⟩)))
  ·rcases hb with rfl | rfl
   ·rw [zAZ]
    intro q hq
    rcases List.mem_cons.1 hq with rfl | hq
    ·exact Or.inr (Or.inr (Or.inl ⟨rfl,hop hk⟩))
    ·exact ihl s wl h1 (by omega) q hq
   ·rw [zAF]
    intro q hq
    rcases List.mem_append.1 hq with hq | hq
    ·exact ihl s wl h1 (by omega) q hq
    ·simp only [List.mem_singleton] at hq
     subst hq
     exact Or.inr (Or.inr (Or.inl ⟨rfl,hop hk⟩))
  ·rw [zBK]
   intro q hq
   rcases List.mem_append.1 hq with hq | hq
   ·exact ihl s wl h1 (by omega) q hq
   ·rcases List.mem_cons.1 hq with rfl | hq
    ·exact Or.inr (Or.inr (Or.inl ⟨rfl,hop hk⟩))
    ·exact ihr _ wr h2 (by omega) q hq
theorem zQI:Bl (one 32):=fun i hi=>by
 have:i<1:=hi
 obtain rfl:i=0:=by omega
 decide
end Go.Proofs.YtfboipappaonhaaGreat
