import Derived.Test.YtfboipappaonhaaGreatP02
import Derived.Test.YtfboipappaonhaaGreatP06
import Derived.Test.YtfboipappaonhaaGreatP09
import Derived.Test.YtfboipappaonhaaGreatP18
import Derived.Test.YtfboipappaonhaaGreatP20
import Derived.Test.YtfboipappaonhaaGreatP23
import Derived.Test.YtfboipappaonhaaGreatP24
import Derived.Test.YtfboipappaonhaaGreatP26
namespace Go.Proofs.YtfboipappaonhaaGreat
set_option linter.unusedSimpArgs false
set_option linter.unusedVariables false
set_option maxHeartbeats 16000000
set_option maxRecDepth 100000
open Go.RowKit
theorem zy.low {w:World} {B B':Nat} {v:Value} {us:List ByteArray} (h:zy w B v us) (hb:B' <= B):zy w B' v us:=by
 obtain ⟨h0,h1 | ⟨g,cap,cur,h1,h2,h3⟩⟩:=h
 ·exact ⟨h0,Or.inl h1⟩
 ·exact ⟨h0,Or.inr ⟨g,cap,cur,h1,Nat.le_trans hb h2,h3⟩⟩
theorem zE.k2 {w W W':World} {rp g:Nat} (h:zE w W rp) (h':K2 W W' rp g) (hg:w.heap.size <= g):zE w W' rp:=
 ⟨h'.os.trans h.os,h'.tape.trans h.tape,h'.output.trans h.output,Nat.le_trans h.size h'.size,fun i hi a=>(h'.block i (Nat.lt_of_lt_of_le hi h.size) a (by omega)).trans (h.block i hi a)⟩
def GrR (W:World) (rp:Nat) (a3:Option Addr) (us:List zD):Prop:=us.length = 0 \/ ∃ g,a3 = some ⟨g,0,none⟩ /\ rp < g /\ zv W g us us.length
theorem Z8.grR {w W:World} {n rp:Nat} {a3:Option Addr} {us:List zD} (h:Z8 w n a3 us) (hn:rp < n) (hk:∀ g,n <= g -> zv w g us us.length -> zv W g us us.length):GrR W rp a3 us:=by
 rcases h with ⟨h,_⟩ | ⟨g,rfl,hg,hf⟩
 ·exact Or.inl h
 ·exact Or.inr ⟨g,rfl,by omega,hk g hg hf⟩
theorem zNn (bs:List UInt8) (ns:List OpR) (p:Nat):1 <= (gnW bs ns p).2.length /\ (gnW bs ns p).2.length <= 127:=by
 have h:=zEC bs ns false (2 + nxt bs p % 5) (adv bs p) []
 have hp6:(2:Nat) ^ (2 + nxt bs p % 5 + 1) <= 128:=by have:=Nat.pow_le_pow_right (show 0 < 2 by decide) (show 2 + nxt bs p % 5 + 1 <= 7 by omega); omega
 simp only [List.length_nil] at h
 unfold gnW
 omega
theorem zOW {ns:List OpR} (h:∀ i,(atO ns i).s.size <= 16) (bs:List UInt8) (p:Nat):∀ o ∈ (gnW bs ns p).2,o.t.size <= 16:=zHi h bs false _ _ [] (fun o ho=>by simp at ho)
theorem zFK (rp cap p gt ct:Nat) (a:Option Addr) (bs:List UInt8) (ns:List OpR) (w:World) (h:RdS w rp a cap bs p) (hl:bs.length <= 1200) (hnl:ns.length <= 10) (ht:zm w gt ns ns.length) (hne:gt ≠ rp) (hs:∀ i,(atO ns i).s.size <= 16) (hks:∀ j,j < ns.length -> 0 <= (atO ns j).k /\ (atO ns j).k <= 9) :
  Calls Tryz.prog 111 #[.pointer (some ⟨rp,0,none⟩),.agg #[.slice (some ⟨gt,0,none⟩) ns.length ct]] w (zJy w rp cap a bs (fun n q=>zMa bs ns p n q)):=by
 have hrp:=h.lt
 have hgt:=ht.lt1
 have H:=zB h
 have HT:=zB ht
 have HSZ:=zB hs
 have HKS:=zB hks
 clear h ht hs hks
 go_enter Tryz.func111,Tryz.ntmps111
 go_wp2_with fail
 have HB0:=zB (zC w (.cells #[.slice (some ⟨gt,0,none⟩) ns.length ct] 25))
 (with_reducible refine (ZP rp cap p a bs _ ((zA H).below (zA HB0)) hl).mono ?_)
 rintro e w1 ⟨⟨k,rfl,hk,HK⟩,H1,HP1⟩
 have z1:w.heap.size + 1 <= w1.heap.size:=by have:=(zA HP1).size; simpa using this
 have tb1:w1.cell? ⟨w.heap.size,0,none⟩ = some (.slice (some ⟨gt,0,none⟩) ns.length ct):=((zA HP1).cell (b:=w.heap.size) (by simp) (by omega) 0).trans (by simp [go_sem])
 have HK1:=zB ((zE.of_below (g:=rp) (zA HB0)).trans (zA HP1))
 have HT1:=zB ((zA HK1).filled (zA HT) hne)
 clear H HB0 HP1 HT
 by_cases hk3:k % 4 = 3
 ·have e3:((k:Int) % 4 == 3) = true:=by simp; omega
  have HX:=zB (zJz rp cap (adv bs p) gt ct a bs ns w1 (zA H1) hl (by omega) (zA HT1).ops (zA HT1).lt1 hne (zA HSZ))
  go_wp2_with fail
  (with_reducible refine (zA HX).mono ?_)
  rintro e w2 ⟨g,c,q,ws,rfl,HR,h1,h2,HS,HD,H2,HP2⟩
  clear HX
  go_wp2_with fail
  go_ret
  refine ⟨g,c,q,ws,rfl,zB ?_,h1,h2,HS,zB (Or.inl ⟨by rw [<- zA HK]; exact hk3,zA HD⟩),H2,zB ((zA HK1).trans (zA HP2))⟩
  exact zy.low (zA HR) (by omega)
 ·have e3:((k:Int) % 4 == 3) = false:=by simp; omega
  obtain ⟨y,HY⟩:∃ y,Hid (gnW bs ns (adv bs p) = y):=⟨_,zB rfl⟩
  have hyl:=zNn bs ns (adv bs p)
  have HYS:=zB (zOW (zA HSZ) bs (adv bs p))
  rw [zA HY] at hyl HYS
  obtain ⟨y1,xs⟩:=y
  simp only at hyl HYS
  obtain ⟨hyl1,hyl2⟩:=hyl
  have HTA:=zB ((zA HT1).below (Below.refl w1.heap.size w1).drew (zA HT1).lt1)
  have HTB:=zB ((zA HT1).below (zC w1 (.cells #[.slice none 0 0] 28)).drew (zA HT1).lt1)
  have HXa:=zB (zDE rp cap (adv bs p) gt ct a bs ns false w1.drew ((zA H1).below (Below.refl _ _).drew) hl (by omega) (zA HKS) (zA HTA).ops (zA HTA).lt1 hne)
  have HXb:=zB (zDE rp cap (adv bs p) gt ct a bs ns false (w1.alloc (.cells #[.slice none 0 0] 28)).drew ((zA H1).below (zC w1 (.cells #[.slice none 0 0] 28)).drew) hl (by omega) (zA HKS) (zA HTB).ops (zA HTB).lt1 hne)
  have HYE:=zB (show gen bs ns false (2 + nxt bs (adv bs p) % 5) (adv bs (adv bs p)) [] = (y1,xs) from zA HY)
  rw [zA HYE] at HXa HXb
  simp only at HXa HXb
  have HKA:=zB ((zA HK1).trans (zE.of_below (g:=rp) (Below.refl w1.heap.size w1).drew))
  have HKB:=zB ((zA HK1).trans (zE.of_below (g:=rp) (zC w1 (.cells #[.slice none 0 0] 28)).drew))
  have tA:w1.drew.cell? ⟨w.heap.size,0,none⟩ = some (.slice (some ⟨gt,0,none⟩) ns.length ct):=tb1
  have tB:(w1.alloc (.cells #[.slice none 0 0] 28)).drew.cell? ⟨w.heap.size,0,none⟩ = some (.slice (some ⟨gt,0,none⟩) ns.length ct):=((zC w1 (.cells #[.slice none 0 0] 28)).drew.cell (p:=⟨w.heap.size,0,none⟩) (by show w.heap.size < w1.heap.size; omega)).trans tb1
  have xB:(w1.alloc (.cells #[.slice none 0 0] 28)).drew.cell? ⟨w1.heap.size,0,none⟩ = some (.slice none 0 0):=by simp [go_sem]
  have fB:(w1.alloc (.cells #[.slice none 0 0] 28)).drew.frozen? ⟨w1.heap.size,0,none⟩ = false:=by simp [go_sem]
  have HSN:=zB (show ZV ns from fun i _=>by have:=(zA HSZ) i; unfold maxLen; omega)
  have HSX:=zB (show zBc xs from fun i hi=>by
   have:=(zA HYS) (atN xs i) (by unfold atN; rw [List.getD_eq_getElem?_getD,List.getElem?_eq_getElem hi]; exact List.getElem_mem hi)
   unfold maxLen; omega)
  clear HY
  go_wp2_with fail
  go_region_held3 (fun W=>W.cell? ⟨w.heap.size,0,none⟩ = some (.slice (some ⟨gt,0,none⟩) ns.length ct)) (first | (go_keep; done) | exact tb2 | exact tb3 | exact (World.cell?_setCell_other _ _ _ _ (fun e=>by injection e with e; omega)).trans tb3 | exact ((zC _ _).cell (p:=⟨w.heap.size,0,none⟩) (by show w.heap.size < w2.heap.size; omega)).trans tb2)
   (first
    | (go_at_call 94; (with_reducible refine (zA HXa).mono ?_); rintro e w2 ⟨⟨gn,cn,rfl,hcn,hgn,hN2⟩,H2,HP2⟩; have z2:w1.heap.size <= w2.heap.size:=(zA HP2).size; have HT2:=zB ((zA HP2).filled (zA HTA) hne); have HN2:=zB hN2; have hgn2:w1.heap.size <= gn:=hgn; have HK2:=zB ((zA HKA).trans (zA HP2)); have tb2:=((zA HP2).cell (b:=w.heap.size) (by show w.heap.size < w1.heap.size; omega) (by omega) 0).trans tA; clear HP2 hN2 hgn)
    | (go_at_call 94; (with_reducible refine (zA HXb).mono ?_); rintro e w2 ⟨⟨gn,cn,rfl,hcn,hgn,hN2⟩,H2,HP2⟩; have z2:w1.heap.size + 1 <= w2.heap.size:=(by have:=(zA HP2).size; simpa using this); have HT2:=zB ((zA HP2).filled (zA HTB) hne); have HN2:=zB hN2; have hgn2:w1.heap.size <= gn:=(by have:w1.heap.size + 1 <= gn:=(by simpa using hgn); omega); have HK2:=zB ((zA HKB).trans (zA HP2)); have tb2:=((zA HP2).cell (b:=w.heap.size) (by simp; omega) (by omega) 0).trans tB; have x2:=((zA HP2).cell (b:=w1.heap.size) (by simp) (by omega) 0).trans xB; have f2:=((zA HP2).frozen (b:=w1.heap.size) (by simp) (by omega) 0).trans fB; clear HP2 hN2 hgn)
    | (go_at_call 18; have HXC:=zDj gt 0 ct gn 0 cn ns xs w2 (by omega) (by omega) (zA HT2).ops (zA HSN) (zA HT2).lt1 (zA HN2).ops (zA HSX) (zA HN2).lt1; (with_reducible refine HXC.mono ?_); clear HXC; rintro e w3 ⟨⟨a3,c3,us,v,rfl,HO3,HG3⟩,hb3⟩; have z3:=hb3.size; have H3:=zB ((zA H2).below hb3); have HK3:=zB ((zA HK2).trans (zE.of_below hb3)); have tb3:=(hb3.cell (p:=⟨w.heap.size,0,none⟩) (by show w.heap.size < w2.heap.size; omega)).trans tb2; (try have x3:=(hb3.cell (p:=⟨w1.heap.size,0,none⟩) (by show w1.heap.size < w2.heap.size; omega)).trans x2); (try have f3:=(hb3.frozen (p:=⟨w1.heap.size,0,none⟩) (by show w1.heap.size < w2.heap.size; omega)).trans f2); clear hb3)
    | (go_at_call 18; have HXC:=zDj gt 0 ct gn 0 cn ns xs (w2.alloc (.cells #[.slice none 0 0] 28)) (by omega) (by omega) ((zA HT2).below (zC _ _) (zA HT2).lt1).ops (zA HSN) (by have:=(zA HT2).lt1; simp; omega) ((zA HN2).below (zC _ _) (zA HN2).lt1).ops (zA HSX) (by have:=(zA HN2).lt1; simp; omega); (with_reducible refine HXC.mono ?_); clear HXC; rintro e w3 ⟨⟨a3,c3,us,v,rfl,HO3,HG3⟩,hb3⟩; have z3:w2.heap.size + 1 <= w3.heap.size:=(by have:=hb3.size; simpa using this); have H3:=zB (((zA H2).below (zC _ _)).below hb3); have HK3:=zB (((zA HK2).trans (zE.of_below (zC _ (.cells #[.slice none 0 0] 28)))).trans (zE.of_below hb3)); have tb3:=(hb3.cell (p:=⟨w.heap.size,0,none⟩) (by simp; omega)).trans (((zC w2 (.cells #[.slice none 0 0] 28)).cell (p:=⟨w.heap.size,0,none⟩) (by show w.heap.size < w2.heap.size; omega)).trans tb2); have x3:w3.cell? ⟨w2.heap.size,0,none⟩ = some (.slice none 0 0):=(hb3.cell (p:=⟨w2.heap.size,0,none⟩) (by simp)).trans (by simp [go_sem]); have f3:w3.frozen? ⟨w2.heap.size,0,none⟩ = false:=(hb3.frozen (p:=⟨w2.heap.size,0,none⟩) (by simp)).trans (by simp [go_sem]); clear hb3))
  obtain ⟨W4,hW4⟩:∃ W4,W4 = w3.alloc (.cells #[.slice a3 us.length c3] 28):=⟨_,rfl⟩
  have t4:W4.cell? ⟨w3.heap.size,0,none⟩ = some (.slice a3 us.length c3):=by rw [hW4]; simp [go_sem]
  have HG4:=zB (show GrR W4 rp a3 us by rw [hW4]; exact (zA HO3).grR (by omega) (fun g _ hf=>hf.below (zC _ _) hf.lt1))
  have H4:=zB (show RdS W4 rp a cap bs y1 by rw [hW4]; exact (zA H3).below (zC _ _))
  have HK4:=zB (show zE w W4 rp by rw [hW4]; exact (zA HK3).trans (zE.of_below (zC _ _)))
  rw [<- hW4]
  clear hW4
  rotate_left
  obtain ⟨W4,hW4⟩:∃ W4,W4 = w3.setCell ⟨w2.heap.size,0,none⟩ (.slice a3 us.length c3):=⟨_,rfl⟩
  have t4:W4.cell? ⟨w2.heap.size,0,none⟩ = some (.slice a3 us.length c3):=by rw [hW4]; exact World.cell?_setCell_same _ _ _ x3
  have HG4:=zB (show GrR W4 rp a3 us by rw [hW4]; exact (zA HO3).grR (by simp; omega) (fun g hg hf=>hf.setCell _ _ _ (by simp at hg; omega)))
  have H4:=zB (show RdS W4 rp a cap bs y1 by rw [hW4]; exact (zA H3).set _ _ _ (by omega))
  have HK4:=zB (show zE w W4 rp by rw [hW4]; exact (zA HK3).setNew _ _ (by omega))
  rw [<- hW4]
  clear hW4 x3 f3
  rotate_left
  obtain ⟨W4,hW4⟩:∃ W4,W4 = w3.setCell ⟨w1.heap.size,0,none⟩ (.slice a3 us.length c3):=⟨_,rfl⟩
  have t4:W4.cell? ⟨w1.heap.size,0,none⟩ = some (.slice a3 us.length c3):=by rw [hW4]; exact World.cell?_setCell_same _ _ _ x3
  have HG4:=zB (show GrR W4 rp a3 us by rw [hW4]; exact (zA HO3).grR (by omega) (fun g hg hf=>hf.setCell _ _ _ (by omega)))
  have H4:=zB (show RdS W4 rp a cap bs y1 by rw [hW4]; exact (zA H3).set _ _ _ (by omega))
  have HK4:=zB (show zE w W4 rp by rw [hW4]; exact (zA HK3).setNew _ _ (by omega))
  rw [<- hW4]
  clear hW4 x3 f3 x2 f2
  rotate_left
  all_goals
   clear HXa HXb HTA HTB HKA HKB HT2 HN2 HK2 H2 H3 HK3 HO3 tA tB xB fB tb2 tb3
   have z4:=(zA HK4).size
   have lt4:=block_lt_of_cell t4
   cases v with
   | false=>
    go_wp2_with fail
    go_ret
    refine ⟨W4.heap.size,1,y1,[⟨#[97]⟩],rfl,zB (zy.lit (by omega) _),by decide,by decide,zB (fun s hs=>by simp at hs; subst hs; decide),zB (Or.inr ⟨by rw [<- zA HK]; exact hk3,us,false,?_,Or.inl ⟨rfl,rfl,?_⟩⟩),zB ((zA H4).below (zC _ _)),zB ((zA HK4).trans (zE.of_below (zC _ _)))⟩
    ·have:=zA HG3
     rw [show gnW bs ns (adv bs p) = (y1,xs) from zA HYE]
     exact this
    ·rw [show gnW bs ns (adv bs p) = (y1,xs) from zA HYE]
   | true=>
    obtain ⟨T,hT,hus,htz,htx⟩:=zJt hyl2 (zA HYS) (zA HG3)
    have hp:=hT.pos
    have hul:us.length = tsz T:=by rw [hus,ze]
    obtain ⟨g3,rfl,hg3,hF3⟩:∃ g,a3 = some ⟨g,0,none⟩ /\ rp < g /\ zv W4 g us us.length:=by
     rcases zA HG4 with h | h
     ·omega
     ·exact h
    have hg3l:=hF3.lt1
    have HF3:=zB hF3
    have HT:=zB hT
    have HUS:=zB hus
    have HTX:=zB htx
    have hu254:us.length <= 254:=by omega
    have hu1:1 <= us.length:=by omega
    have hbN:=zC W4 (.cells #[] 81)
    have HRW:=zB (show Zk (W4.alloc (.cells #[] 81)) W4.heap.size W4.heap.size 0 [] by
     have:=World.ownsRow_lit (base:=W4.heap.size) (e:=81) (size:=4) W4 #[] 0 (Nat.le_refl _) (Nat.zero_le _) rfl
     simpa [Zk,zH] using this)
    have HXC:=zJw rp cap a bs hl g3 c3 us W4.heap.size hg3l (by omega) (by omega) (by omega) T hT 0 [] y1 (by rw [hus]; exact zAb T) (by omega) (by simp; omega) W4.heap.size 0 _ (hF3.ops.below hbN hg3l) (by simp) (zA HRW) ((zA H4).below hbN)
    obtain ⟨T',HT'⟩:∃ T',Hid (T' = (moT bs T y1).2):=⟨_,zB rfl⟩
    obtain ⟨q',HQ'⟩:∃ q',Hid (q' = (moT bs T y1).1):=⟨_,zB rfl⟩
    rw [<- zA HT',<- zA HQ',List.nil_append,List.length_nil,Nat.zero_add,<- hul] at HXC
    have hsz':tsz T' <= 508:=by rw [zA HT']; have:=(zGB bs T y1).2; omega
    have HS':=zB (show Sh T' by rw [zA HT']; exact zH7 bs T y1 hT)
    have HL':=zB (show TxL 16 T' by rw [zA HT']; exact zH8 bs 16 T y1 htx)
    obtain ⟨vs,HVS⟩:∃ vs,Hid (vs = nd T' 0):=⟨_,zB rfl⟩
    rw [<- zA HVS] at HXC
    have hvl:vs.length = tsz T':=by rw [zA HVS,ze]
    have hv508:vs.length <= 508:=by omega
    have hv1:1 <= vs.length:=by have:=(zA HS').pos; omega
    obtain ⟨j,hjE⟩:∃ j,j = us.length - 1:=⟨_,rfl⟩
    have ej:(us.length:Int) - 1 = (j:Int):=by omega
    rw [<- hjE] at HXC
    have HX5:=zB HXC
    have HVL:=zB hvl
    have HBN:=zB hbN
    clear HXC hul hvl hus htx hT hF3 hjE HG4 htz hp hbN
    go_wp2_with fail
    (with_reducible refine (zA HX5).mono ?_)
    rintro e w5 ⟨g5,c5,rfl,HR5,hg5,H5,HK5⟩
    have z5:W4.heap.size + 1 <= w5.heap.size:=by have:=(zA HK5).size; simpa using this
    obtain ⟨hgB,hF5⟩:=zA5 (zA HR5)
    have HXW:=zI6 g5 c5 vs (by omega) T' (zA HS') 0 (by rw [zA HVS]; exact zAb T') (by rw [zA HVL]; omega) w5 hF5.ops hF5.lt1
    rw [Nat.zero_add,<- zA HVL] at HXW
    obtain ⟨j2,hj2⟩:∃ j2,j2 = vs.length - 1:=⟨_,rfl⟩
    have ej2:(vs.length:Int) - 1 = (j2:Int):=by omega
    rw [<- hj2] at HXW
    have HX6:=zB HXW
    have HK6:=zB ((zA HK4).trans (zE.of_below (g:=rp) (zA HBN)))
    have HK7:=zB ((zA HK6).k2 (zA HK5) (by omega))
    clear HXW HX5 hj2 hF5 HK5 HK6
    go_wp2_with fail
    (with_reducible refine (zA HX6).mono ?_)
    rintro e w6 ⟨g6,c6,rfl,HR6,HB6⟩
    have z6:=(zA HB6).size
    clear HX6
    go_wp2_with fail
    go_ret
    have hw1:=zFb (zA HS')
    have hw2:=zFZ T'
    refine ⟨g6,c6,q',wdT T',rfl,zB (zy.low (zA HR6) (by omega)),by omega,by omega,zB (zJs (by decide) T' (zA HL')),zB (Or.inr ⟨by rw [<- zA HK]; exact hk3,us,true,?_,Or.inr ⟨rfl,T,zA HT,zA HUS,?_,?_⟩⟩),zB ((zA H5).below (zA HB6)),zB ((zA HK7).trans (zE.of_below (zA HB6)))⟩
    ·rw [show gnW bs ns (adv bs p) = (y1,xs) from zA HYE]
     exact zA HG3
    ·rw [show gnW bs ns (adv bs p) = (y1,xs) from zA HYE,zA HT']
    ·rw [show gnW bs ns (adv bs p) = (y1,xs) from zA HYE,zA HQ']
theorem zDw (rp cap p:Nat) (a:Option Addr) (bs:List UInt8) (w:World) (h:RdF w rp a cap bs p) (hl:bs.length <= 1200) :
  Calls Tryz.prog 113 #[.pointer (some ⟨rp,0,none⟩)] w fun e w'=>(∃ g:ByteArray,e = .returned (.string g) /\ Hid (g = zBf (nxt bs p))) /\ Hid (RdF w' rp a cap bs (adv bs p)) /\ Hid (zE w w' rp):=by
 have H:=zB h
 clear h
 go_enter Tryz.func113,Tryz.ntmps113
 go_wp2_with fail
 refine (zBK rp cap p a bs _ (zA H) hl).mono ?_
 rintro e w1 ⟨⟨k,rfl,hk,HK⟩,H1,HP1⟩
 clear H
 have hcs:k % 5 = 0 \/ k % 5 = 1 \/ k % 5 = 2 \/ k % 5 = 3 \/ k % 5 = 4:=by omega
 rcases hcs with hc | hc | hc | hc | hc
 ·have HC:=zB hc
  have e0:((k:Int) % 5 == 0) = true:=by simp; omega
  clear hc
  go_wp2_with fail
  go_ret
  exact ⟨⟨_,rfl,zB (by rw [<- zA HK]; simp [zBf,zA HC])⟩,H1,HP1⟩
 ·have HC:=zB hc
  have e0:((k:Int) % 5 == 0) = false:=by simp; omega
  have e1:((k:Int) % 5 == 1) = true:=by simp; omega
  clear hc
  go_wp2_with fail
  go_ret
  exact ⟨⟨_,rfl,zB (by rw [<- zA HK]; simp [zBf,zA HC])⟩,H1,HP1⟩
 ·have HC:=zB hc
  have e0:((k:Int) % 5 == 0) = false:=by simp; omega
  have e1:((k:Int) % 5 == 1) = false:=by simp; omega
  have e2:((k:Int) % 5 == 2) = true:=by simp; omega
  clear hc
  go_wp2_with fail
  go_ret
  exact ⟨⟨_,rfl,zB (by rw [<- zA HK]; simp [zBf,zA HC])⟩,H1,HP1⟩
 ·have HC:=zB hc
  have e0:((k:Int) % 5 == 0) = false:=by simp; omega
  have e1:((k:Int) % 5 == 1) = false:=by simp; omega
  have e2:((k:Int) % 5 == 2) = false:=by simp; omega
  have e3:((k:Int) % 5 == 3) = true:=by simp; omega
  clear hc
  go_wp2_with fail
  go_ret
  exact ⟨⟨_,rfl,zB (by rw [<- zA HK]; simp [zBf,zA HC])⟩,H1,HP1⟩
 ·have HC:=zB hc
  have e0:((k:Int) % 5 == 0) = false:=by simp; omega
  have e1:((k:Int) % 5 == 1) = false:=by simp; omega
  have e2:((k:Int) % 5 == 2) = false:=by simp; omega
  have e3:((k:Int) % 5 == 3) = false:=by simp; omega
  clear hc
  go_wp2_with fail
  go_ret
  exact ⟨⟨_,rfl,zB (by rw [<- zA HK]; simp [zBf,zA HC])⟩,H1,HP1⟩
def zC8 (a b:ByteArray):Bool:=
 if a.size = 0 \/ b.size = 0 then false
 else if sgB (a.data.getD 0 0) = true \/ sgB (b.data.getD 0 0) = true then (sgB (a.data.getD 0 0) && sgB (b.data.getD 0 0))
 else decide (a ≠ ⟨#[40]⟩ /\ a ≠ ⟨#[41]⟩ /\ b ≠ ⟨#[40]⟩ /\ b ≠ ⟨#[41]⟩)
theorem zDx (a b:ByteArray) (w:World) :
  Calls Tryz.prog 114 #[.string a,.string b] w fun e w'=>e = .returned (.bool (zC8 a b)) /\ w' = w:=by
 by_cases ha:a.size = 0
 ·have ea:a = ⟨#[]⟩:=ByteArray.size_eq_zero_iff.1 ha
  have hm:zC8 a b = false:=by unfold zC8; rw [if_pos (Or.inl ha)]
  rw [hm]
  subst ea
  go_enter Tryz.func114,Tryz.ntmps114
  go_wp2_with fail
  go_ret
  exact ⟨rfl,rfl⟩
 by_cases hb:b.size = 0
 ·have eb:b = ⟨#[]⟩:=ByteArray.size_eq_zero_iff.1 hb
  have hm:zC8 a b = false:=by unfold zC8; rw [if_pos (Or.inr hb)]
  rw [hm]
  have na:¬ a = ⟨#[]⟩:=fun e=>ha (by rw [e]; rfl)
  have na':¬ a.toList = []:=fun e=>na (zAK (by rw [e,ByteArray.toList_eq]))
  subst eb
  clear ha hb
  go_enter Tryz.func114,Tryz.ntmps114
  go_wp2_with fail
  go_ret
  exact ⟨rfl,rfl⟩
 have na:¬ a = ⟨#[]⟩:=fun e=>ha (by rw [e]; rfl)
 have na':¬ a.toList = []:=fun e=>na (zAK (by rw [e,ByteArray.toList_eq]))
 have nb:¬ b = ⟨#[]⟩:=fun e=>hb (by rw [e]; rfl)
 have nb':¬ b.toList = []:=fun e=>nb (zAK (by rw [e,ByteArray.toList_eq]))
 have la:(0:Int) < (a.size:Int):=by omega
 have lb:(0:Int) < (b.size:Int):=by omega
 have la0:0 < a.size:=by omega
 have lb0:0 < b.size:=by omega
 have xa:a.data.getD 0 0 = a[0]:=by
  show a.data.getD 0 0 = a.data[0]
  unfold Array.getD
  rw [dif_pos (show 0 < a.data.size from la0)]
  rfl
 have xb:b.data.getD 0 0 = b[0]:=by
  show b.data.getD 0 0 = b.data[0]
  unfold Array.getD
  rw [dif_pos (show 0 < b.data.size from lb0)]
  rfl
 have hm:zC8 a b = if sgB a[0] = true \/ sgB b[0] = true then (sgB a[0] && sgB b[0]) else decide (a ≠ ⟨#[40]⟩ /\ a ≠ ⟨#[41]⟩ /\ b ≠ ⟨#[40]⟩ /\ b ≠ ⟨#[41]⟩):=by unfold zC8; rw [if_neg (by omega),xa,xb]
 obtain ⟨M,HM⟩:∃ M,Hid (zC8 a b = M):=⟨_,zB rfl⟩
 rw [zA HM]
 have HE:=zB (hm.symm.trans (zA HM))
 have ea:a.toList.isEmpty = false:=by cases h:a.toList with | nil=>exact absurd h na' | cons x r=>rfl
 have eb:b.toList.isEmpty = false:=by cases h:b.toList with | nil=>exact absurd h nb' | cons x r=>rfl
 clear hm xa xb
 cases ca:sgB a[0] with
 | true=>
  cases cb:sgB b[0] with
  | true=>
   have HV:=zB (show M = true by rw [<- zA HE,ca,cb]; rfl)
   go_enter Tryz.func114,Tryz.ntmps114
   go_wp2_with (go_at_call 154; refine (ZY _ _).mono ?_; rintro e w' ⟨rfl,rfl⟩)
   go_ret
   exact ⟨by rw [zA HV]; rfl,rfl⟩
  | false=>
   have HV:=zB (show M = false by rw [<- zA HE,ca,cb]; rfl)
   go_enter Tryz.func114,Tryz.ntmps114
   go_wp2_with (go_at_call 154; refine (ZY _ _).mono ?_; rintro e w' ⟨rfl,rfl⟩)
   go_ret
   exact ⟨by rw [zA HV]; rfl,rfl⟩
 | false=>
  cases cb:sgB b[0] with
  | true=>
   have HV:=zB (show M = false by rw [<- zA HE,ca,cb]; rfl)
   go_enter Tryz.func114,Tryz.ntmps114
   go_wp2_with (go_at_call 154; refine (ZY _ _).mono ?_; rintro e w' ⟨rfl,rfl⟩)
   go_ret
   exact ⟨by rw [zA HV]; rfl,rfl⟩
  | false=>
   have t40:∀ x:ByteArray,x = ⟨#[40]⟩ ↔ x.toList = [40]:=fun x=>⟨fun e=>by rw [e,ByteArray.toList_eq],fun e=>zAK (by rw [e,ByteArray.toList_eq])⟩
   have t41:∀ x:ByteArray,x = ⟨#[41]⟩ ↔ x.toList = [41]:=fun x=>⟨fun e=>by rw [e,ByteArray.toList_eq],fun e=>zAK (by rw [e,ByteArray.toList_eq])⟩
   have HV:=zB (show M = ((!a.toList == [40]) && (!a.toList == [41]) && (!b.toList == [40]) && (!b.toList == [41])) by
    rw [<- zA HE,ca,cb,if_neg (by simp)]
    simp only [ne_eq,t40,t41]
    rw [Bool.eq_iff_iff]
    simp [and_assoc])
   clear t40 t41 HE HM
   go_enter Tryz.func114,Tryz.ntmps114
   go_wp2_with (go_at_call 154; refine (ZY _ _).mono ?_; rintro e w' ⟨rfl,rfl⟩)
   all_goals
    go_ret
    refine ⟨?_,rfl⟩
    rw [zA HV]
    clear HV
    simp_all
def atB (ws:List ByteArray) (i:Nat):ByteArray:=ws.getD i ByteArray.empty
def zBn (ws:List ByteArray) (i k:Nat):ByteArray:=if 0 < i /\ (zBf k).size = 0 /\ zC8 (atB ws (i - 1)) (atB ws i) = true then ⟨#[32]⟩ else zBf k
def Zm (bs:List UInt8) (ws:List ByteArray) (p:Nat):Nat -> ByteArray × Nat
 | 0=>(zBf (nxt bs p),adv bs p)
 | i + 1=>((Zm bs ws p i).1 ++ zBn ws i (nxt bs (Zm bs ws p i).2) ++ atB ws i,adv bs (Zm bs ws p i).2)
theorem zHJ (ws:List ByteArray) (i k:Nat):(zBn ws i k).size <= 2:=by
 unfold zBn
 split
 ·decide
 ·exact zAr k
theorem zHK (bs:List UInt8) (ws:List ByteArray) (p:Nat) (h:∀ i,(atB ws i).size <= 20000):∀ i,(Zm bs ws p i).1.size <= 2 + 20002 * i
 | 0=>by have:=zAr (nxt bs p); simp only [Zm]; omega
 | i + 1=>by
  have h1:=zHK bs ws p h i
  have h2:=zHJ ws i (nxt bs (Zm bs ws p i).2)
  have h3:=h i
  show ((Zm bs ws p i).1 ++ zBn ws i (nxt bs (Zm bs ws p i).2) ++ atB ws i).size <= _
  rw [ByteArray.size_append,ByteArray.size_append]
  omega
end Go.Proofs.YtfboipappaonhaaGreat
namespace Go.Proofs.YtfboipappaonhaaGreat
set_option linter.unusedSimpArgs false
set_option linter.unusedVariables false
set_option maxHeartbeats 16000000
set_option maxRecDepth 100000
open Go.RowKit
open Go.Deep (BT)
def avN (bs:List UInt8):Nat -> Nat -> Nat
 | 0,p=>p
 | i + 1,p=>adv bs (avN bs i p)
theorem zFd (bs:List UInt8) (ws:List ByteArray) (p:Nat):∀ i,(Zm bs ws p i).2 = avN bs (i + 1) p
 | 0=>rfl
 | i + 1=>by
  show adv bs (Zm bs ws p i).2 = adv bs (avN bs (i + 1) p)
  rw [zFd bs ws p i]
theorem zC4 (bs:List UInt8) (ws:List ByteArray) (p:Nat) (h:∀ i,(atB ws i).size <= 100):∀ i,(Zm bs ws p i).1.size <= 2 + 102 * i
 | 0=>by have:=zAr (nxt bs p); simp only [Zm]; omega
 | i + 1=>by
  have h1:=zC4 bs ws p h i
  have h2:=zHJ ws i (nxt bs (Zm bs ws p i).2)
  have h3:=h i
  show ((Zm bs ws p i).1 ++ zBn ws i (nxt bs (Zm bs ws p i).2) ++ atB ws i).size <= _
  rw [ByteArray.size_append,ByteArray.size_append]
  omega
def zLF (bs:List UInt8) (ns:List OpR) (sp:Bool) (p q:Nat):Prop:=
 ∃ n q1,zMa bs ns (adv bs p) n q1 /\ ((sp = true /\ nxt bs p % 64 = 6 /\ q = q1) \/ (¬ (sp = true /\ nxt bs p % 64 = 6) /\ q = avN bs (n + 2) (nxt bs p % 5)))
theorem zLF.one {bs:List UInt8} {ns:List OpR} {sp:Bool} {p q q':Nat} (h:zLF bs ns sp p q) (h':zLF bs ns sp p q'):q = q':=by
 obtain ⟨n,q1,hw,hc⟩:=h
 obtain ⟨n',q1',hw',hc'⟩:=h'
 obtain ⟨rfl,rfl⟩:=hw.one hw'
 rcases hc with ⟨a,b,rfl⟩ | ⟨a,rfl⟩ <;> rcases hc' with ⟨a',b',rfl⟩ | ⟨a',rfl⟩
 ·rfl
 ·exact absurd ⟨a,b⟩ a'
 ·exact absurd ⟨a',b'⟩ a
 ·rfl
def zIA (bs:List UInt8) (ns:List OpR):Prop:=
 ∃ ys q q2,zBv bs (adv bs (adv bs 0)) (3 + nxt bs (adv bs 0) % 8) ys q /\ zLF bs ys (decide (nxt bs 0 % 3 = 2)) q q2 /\
  ((nxt bs 0 % 32 = 29 /\ ns = zCS) \/ (nxt bs 0 % 32 = 31 /\ ns = zCU ys bs q2) \/ (nxt bs 0 % 32 ≠ 29 /\ nxt bs 0 % 32 ≠ 31 /\ ns = ys))
theorem zIA.one {bs:List UInt8} {ns ns':List OpR} (h:zIA bs ns) (h':zIA bs ns'):ns = ns':=by
 obtain ⟨ys,q,q2,ht,hx,hc⟩:=h
 obtain ⟨ys',q',q2',ht',hx',hc'⟩:=h'
 obtain ⟨rfl,rfl⟩:=ht.one ht'
 obtain rfl:=hx.one hx'
 rcases hc with ⟨a,rfl⟩ | ⟨a,rfl⟩ | ⟨a,b,rfl⟩ <;> rcases hc' with ⟨a',rfl⟩ | ⟨a',rfl⟩ | ⟨a',b',rfl⟩
 ·rfl
 ·omega
 ·exact absurd a a'
 ·omega
 ·rfl
 ·exact absurd a b'
 ·exact absurd a' a
 ·exact absurd a' b
 ·rfl
theorem zIA.sized {bs:List UInt8} {ns:List OpR} (h:zIA bs ns):ns.length <= 1048576 /\ ZV ns:=by
 obtain ⟨ys,q,q2,ht,_,hc⟩:=h
 obtain ⟨h1,h2⟩:=ht.len
 have h3:=Nat.mod_lt (nxt bs (adv bs 0)) (show 0 < 8 by decide)
 rcases hc with ⟨_,rfl⟩ | ⟨_,rfl⟩ | ⟨_,_,rfl⟩
 ·refine ⟨by decide,fun i hi=>?_⟩
  have:i = 0:=by have:i < 1:=hi; omega
  subst this
  show 1 <= maxLen
  unfold maxLen; omega
 ·obtain ⟨h4,h5⟩:=zK0 h2 bs q2
  exact ⟨by omega,fun i hi=>by have:=h5 i hi; unfold maxLen; omega⟩
 ·exact ⟨by omega,fun i hi=>by have:=h2 i hi; unfold maxLen; omega⟩
end Go.Proofs.YtfboipappaonhaaGreat
