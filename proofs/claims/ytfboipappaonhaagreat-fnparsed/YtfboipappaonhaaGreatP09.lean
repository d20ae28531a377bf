import Derived.Maps.AppendAt
import Derived.Deep.MidRow
import Derived.Deep.RegionHeld3
import Derived.Test.YtfboipappaonhaaGreatP00
import Derived.Test.YtfboipappaonhaaGreatP01
import Derived.Test.YtfboipappaonhaaGreatP06
import Derived.Test.YtfboipappaonhaaGreatP08
namespace Go.Proofs.YtfboipappaonhaaGreat
set_option linter.unusedSimpArgs false
set_option linter.unusedVariables false
set_option maxHeartbeats 16000000
set_option maxRecDepth 100000
open Go.RowKit
def zBf (k:Nat):ByteArray:=if k % 5 = 0 then ⟨#[32]⟩ else if k % 5 = 2 then ⟨#[10,9]⟩ else if k % 5 = 3 then ⟨#[32,32]⟩ else ⟨#[]⟩
theorem zAr (k:Nat):(zBf k).size <= 2:=by
 unfold zBf
 repeat' split
 all_goals decide
theorem zOl (rp cap p:Nat) (a:Option Addr) (bs:List UInt8) (w:World) (h:RdS w rp a cap bs p) (hl:bs.length <= 1200) :
  Calls Tryz.prog 113 #[.pointer (some ⟨rp,0,none⟩)] w fun e w'=>(∃ g:ByteArray,e = .returned (.string g) /\ Hid (g = zBf (nxt bs p))) /\ Hid (RdS w' rp a cap bs (adv bs p)) /\ Hid (zE w w' rp):=by
 have H:=zB h
 clear h
 go_enter Tryz.func113,Tryz.ntmps113
 go_wp2_with fail
 refine (ZP rp cap p a bs _ (zA H) hl).mono ?_
 rintro e w1 ⟨⟨k,rfl,hk,HK⟩,H1,HP1⟩
 clear H
 have hcs:k % 5 = 0 \/ k % 5 = 1 \/ k % 5 = 2 \/ k % 5 = 3 \/ k % 5 = 4:=by omega
 rcases hcs with hc | hc | hc | hc | hc
 ·have HC:=zB hc
  have e0:((k:Int) % 5 == 0) = true:=by simp; omega
  clear hc
  go_wp2_with fail
  go_ret
  exact ⟨⟨_,rfl,zB (by rw [<- zA HK]; simp [zBf,zA HC])⟩,H1,HP1⟩
 ·have HC:=zB hc
  have e0:((k:Int) % 5 == 0) = false:=by simp; omega
  have e1:((k:Int) % 5 == 1) = true:=by simp; omega
  clear hc
  go_wp2_with fail
  go_ret
  exact ⟨⟨_,rfl,zB (by rw [<- zA HK]; simp [zBf,zA HC])⟩,H1,HP1⟩
 ·have HC:=zB hc
  have e0:((k:Int) % 5 == 0) = false:=by simp; omega
  have e1:((k:Int) % 5 == 1) = false:=by simp; omega
  have e2:((k:Int) % 5 == 2) = true:=by simp; omega
  clear hc
  go_wp2_with fail
  go_ret
  exact ⟨⟨_,rfl,zB (by rw [<- zA HK]; simp [zBf,zA HC])⟩,H1,HP1⟩
 ·have HC:=zB hc
  have e0:((k:Int) % 5 == 0) = false:=by simp; omega
  have e1:((k:Int) % 5 == 1) = false:=by simp; omega
  have e2:((k:Int) % 5 == 2) = false:=by simp; omega
  have e3:((k:Int) % 5 == 3) = true:=by simp; omega
  clear hc
  go_wp2_with fail
  go_ret
  exact ⟨⟨_,rfl,zB (by rw [<- zA HK]; simp [zBf,zA HC])⟩,H1,HP1⟩
 ·have HC:=zB hc
  have e0:((k:Int) % 5 == 0) = false:=by simp; omega
  have e1:((k:Int) % 5 == 1) = false:=by simp; omega
  have e2:((k:Int) % 5 == 2) = false:=by simp; omega
  have e3:((k:Int) % 5 == 3) = false:=by simp; omega
  clear hc
  go_wp2_with fail
  go_ret
  exact ⟨⟨_,rfl,zB (by rw [<- zA HK]; simp [zBf,zA HC])⟩,H1,HP1⟩
theorem zJb (W:World) (c:Int):(convert 22 9 (.slice (some ⟨W.heap.size,0,none⟩) 1 1)).run Tryz.prog (W.alloc (.cells #[.int .u8 c] 5)) = .ok (.string ⟨#[UInt8.ofNat c.toNat]⟩) (W.alloc (.cells #[.int .u8 c] 5)):=by
 rw [run_convert_bytes_string _ 22 9 5 _ _ _ Tryz.underlying22 Tryz.underlying5 Tryz.underlying9]
 have hl:(loadCells ⟨W.heap.size,0,none⟩ 1).run Tryz.prog (W.alloc (.cells #[.int .u8 c] 5)) = .ok ([c].map (Value.int .u8)).toArray (W.alloc (.cells #[.int .u8 c] 5)):=
  run_loadCells_list (P:=Tryz.prog) _ ⟨W.heap.size,0,none⟩ [.int .u8 c] (fun j v hv=>by
   match j,hv with
   | 0,hv=>simp at hv; subst hv; simp [Addr.add,go_sem])
 rw [run_bytesToString _ ⟨W.heap.size,0,none⟩ 1 1 [c] hl]
 rfl
def zAR (xs:List OpR) (bs:List UInt8) (p:Nat):ByteArray:=
 if nxt bs p % 8 < 4 /\ 0 < xs.length then (atO xs (nxt bs p / 8 % xs.length)).s
 else if nxt bs p % 8 = 4 then ⟨#[40]⟩ else if nxt bs p % 8 = 5 then ⟨#[41]⟩
 else if nxt bs p % 8 = 6 then (⟨#[97,49,95,98]⟩:ByteArray).extract 0 (1 + nxt bs p / 8 % 4)
 else if 240 <= nxt bs p then txN (nxt bs p)
 else if 224 <= nxt bs p then ⟨#[(nxt bs (adv bs p)).toUInt8]⟩
 else (⟨#[49,48,50,55]⟩:ByteArray).extract (nxt bs p / 8 % 4) 4
def zAd (xs:List OpR) (bs:List UInt8) (p:Nat):Nat:=
 if nxt bs p % 8 < 4 /\ 0 < xs.length then adv bs p
 else if nxt bs p % 8 = 4 then adv bs p else if nxt bs p % 8 = 5 then adv bs p
 else if nxt bs p % 8 = 6 then adv bs p
 else if 240 <= nxt bs p then adv bs p
 else if 224 <= nxt bs p then adv bs (adv bs p)
 else adv bs p
theorem zFv (rp cap p g c:Nat) (a:Option Addr) (bs:List UInt8) (xs:List OpR) (w:World) (h:RdS w rp a cap bs p) (hl:bs.length <= 1200) (hm:xs.length <= 1048576) (hx:Ops w g 0 xs) (hg:g < w.heap.size) (hne:g ≠ rp) :
  Calls Tryz.prog 112 #[.pointer (some ⟨rp,0,none⟩),.agg #[.slice (some ⟨g,0,none⟩) xs.length c]] w fun e w'=>(∃ s:ByteArray,e = .returned (.string s) /\ Hid (s = zAR xs bs p)) /\ Hid (RdS w' rp a cap bs (zAd xs bs p)) /\ Hid (zE w w' rp):=by
 have hrpw:=h.lt
 have H:=zB h
 clear h
 go_enter Tryz.func112,Tryz.ntmps112
 go_wp2_with fail
 refine (ZP rp cap p a bs _ ((zA H).below (zC _ _)) hl).mono ?_
 rintro e w1 ⟨⟨k,rfl,hk,HK⟩,H1,HP1⟩
 have HW:=zB (show zE w w1 rp from (zE.of_below (zC _ _)).trans (zA HP1))
 have z1:w.heap.size + 1 <= w1.heap.size:=by have:=(zA HP1).size; simpa using this
 have b0:w1.cell? ⟨w.heap.size,0,none⟩ = some (.slice (some ⟨g,0,none⟩) xs.length c):=((zA HP1).cell (b:=w.heap.size) (by simp) (by omega) 0).trans (by simp [go_sem])
 have HX:=zB ((zA HW).ops hx hg hne)
 clear H HP1 hx
 by_cases hA:k % 8 < 4 /\ 0 < xs.length
 ·obtain ⟨hA1,hA2⟩:=hA
  have HA:=zB (And.intro hA1 hA2)
  have e0:(k:Int) % 8 < 4:=by omega
  have e1:(0:Int) < (xs.length:Int):=by omega
  have hi:k / 8 % xs.length < xs.length:=Nat.mod_lt _ hA2
  obtain ⟨a0,a1,a2,a3⟩:=(zA HX) _ hi
  simp only [Nat.zero_add] at a0 a1 a2 a3
  clear hA1
  have e3:((xs.length:Int) == 0) = false:=beq_eq_false_iff_ne.2 (by omega)
  have e4:(k:Int) / 8 % (xs.length:Int) = ((k / 8 % xs.length:Nat):Int):=by simp
  have e5:((k / 8 % xs.length:Nat):Int) < (xs.length:Int):=by exact_mod_cast hi
  have HN:=zB (show (atO xs (k / 8 % xs.length)).s = zAR xs bs p by simp [zAR,<- zA HK,zA HA])
  have HP:=zB (show zAd xs bs p = adv bs p by simp [zAd,<- zA HK,zA HA])
  generalize k / 8 % xs.length = m at hi a0 a1 a2 a3 e4 e5 HN
  go_wp2_with fail
  go_quiet (fail)
  go_wp2_with fail
  go_ret
  rw [zA HP]
  exact ⟨⟨_,rfl,HN⟩,zB ((zA H1).drewN _),zB ((zA HW).trans (Zp _ _ _))⟩
 ·have HA:=zB hA
  by_cases h4:k % 8 = 4
  ·have HC:=zB h4
   have e0:¬ (k:Int) % 8 < 4:=by omega
   have e1:((k:Int) % 8 == 4) = true:=by simp; omega
   have HN:=zB (show (⟨#[40]⟩:ByteArray) = zAR xs bs p by simp [zAR,<- zA HK,zA HC])
   have HP:=zB (show zAd xs bs p = adv bs p by simp [zAd,<- zA HK,zA HC])
   clear h4 hA
   go_wp2_with fail
   go_ret
   rw [zA HP]
   exact ⟨⟨_,rfl,HN⟩,H1,HW⟩
  by_cases h5:k % 8 = 5
  ·have HC:=zB h5
   have e0:¬ (k:Int) % 8 < 4:=by omega
   have e1:((k:Int) % 8 == 4) = false:=by simp; omega
   have e2:((k:Int) % 8 == 5) = true:=by simp; omega
   have HN:=zB (show (⟨#[41]⟩:ByteArray) = zAR xs bs p by simp [zAR,<- zA HK,zA HC])
   have HP:=zB (show zAd xs bs p = adv bs p by simp [zAd,<- zA HK,zA HC])
   clear h4 h5 hA
   go_wp2_with fail
   go_ret
   rw [zA HP]
   exact ⟨⟨_,rfl,HN⟩,H1,HW⟩
  by_cases h6:k % 8 = 6
  ·have HC:=zB h6
   have e0:¬ (k:Int) % 8 < 4:=by omega
   have e1:((k:Int) % 8 == 4) = false:=by simp; omega
   have e2:((k:Int) % 8 == 5) = false:=by simp; omega
   have e3:((k:Int) % 8 == 6) = true:=by simp; omega
   have e4:1 + (k:Int) / 8 % 4 <= 4:=by omega
   have e5:(0:Int) <= 1 + (k:Int) / 8 % 4:=by omega
   have HN:=zB (show (⟨#[97,49,95,98]⟩:ByteArray).extract 0 (1 + k / 8 % 4) = zAR xs bs p by simp [zAR,<- zA HK,zA HC])
   have HP:=zB (show zAd xs bs p = adv bs p by simp [zAd,<- zA HK,zA HC])
   clear h4 h5 h6 hA
   go_wp2_with fail
   go_ret
   rw [zA HP]
   exact ⟨⟨_,rfl,HN⟩,H1,HW⟩
  have h7:(k % 8 < 4 /\ xs.length = 0) \/ k % 8 = 7:=by omega
  have HC:=zB (show ¬ (k % 8 < 4 /\ 0 < xs.length) /\ ¬ k % 8 = 4 /\ ¬ k % 8 = 5 /\ ¬ k % 8 = 6 from ⟨hA,h4,h5,h6⟩)
  have e1:((k:Int) % 8 == 4) = false:=by simp; omega
  have e2:((k:Int) % 8 == 5) = false:=by simp; omega
  have e3:((k:Int) % 8 == 6) = false:=by simp; omega
  clear h4 h5 h6 hA
  rcases h7 with ⟨h7,h8⟩ | h7
  ·have e0:(k:Int) % 8 < 4:=by omega
   have e4:¬ (0:Int) < (xs.length:Int):=by omega
   clear h7 h8
   by_cases hb:240 <= k
   ·have HB:=zB hb
    have e5:(240:Int) <= (k:Int):=by omega
    have HN:=zB (show txN k = zAR xs bs p by simp [zAR,<- zA HK,zA HC,zA HB])
    have HP:=zB (show zAd xs bs p = adv bs p by simp [zAd,<- zA HK,zA HC,zA HB])
    clear hb
    go_wp2_with (go_at_call 150; refine (zAP _ _ (by omega)).mono ?_; rintro e w3 ⟨rfl,hx⟩; obtain rfl:=hx.symm)
    go_ret
    rw [zA HP]
    exact ⟨⟨_,rfl,HN⟩,H1,HW⟩
   by_cases hd:224 <= k
   ·have HD:=zB (And.intro hb hd)
    have e5:¬ (240:Int) <= (k:Int):=by omega
    have e6:(224:Int) <= (k:Int):=by omega
    have HN:=zB (show (⟨#[(nxt bs (adv bs p)).toUInt8]⟩:ByteArray) = zAR xs bs p by simp [zAR,<- zA HK,zA HC,zA HD])
    have HP:=zB (show zAd xs bs p = adv bs (adv bs p) by simp [zAd,<- zA HK,zA HC,zA HD])
    clear hb hd
    go_wp2_with fail
    refine (ZP rp cap _ a bs _ (zA H1) hl).mono ?_
    rintro e w2 ⟨⟨v,rfl,hv,HV⟩,H2,HP2⟩
    have HW2:=zB ((zA HW).trans (zA HP2))
    clear H1 HP2 b0
    have hcv:=fun W c=>zJb W c
    go_wp2_with fail
    go_ret
    rw [zA HP]
    refine ⟨⟨_,rfl,zB ?_⟩,zB ((zA H2).below (zC _ _)),zB ((zA HW2).belowN (zC _ _))⟩
    rw [<- zA HN,<- zA HV]
   ·have HD:=zB (And.intro hb hd)
    have e5:¬ (240:Int) <= (k:Int):=by omega
    have e6:¬ (224:Int) <= (k:Int):=by omega
    have e7:(k:Int) / 8 % 4 <= 4:=by omega
    have e8:(0:Int) <= (k:Int) / 8 % 4:=by omega
    have HN:=zB (show (⟨#[49,48,50,55]⟩:ByteArray).extract (k / 8 % 4) 4 = zAR xs bs p by simp [zAR,<- zA HK,zA HC,zA HD])
    have HP:=zB (show zAd xs bs p = adv bs p by simp [zAd,<- zA HK,zA HC,zA HD])
    clear hb hd
    go_wp2_with fail
    go_ret
    rw [zA HP]
    exact ⟨⟨_,rfl,HN⟩,H1,HW⟩
  ·have e0:¬ (k:Int) % 8 < 4:=by omega
   clear h7
   by_cases hb:240 <= k
   ·have HB:=zB hb
    have e5:(240:Int) <= (k:Int):=by omega
    have HN:=zB (show txN k = zAR xs bs p by simp [zAR,<- zA HK,zA HC,zA HB])
    have HP:=zB (show zAd xs bs p = adv bs p by simp [zAd,<- zA HK,zA HC,zA HB])
    clear hb
    go_wp2_with (go_at_call 150; refine (zAP _ _ (by omega)).mono ?_; rintro e w3 ⟨rfl,hx⟩; obtain rfl:=hx.symm)
    go_ret
    rw [zA HP]
    exact ⟨⟨_,rfl,HN⟩,H1,HW⟩
   by_cases hd:224 <= k
   ·have HD:=zB (And.intro hb hd)
    have e5:¬ (240:Int) <= (k:Int):=by omega
    have e6:(224:Int) <= (k:Int):=by omega
    have HN:=zB (show (⟨#[(nxt bs (adv bs p)).toUInt8]⟩:ByteArray) = zAR xs bs p by simp [zAR,<- zA HK,zA HC,zA HD])
    have HP:=zB (show zAd xs bs p = adv bs (adv bs p) by simp [zAd,<- zA HK,zA HC,zA HD])
    clear hb hd
    go_wp2_with fail
    refine (ZP rp cap _ a bs _ (zA H1) hl).mono ?_
    rintro e w2 ⟨⟨v,rfl,hv,HV⟩,H2,HP2⟩
    have HW2:=zB ((zA HW).trans (zA HP2))
    clear H1 HP2 b0
    have hcv:=fun W c=>zJb W c
    go_wp2_with fail
    go_ret
    rw [zA HP]
    refine ⟨⟨_,rfl,zB ?_⟩,zB ((zA H2).below (zC _ _)),zB ((zA HW2).belowN (zC _ _))⟩
    rw [<- zA HN,<- zA HV]
   ·have HD:=zB (And.intro hb hd)
    have e5:¬ (240:Int) <= (k:Int):=by omega
    have e6:¬ (224:Int) <= (k:Int):=by omega
    have e7:(k:Int) / 8 % 4 <= 4:=by omega
    have e8:(0:Int) <= (k:Int) / 8 % 4:=by omega
    have HN:=zB (show (⟨#[49,48,50,55]⟩:ByteArray).extract (k / 8 % 4) 4 = zAR xs bs p by simp [zAR,<- zA HK,zA HC,zA HD])
    have HP:=zB (show zAd xs bs p = adv bs p by simp [zAd,<- zA HK,zA HC,zA HD])
    clear hb hd
    go_wp2_with fail
    go_ret
    rw [zA HP]
    exact ⟨⟨_,rfl,HN⟩,H1,HW⟩
def zHg (w:World) (B:Nat) (v:Value) (l:List UInt8):Prop:=
 ∃ g cap,v = .slice (some ⟨g,0,none⟩) l.length cap /\ B <= g /\ g < w.heap.size /\ l.length <= cap /\ cap <= maxLen /\ (∀ j,j < cap -> (w.cell? ⟨g,j,none⟩).isSome = true /\ w.frozen? ⟨g,j,none⟩ = false) /\ ∀ j u,(cellsB l)[j]? = some u -> w.cell? ⟨g,j,none⟩ = some u
theorem zHg.below {w w':World} {B:Nat} {v:Value} {l:List UInt8} (h:zHg w B v l) (hb:Below w.heap.size w w'):zHg w' B v l:=by
 obtain ⟨g,cap,rfl,h1,h2,h3,h4,h5,h6⟩:=h
 refine ⟨g,cap,rfl,h1,Nat.lt_of_lt_of_le h2 hb.size,h3,h4,fun j hj=>?_,fun j u hj=>(hb.cell (p:=⟨g,j,none⟩) h2).trans (h6 j u hj)⟩
 have c:=hb.cell (p:=⟨g,j,none⟩) h2
 have f:=hb.frozen (p:=⟨g,j,none⟩) h2
 exact ⟨by rw [c]; exact (h5 j hj).1,by rw [f]; exact (h5 j hj).2⟩
theorem zLz (W:World) (s:ByteArray) (hs:s.size <= 100000000):∃ (v:Value) (W':World),(convert 9 22 (.string s)).run Tryz.prog W = .ok v W' /\ zHg W' W.heap.size v s.data.toList /\ Below W.heap.size W W':=by
 have hr:=run_bytes_of_string (P:=Tryz.prog) W 9 22 5 s Tryz.underlying9 Tryz.underlying22 Tryz.underlying5
 have hsl:s.data.toList.length = s.size:=by simp
 have hge:=grownCap_ge W s.size 0 5
 have hnew:=heap_alloc_new W.drew (.cells (bytesRow s (grownCap W s.size 0 5)) 5 ((bytesRow s (grownCap W s.size 0 5)).size,(bytesRow s (grownCap W s.size 0 5)).size + 1))
 have hsz:(bytesRow s (grownCap W s.size 0 5)).size = grownCap W s.size 0 5:=by
  unfold bytesRow
  simp
  have:s.data.size = s.size:=rfl
  omega
 refine ⟨_,_,hr,⟨W.heap.size,grownCap W s.size 0 5,by rw [hsl],Nat.le_refl _,by simp,by rw [hsl]; exact hge,grownCap_le_maxLen W s.size 0 5 (by unfold maxLen; omega),fun j hj=>⟨?_,?_⟩,fun j u hj=>?_⟩,(Below.refl _ _).drew.alloc (Nat.le_refl _) _⟩
 ·rw [cell_of_row _ W.heap.size j _ 5 _ hnew]
  simp [hsz,hj]
 ·have hn:(W.drew.alloc (.cells (bytesRow s (grownCap W s.size 0 5)) 5 ((bytesRow s (grownCap W s.size 0 5)).size,(bytesRow s (grownCap W s.size 0 5)).size + 1))).heap[W.heap.size]? = _:=hnew
  unfold World.frozen?
  simp only [hn]
  rw [hsz]
  simp
  omega
 ·rw [cell_of_row _ W.heap.size j _ 5 _ hnew]
  have hlt:j < s.data.size:=by
   have:=(List.getElem?_eq_some_iff.1 hj).1
   rw [ZI] at this
   simpa using this
  rw [bytesRow_at s _ j hlt]
  simp [cellsB] at hj
  obtain ⟨x,hx,rfl⟩:=hj
  rw [Array.getElem?_eq_getElem hlt] at hx
  injection hx with hx
  subst hx
  rfl
theorem zL0 (w:World) (ty:TypeId) (B:Nat) (v:Value) (l:List UInt8) (b:UInt8) (h:zHg w B v l) (hB:B <= w.heap.size) (ad:Addr) (hx:w.cell? (ad.add 0) = some (.int .u8 (b.toNat:Int))) (hl:l.length <= 1000000) :
  ∃ v' w',(Builtin.append_ #[22,22] ty #[v,.slice (some ad) 1 1]).run Tryz.prog w = .ok v' w' /\ zHg w' B v' (l ++ [b]) /\ Below B w w':=by
 obtain ⟨g,cap,rfl,h1,h2,h3,h4,h5,h6⟩:=h
 obtain ⟨i,hi,hz⟩:=Option.map_eq_some_iff.1 infoByte
 simp only [Prod.mk.injEq] at hz
 obtain ⟨hz0,hz1,hz2⟩:=hz
 have hnews:∀ j u,([.int .u8 (b.toNat:Int)]:List Value)[j]? = some u -> w.cell? (ad.add j) = some u:=fun j u hj=>by
  match j,hj with
  | 0,hj=>simp at hj; subst hj; exact hx
 have hbl:(l ++ [b]).length = l.length + 1:=by simp
 by_cases hroom:l.length + 1 <= cap
 ·have hf:=run_firstCells_some (P:=Tryz.prog) w i.size 1 ad 1 1 [.int .u8 (b.toNat:Int)] (by rw [hz1]; rfl) hnews
  obtain ⟨c1,c2⟩:=h5 l.length (by omega)
  obtain ⟨u0,hu0⟩:=Option.isSome_iff_exists.1 c1
  have hadd:(⟨g,l.length,none⟩:Addr).add 0 = ⟨g,l.length,none⟩:=by unfold Addr.add; split <;> simp_all
  have hst:(storeCells ⟨g,l.length,none⟩ [.int .u8 (b.toNat:Int)] 0).run Tryz.prog w = .ok () (w.setCell ⟨g,l.length,none⟩ (.int .u8 (b.toNat:Int))):=by
   simp only [storeCells,Sem.run_bind]
   rw [hadd,run_store Tryz.prog w _ _ _ rfl,hu0]
   simp [c2]
  refine ⟨.slice (some ⟨g,0,none⟩) (l.length + 1) cap,w.setCell ⟨g,l.length,none⟩ (.int .u8 (b.toNat:Int)),?_,?_,(Below.refl _ _).setCell (by simpa using h1) _⟩
  ·rw [hz1] at hf
   simp [Builtin.append_,run_underlying Tryz.underlying22,sizeOf,typeInfo,hi,hz1,Builtin.lenOf,hroom,hf,Addr.add_lit,hst]
  ·refine ⟨g,cap,by rw [hbl],h1,by simpa [World.setCell] using h2,by rw [hbl]; exact hroom,h4,fun j hj=>?_,fun j u hj=>?_⟩
   ·refine ⟨?_,(World.frozen?_setCell _ _ _ _).trans (h5 j hj).2⟩
    by_cases e:j = l.length
    ·subst e; rw [World.cell?_setCell_same _ _ _ hu0]; rfl
    ·rw [World.cell?_setCell_other _ _ _ _ (fun x=>e (by injection x with _ x; exact x.symm))]; exact (h5 j hj).1
   ·rw [zAG] at hj
    by_cases e:j = l.length
    ·subst e
     rw [World.cell?_setCell_same _ _ _ hu0]
     rw [List.getElem?_append_right (by rw [ZI]; exact Nat.le_refl _),ZI,Nat.sub_self] at hj
     simpa [cellsB] using hj
    ·rw [World.cell?_setCell_other _ _ _ _ (fun x=>e (by injection x with _ x; exact x.symm))]
     apply h6
     have hjl:j < l.length + 1:=by
      have:=(List.getElem?_eq_some_iff.1 hj).1
      simpa [ZI] using this
     rw [List.getElem?_append_left (by rw [ZI]; omega)] at hj
     exact hj
 ·have holds:∀ j u,(cellsB l)[j]? = some u -> w.cell? ((⟨g,0,none⟩:Addr).add j) = some u:=fun j u hj=>by
   rw [Addr.add_mid,Nat.zero_add]; exact h6 j u hj
  have hr:=run_append_grow (P:=Tryz.prog) w 22 ty 5 i _ Tryz.underlying22 hi hz0 ⟨g,0,none⟩ l.length cap (cellsB l) (by rw [ZI,hz1,Nat.mul_one]) holds ad 1 1 [.int .u8 (b.toNat:Int)] (by rw [hz1]; rfl) hnews (by omega) (by omega) (growslice_fits (by omega) (by rw [hz2]; omega))
  have hge:=grownCap_ge w (l.length + 1) cap 5
  have hnew:=heap_alloc_new w.drew (.cells ((cellsB l).toArray ++ [Value.int .u8 (b.toNat:Int)].toArray ++ Builtin.zeroCells (Value.int .u8 0).cells (grownCap w (l.length + 1) cap 5 - (l.length + 1))) 5)
  refine ⟨_,_,hr,⟨w.heap.size,grownCap w (l.length + 1) cap 5,by rw [hbl],hB,by simp,by rw [hbl]; exact hge,grownCap_le_maxLen w (l.length + 1) cap 5 (by unfold maxLen; omega),fun j hj=>⟨?_,frozen_of_row _ _ _ _ _ hnew⟩,fun j u hj=>?_⟩,((Below.refl _ _).drew.alloc (Nat.le_refl _) _).mono hB⟩
  ·rw [cell_of_row _ w.heap.size j _ 5 _ hnew]
   have:j < ((cellsB l).toArray ++ [Value.int .u8 (b.toNat:Int)].toArray ++ Builtin.zeroCells (Value.int .u8 0).cells (grownCap w (l.length + 1) cap 5 - (l.length + 1))).size:=by
    simp [size_zeroCells,ZI,Value.cells]
    omega
   rw [Array.getElem?_eq_getElem this]
   rfl
  ·rw [cell_of_row _ w.heap.size j _ 5 _ hnew]
   rw [zAG] at hj
   have hjl:j < l.length + 1:=by
    have:=(List.getElem?_eq_some_iff.1 hj).1
    simpa [ZI] using this
   rw [Array.getElem?_append_left (by simp [ZI]; omega)]
   have e:(cellsB l).toArray ++ [Value.int .u8 (b.toNat:Int)].toArray = (cellsB l ++ cellsB [b]).toArray:=by simp [cellsB]
   rw [e]
   simpa using hj
theorem zIl {ops:Array Oper} {rest:List Oper} {o:Oper} {a:Act} {Q:Exit -> Act -> World -> Prop} {w:World} (hgd:o.guard = none) (s x:Operand)
  (ho:o.op = .call { callee:=.builtin .append,args:=#[s,x],argTypes:=#[22,22] })
  (B:Nat) (v:Value) (l:List UInt8) (b:UInt8) (hs:a.eval s = v) (hown:zHg w B v l) (hB:B <= w.heap.size) (ad:Addr) (hx:a.eval x = .slice (some ad) 1 1) (hc:w.cell? (ad.add 0) = some (.int .u8 (b.toNat:Int))) (hl:l.length <= 1000000)
  (h:∀ v' w',zHg w' B v' (l ++ [b]) -> Below B w w' -> wpList Tryz.prog ops Q rest (a.put o.dst v') w'):wpList Tryz.prog ops Q (o :: rest) a w:=by
 refine wpList_plain hgd fun K hK=>?_
 obtain ⟨v',w',hr,h2,h3⟩:=zL0 w o.type B v l b hown hB ad hc hl
 unfold Oper.wp execOp
 simp only [ho,resolve,invoke,builtin,Sem.run_bind,Sem.run_pure,Result.andThen_ok,List.map_toArray,List.map_cons,List.map_nil,hs,hx,hr]
 exact hK _ _ (h v' w' h2 h3)
theorem zBv.len {bs:List UInt8} {p0:Nat}:∀ {k:Nat} {xs:List OpR} {p:Nat},zBv bs p0 k xs p -> xs.length <= k /\ ∀ i,i < xs.length -> (atO xs i).s.size <= 16
 | 0,xs,p,h=>by
  obtain ⟨rfl,_⟩:=h
  exact ⟨Nat.zero_le _,fun i hi=>by simp at hi⟩
 | k + 1,xs,p,h=>by
  obtain ⟨ys,q,ht,_,hc⟩:=h
  obtain ⟨h1,h2⟩:=ht.len
  rcases hc with ⟨_,rfl⟩ | ⟨_,rfl⟩
  ·refine ⟨by simp; omega,fun i hi=>?_⟩
   by_cases e:i < ys.length
   ·have:atO (ys ++ [Zx (nxt bs q) (nxt bs (adv bs q)) true]) i = atO ys i:=by unfold atO; simp [List.getD,List.getElem?_append,e]
    rw [this]; exact h2 i e
   ·have e2:i = ys.length:=by simp at hi; omega
    have:atO (ys ++ [Zx (nxt bs q) (nxt bs (adv bs q)) true]) i = Zx (nxt bs q) (nxt bs (adv bs q)) true:=by unfold atO; simp [List.getD,e2]
    rw [this]
    show (txN _).size <= 16
    have:=zED (nxt bs (adv bs q))
    omega
  ·exact ⟨by omega,h2⟩
theorem zK0 {xs:List OpR} (hx:∀ i,i < xs.length -> (atO xs i).s.size <= 16) (bs:List UInt8) (p:Nat):(zCU xs bs p).length <= 501 + xs.length /\ ∀ i,i < (zCU xs bs p).length -> (atO (zCU xs bs p) i).s.size <= 1001:=by
 unfold zCU
 split
 ·rw [zEm]
  refine ⟨by omega,fun i hi=>?_⟩
  have:atO (ZS (nxt bs (adv bs p)) (500 + nxt bs (adv bs p) % 2)) i = zFu (nxt bs (adv bs p)) i:=by
   unfold atO ZS; simp [List.getD,hi]
  rw [this]
  show 3 <= 1001
  omega
 ·rw [List.length_set]
  refine ⟨by omega,fun i hi=>?_⟩
  by_cases e:i = nxt bs (adv bs p) % xs.length
  ·have:∀ o,atO (xs.set (nxt bs (adv bs p) % xs.length) o) i = o:=fun o=>by subst e; unfold atO; simp [List.getD,hi]
   rw [this]
   have hi':=hx i hi
   rw [e] at hi'
   unfold zBV
   split
   ·show (ByteArray.extract _ _ _).size <= 1001
    rw [ByteArray.size_extract]; omega
   ·split
    ·show (_ ++ _:ByteArray).size <= 1001
     rw [ByteArray.size_append]
     show _ + 1 <= 1001
     omega
    ·split
     ·show 0 <= 1001; omega
     ·split
      ·show (atO xs _).s.size <= 1001; omega
      ·split
       ·show (atO xs _).s.size <= 1001; omega
       ·split
        ·show (atO xs _).s.size <= 1001; omega
        ·show (txN _).size <= 1001
         have:=zED (nxt bs (adv bs (adv bs (adv bs p))))
         omega
  ·have:∀ o,atO (xs.set (nxt bs (adv bs p) % xs.length) o) i = atO xs i:=fun o=>by unfold atO; simp [List.getD,List.getElem?_set,Ne.symm e]
   rw [this]
   have:=hx i hi
   omega
def zOp:Value -> Nat
 | .slice _ n _=>n
 | _=>0
theorem zIm (l:List UInt8):(zDf l).length <= 1200:=by unfold zDf; simp; omega
end Go.Proofs.YtfboipappaonhaaGreat
namespace Go.Proofs.YtfboipappaonhaaGreat
set_option maxHeartbeats 16000000
set_option maxRecDepth 100000
open Go.RowKit
theorem zAZ (s:ByteArray) (k l sd:Int) (b:Bool) (w:World) (hs:s.size <= maxLen) :
  Calls Tryz.prog 99 #[.agg #[.string s,.int .i64 k,.int .i64 l,.int .i64 sd],.bool b] w fun e w'=>e = .returned (.int .i64 (zz s k l sd b)) /\ Below w.heap.size w w':=by
 cases ht:okB s k l sd
 ·have hf:=zB (zIa s k l sd b ht)
  go_enter Tryz.func99,Tryz.ntmps99
  go_wp2_with (go_at_call 101; refine (zCo _ _ _ _ _ hs).mono ?_; rintro e w' ⟨rfl,hb⟩)
  go_ret
  exact ⟨zF (zA hf).symm,(zC _ _).trans (hb.mono (by simp))⟩
 ·obtain ⟨⟨hl1,hl2⟩,h⟩:=zA2 s k l sd ht
  rcases h with ⟨rfl,rfl⟩ | ⟨rfl,rfl⟩ | ⟨rfl,rfl⟩ | ⟨rfl,rfl⟩ | ⟨rfl,rfl⟩ <;> cases b
  all_goals
   have hf:=zB (ht)
   go_enter Tryz.func99,Tryz.ntmps99
   go_wp2_with (go_at_call 101; refine (zCo _ _ _ _ _ hs).mono ?_; rintro e w' ⟨rfl,hb⟩; obtain ⟨hc,hz⟩:=zE4 hb)
   go_ret
   exact ⟨zF (by simp [zz,zIZ,zA hf]),(zC _ _).trans (hb.mono (by simp))⟩
theorem zGg (s:ByteArray) (k l sd:Int) (b:Bool) (w:World) (hl1:1 <= l) (hl2:l <= 1000) :
  Calls Tryz.prog 138 #[.agg #[.string s,.int .i64 k,.int .i64 l,.int .i64 sd],.bool b] w fun e w'=>e = .returned (.int .i64 (zIZ l sd b)) /\ Below w.heap.size w w':=by
 cases b
 ·by_cases h:sd = 1
  ·have h':(sd == 1) = true:=by simpa using h
   have H:=zB h
   clear h
   go_enter Tryz.func138,Tryz.ntmps138
   go_wp2
   go_ret
   exact ⟨zF (by simp [zIZ,zA H]),zC _ _⟩
  ·have h':(sd == 1) = false:=by simpa using h
   go_enter Tryz.func138,Tryz.ntmps138
   go_wp2
   go_ret
   exact ⟨zF (by simp [zIZ,h]),zC _ _⟩
 ·by_cases h:sd = 2
  ·have h':(sd == 2) = true:=by simpa using h
   have H:=zB h
   clear h
   go_enter Tryz.func138,Tryz.ntmps138
   go_wp2
   go_ret
   exact ⟨zF (by simp [zIZ,zA H]),zC _ _⟩
  ·have h':(sd == 2) = false:=by simpa using h
   go_enter Tryz.func138,Tryz.ntmps138
   go_wp2
   go_ret
   exact ⟨zF (by simp [zIZ,h]),zC _ _⟩
theorem Zr (s:ByteArray) (k l sd:Int) (b:Bool) (w:World) (hs:s.size <= maxLen) :
  Calls Tryz.prog 90 #[.agg #[.string s,.int .i64 k,.int .i64 l,.int .i64 sd],.bool b] w fun e w'=>e = .returned (.int .i64 (zz s k l sd b)) /\ Below w.heap.size w w':=by
 cases ht:okB s k l sd
 ·have hf:=zB (zIa s k l sd b ht)
  go_enter Tryz.func90,Tryz.ntmps90
  go_wp2_with (go_at_call 122; refine (zAO _ _ _ _ _ hs).mono ?_; rintro e w' ⟨rfl,hb⟩)
  go_ret
  exact ⟨zF (zA hf).symm,(zC _ _).trans (hb.mono (by simp))⟩
 ·obtain ⟨⟨hl1,hl2⟩,h⟩:=zA2 s k l sd ht
  have hf:=zB ht
  by_cases h2:k = 2
  ·subst h2
   clear h
   go_enter Tryz.func90,Tryz.ntmps90
   go_wp2_with (first | (go_at_call 122; refine (zAO _ _ _ _ _ hs).mono ?_; rintro e w' ⟨rfl,hb⟩; obtain ⟨hc,hz⟩:=zE4 hb) | (go_at_call 138; refine (zGg _ _ _ _ _ _ hl1 hl2).mono ?_; rintro e w1 ⟨rfl,hb1⟩))
   go_ret
   exact ⟨zF (by simp [zz,zA hf]),(zC _ _).trans ((hb.mono (by simp)).trans (hb1.mono (by have:=hb.size; simp at this; omega)))⟩
  ·have h2':(k == 2) = false:=by simpa using h2
   clear h
   cases b
   all_goals
    go_enter Tryz.func90,Tryz.ntmps90
    go_wp2_with (first | (go_at_call 122; refine (zAO _ _ _ _ _ hs).mono ?_; rintro e w' ⟨rfl,hb⟩; obtain ⟨hc,hz⟩:=zE4 hb))
    go_ret
    exact ⟨zF (by simp [zz,zA hf,h2]),(zC _ _).trans (hb.mono (by simp))⟩
def zBj (xs:List OpR) (t:ByteArray) (kd:Int):Nat -> Nat -> Option Nat
 | 0,_=>none
 | m + 1,i=>if (atO xs i).s = t /\ (atO xs i).k = kd then some i else zBj xs t kd m (i + 1)
def fnd (xs:List OpR) (t:ByteArray) (kd:Int):Option Nat:=zBj xs t kd xs.length 0
theorem zEE {xs:List OpR} {t:ByteArray} {kd:Int}:∀ {m i j:Nat},zBj xs t kd m i = some j -> i <= j /\ j < i + m /\ (atO xs j).s = t /\ (atO xs j).k = kd
 | 0,_,_,h=>by cases h
 | m + 1,i,j,h=>by
  unfold zBj at h
  split at h
  ·rename_i hc
   injection h with h
   subst h
   exact ⟨Nat.le_refl _,by omega,hc.1,hc.2⟩
  ·have:=zEE h
   exact ⟨by omega,by omega,this.2.2⟩
theorem zEF {xs:List OpR} {t:ByteArray} {kd:Int}:∀ {m i:Nat},zBj xs t kd m i = none -> ∀ j,i <= j -> j < i + m -> ¬ ((atO xs j).s = t /\ (atO xs j).k = kd)
 | 0,_,_,_,h1,h2=>by omega
 | m + 1,i,h,j,h1,h2=>by
  unfold zBj at h
  split at h
  ·cases h
  ·rename_i hc
   by_cases e:j = i
   ·subst e; exact hc
   ·exact zEF h j (by omega) (by omega)
theorem ZW {xs:List OpR} {t:ByteArray} {kd:Int} {j:Nat} (h:fnd xs t kd = some j):j < xs.length /\ (atO xs j).s = t /\ (atO xs j).k = kd:=by
 have:=zEE h
 exact ⟨by omega,this.2.2⟩
theorem zIn {xs:List OpR} {t:ByteArray} {kd:Int} (h:fnd xs t kd = none) {j:Nat} (hj:j < xs.length):¬ ((atO xs j).s = t /\ (atO xs j).k = kd):=
 zEF h j (Nat.zero_le _) (by omega)
theorem zEG {xs:List OpR} {t:ByteArray} {kd:Int}:∀ (k m i:Nat),(∀ j,i <= j -> j < i + k -> ¬ ((atO xs j).s = t /\ (atO xs j).k = kd)) -> zBj xs t kd (k + m) i = zBj xs t kd m (i + k)
 | 0,m,i,_=>by rw [Nat.zero_add,Nat.add_zero]
 | k + 1,m,i,h=>by
  have e:k + 1 + m = (k + m) + 1:=by omega
  rw [e]
  show (if (atO xs i).s = t /\ (atO xs i).k = kd then some i else zBj xs t kd (k + m) (i + 1)) = _
  rw [if_neg (h i (Nat.le_refl _) (by omega)),zEG k m (i + 1) (fun j h1 h2=>h j (by omega) (by omega))]
  congr 1
  omega
theorem zK1 {xs:List OpR} {t:ByteArray} {kd:Int} {k:Nat} (hk:k < xs.length) (h:∀ j,j < k -> ¬ ((atO xs j).s = t /\ (atO xs j).k = kd)) (hk2:(atO xs k).s = t /\ (atO xs k).k = kd):fnd xs t kd = some k:=by
 have e:xs.length = k + ((xs.length - k - 1) + 1):=by omega
 unfold fnd
 rw [e,zEG k _ 0 (fun j _ h2=>h j (by omega))]
 show (if (atO xs (0 + k)).s = t /\ (atO xs (0 + k)).k = kd then some (0 + k) else _) = _
 rw [Nat.zero_add,if_pos hk2]
theorem zKR {xs:List OpR} {t:ByteArray} {kd:Int} (h:∀ j,j < xs.length -> ¬ ((atO xs j).s = t /\ (atO xs j).k = kd)):fnd xs t kd = none:=by
 cases e:fnd xs t kd with
 | none=>rfl
 | some j=>exact absurd (ZW e).2 (h j (ZW e).1)
theorem zKS {xs:List OpR} (hv:zM xs 0) {t:ByteArray} {kd:Int} {j:Nat} (hj:j < xs.length) (h:(atO xs j).s = t /\ (atO xs j).k = kd):fnd xs t kd = some j:=by
 cases e:fnd xs t kd with
 | none=>exact absurd h (zIn e hj)
 | some i=>
  obtain ⟨hi,h1,h2⟩:=ZW e
  by_cases hij:i = j
  ·rw [hij]
  ·exfalso
   have hpr:¬ Pr 3 xs:=by
    rcases hv with ⟨h,_⟩ | ⟨_,⟨h,_⟩ | ⟨_,⟨h,_⟩ | ⟨h,_⟩⟩⟩
    ·exact absurd h (by decide)
    ·exact absurd h (by decide)
    ·exact absurd h (by decide)
    ·exact h
   apply hpr
   rcases Nat.lt_trichotomy i j with e | e | e
   ·exact ⟨j,i,e,hj,by simp [cl]; exact ⟨by rw [h1,h.1],by omega⟩⟩
   ·exact absurd e hij
   ·exact ⟨i,j,e,hi,by simp [cl]; exact ⟨by rw [h1,h.1],by omega⟩⟩
def ZD (o:zD):Prop:=3 <= o.k /\ o.k <= 5
def ZX (xs:List OpR) (o:zD):Int:=if 3 <= o.k /\ o.k <= 5 then (match fnd xs o.t (o.k - 2) with
 | some j=>(atO xs j).l
 | none=>1001) else 1001
def zA6 (xs:List OpR) (j:Nat) (b:Bool):Int:=zz (atO xs j).s (atO xs j).k (atO xs j).l (atO xs j).sd b
def zDi (xs:List OpR) (ns:List zD):Prop:=∀ i,i < ns.length -> ZD (atN ns i) -> fnd xs (atN ns i).t ((atN ns i).k - 2) ≠ none
def zA0 (xs:List OpR) (ns:List zD) (i:Nat):Prop:=∀ j,ZD (atN ns i) -> fnd xs (atN ns i).t ((atN ns i).k - 2) = some j ->
 zA6 xs j false <= ZX xs (atN ns (atN ns i).a.toNat) /\ (zR (atN ns i).k = 1 \/ zA6 xs j true <= ZX xs (atN ns (atN ns i).b.toNat))
def zCa (xs:List OpR) (ns:List zD) (c:Int):Prop:=
 (¬ zM xs 0 /\ c = 1) \/ (zM xs 0 /\ ((¬ (ZL ns /\ zDi xs ns) /\ c = 2) \/ ((ZL ns /\ zDi xs ns) /\ ((¬ (∀ i,i < ns.length -> zA0 xs ns i) /\ c = 3) \/ ((∀ i,i < ns.length -> zA0 xs ns i) /\ c = 0)))))
theorem zCa.one {xs:List OpR} {ns:List zD} {c c':Int} (h:zCa xs ns c) (h':zCa xs ns c'):c = c':=by
 rcases h with ⟨a,rfl⟩ | ⟨a,⟨b,rfl⟩ | ⟨b,⟨d,rfl⟩ | ⟨d,rfl⟩⟩⟩ <;> rcases h' with ⟨a',rfl⟩ | ⟨a',⟨b',rfl⟩ | ⟨b',⟨d',rfl⟩ | ⟨d',rfl⟩⟩⟩ <;> first | rfl | exact absurd a a' | exact absurd a' a | exact absurd b b' | exact absurd b' b | exact absurd d d' | exact absurd d' d
end Go.Proofs.YtfboipappaonhaaGreat
