import Derived.Deep.QuietTactic
import Derived.BigQuiet
import Derived.WalkSmall
import Derived.Test.YtfboipappaonhaaGreatP00
import Derived.Test.YtfboipappaonhaaGreatP02
import Derived.Test.YtfboipappaonhaaGreatP05
namespace Go.Proofs.YtfboipappaonhaaGreat
set_option linter.unusedSimpArgs false
set_option linter.unusedVariables false
set_option maxHeartbeats 16000000
set_option maxRecDepth 100000
open Go.RowKit
def zCS:List OpR:=[⟨⟨#[45]⟩,1,9,0⟩]
theorem zE7 (w:World) :
  Calls Tryz.prog 63 #[] w fun e w'=>(∃ g c,e = .returned (.agg #[.slice (some ⟨g,0,none⟩) zCS.length c]) /\ w.heap.size <= g /\ zm w' g zCS zCS.length) /\ Below w.heap.size w w':=by
 go_enter Tryz.func63,Tryz.ntmps63
 go_wp2_with fail
 refine bodyPost_ret (v:=.agg #[.slice (some ⟨w.heap.size + 1,0,none⟩) 1 1]) ?res rfl ⟨⟨w.heap.size + 1,1,rfl,by omega,?_⟩,?_⟩
 case res=>simp [results,Tryz.results63,go_sem]
 ·refine ⟨by simp,fun j hj=>?_,fun i hi=>?_⟩
  ·have hj4:j < 4:=hj
   match j,hj4 with
   | 0,_=>simp [go_sem]
   | 1,_=>simp [go_sem]
   | 2,_=>simp [go_sem]
   | 3,_=>simp [go_sem]
  ·have hi0:i = 0:=by have:i < 1:=hi; omega
   subst hi0
   simp [zAf,zCS,atO,go_sem]
 ·exact (zC _ _).alloc (by simp) _
theorem zDE (rp cap p gt ct:Nat) (a:Option Addr) (bs:List UInt8) (ns:List OpR) (grp:Bool) (w:World) (h:RdS w rp a cap bs p) (hl:bs.length <= 1200) (hns:ns.length <= 1048576) (hks:∀ j,j < ns.length -> 0 <= (atO ns j).k /\ (atO ns j).k <= 9) (ho:Ops w gt 0 ns) (hgt:gt < w.heap.size) (hnr:gt ≠ rp) :
  Calls Tryz.prog 94 #[.pointer (some ⟨rp,0,none⟩),.agg #[.slice (some ⟨gt,0,none⟩) ns.length ct],.bool grp] w fun e w'=>(∃ g c,e = .returned (.agg #[.slice (some ⟨g,0,none⟩) (gen bs ns grp (2 + nxt bs p % 5) (adv bs p) []).2.length c]) /\ (gen bs ns grp (2 + nxt bs p % 5) (adv bs p) []).2.length <= c /\ w.heap.size <= g /\ zv w' g (gen bs ns grp (2 + nxt bs p % 5) (adv bs p) []).2 (gen bs ns grp (2 + nxt bs p % 5) (adv bs p) []).2.length) /\ Hid (RdS w' rp a cap bs (gen bs ns grp (2 + nxt bs p % 5) (adv bs p) []).1) /\ Hid (zE w w' rp):=by
 have hrpw:=h.lt
 have H:=zB h
 have HO:=zB ho
 clear h ho
 obtain ⟨y,HY⟩:∃ y,Hid (gen bs ns grp (2 + nxt bs p % 5) (adv bs p) [] = y):=⟨_,zB rfl⟩
 rw [zA HY]
 go_enter Tryz.func94,Tryz.ntmps94
 go_wp2_with fail
 have hb0:Below w.heap.size w ((w.alloc (.cells #[.slice (some ⟨gt,0,none⟩) ns.length ct] 25)).alloc (.cells #[.slice none 0 0] 28)):=(zC _ _).alloc (by simp) _
 (with_reducible refine (ZP rp cap p a bs _ ((zA H).below hb0) hl).mono ?_)
 rintro e w1 ⟨⟨k,rfl,hk,HK⟩,H1,HP1⟩
 have z1:w.heap.size + 2 <= w1.heap.size:=by have:=(zA HP1).size; simpa using this
 have t0:w1.cell? ⟨w.heap.size,0,none⟩ = some (.slice (some ⟨gt,0,none⟩) ns.length ct):=((zA HP1).cell (b:=w.heap.size) (by simp; omega) (by omega) 0).trans (by simp [go_sem])
 have r0:w1.cell? ⟨w.heap.size + 1,0,none⟩ = some (.slice none 0 0):=((zA HP1).cell (b:=w.heap.size + 1) (by simp) (by omega) 0).trans (by simp [go_sem])
 have r1:w1.frozen? ⟨w.heap.size + 1,0,none⟩ = false:=((zA HP1).frozen (b:=w.heap.size + 1) (by simp) (by omega) 0).trans (by simp [go_sem])
 have HW:=zB ((zE.of_below (g:=rp) hb0).trans (zA HP1))
 have HO1:=zB ((zA HW).ops (zA HO) hgt hnr)
 obtain ⟨d,HD⟩:∃ d,Hid (d = 2 + k % 5):=⟨_,zB rfl⟩
 have hd:(2:Int) + (k:Int) % 5 = (d:Int):=by have:=zA HD; omega
 have hd6:d <= 6:=by have:=zA HD; omega
 have hyE:gen bs ns grp d (adv bs p) [] = y:=by rw [zA HD,zA HK]; exact zA HY
 have HRW:=zB (show Zk (w1.alloc (.cells #[] 81)) w1.heap.size w1.heap.size 0 [] by
  have:=World.ownsRow_lit (base:=w1.heap.size) (e:=81) (size:=4) w1 #[] 0 (Nat.le_refl _) (Nat.zero_le _) rfl
  simpa [Zk,zH] using this)
 have hp6:(2:Nat) ^ (d + 1) <= 128:=by have:=Nat.pow_le_pow_right (show 0 < 2 by decide) (show d + 1 <= 7 by omega); omega
 have hb1:=zC w1 (.cells #[] 81)
 have HC:=zB (zG0 rp cap gt ct a bs ns grp hl hns hnr hks d (adv bs p) w1.heap.size w1.heap.size 0 [] _ (by omega) (by simp; omega) ((zA H1).below hb1) (zA HRW) (by simp) (by omega) (by omega) ((zA HO1).below hb1 (by omega)))
 rw [hyE,List.length_nil] at HC
 have HB1:=zB hb1
 have hgt1:gt < w1.heap.size:=by omega
 clear H H1 HP1 hb0 HO hyE HRW HO1 hb1
 go_wp2_with fail
 (with_reducible refine (zA HC).mono ?_)
 rintro e w2 ⟨g',c',rfl,hr2,hg2,hd2,hk2⟩
 have z2:w1.heap.size + 1 <= w2.heap.size:=by have:=(zA hk2).size; simpa using this
 obtain ⟨hgB,hF⟩:=zA5 (zA hr2)
 have hcap:=(zKw (zA hr2)).1
 have kc:=fun (b:Nat) (hb:b < w1.heap.size) (h1:b ≠ rp) (o':Nat)=>((zA hk2).cell (b:=b) (by simp; omega) h1 (by omega) o').trans ((zA HB1).cell (p:=⟨b,o',none⟩) hb)
 have R0:=(kc (w.heap.size + 1) (by omega) (by omega) 0).trans r0
 have R1:w2.frozen? ⟨w.heap.size + 1,0,none⟩ = false:=(((zA hk2).frozen (b:=w.heap.size + 1) (by simp; omega) (by omega) (by omega) 0).trans ((zA HB1).frozen (p:=⟨w.heap.size + 1,0,none⟩) (by show w.heap.size + 1 < w1.heap.size; omega))).trans r1
 have HF:=zB hF
 have HKK:=zB (show zE w w2 rp from ⟨(zA hk2).os.trans ((zA HB1).os.trans (zA HW).os),(zA hk2).tape.trans ((zA HB1).tape.trans (zA HW).tape),(zA hk2).output.trans ((zA HB1).output.trans (zA HW).output),by omega,fun i hi h1=>((zA hk2).block i (by simp; omega) h1 (by omega)).trans (((zA HB1).block i (by omega)).trans ((zA HW).block i hi h1))⟩)
 clear hF kc HB1 HC hk2 HW
 go_wp2_with fail
 refine bodyPost_ret (v:=.agg #[.slice (some ⟨g',0,none⟩) y.2.length c']) ?res rfl ⟨⟨g',c',rfl,hcap,by omega,(zA HF).setCell _ _ _ (by omega)⟩,zB ((zA hd2).kept (fun i hi=>(Z1 _ _ _ _).block i (by omega) (by omega))),zB ((zA HKK).setRow (w.heap.size + 1) _ _ (Or.inr (by omega)))⟩
 case res=>simp [results,Tryz.results94,go_sem,R0]
end Go.Proofs.YtfboipappaonhaaGreat
namespace Go.Proofs.YtfboipappaonhaaGreat
set_option maxHeartbeats 16000000
set_option maxRecDepth 100000
open Go.RowKit
theorem zCo (s:ByteArray) (k l sd:Int) (w:World) (hs:s.size <= maxLen) :
  Calls Tryz.prog 101 #[.agg #[.string s,.int .i64 k,.int .i64 l,.int .i64 sd]] w fun e w'=>e = .returned (.bool (okB s k l sd)) /\ Below w.heap.size w w':=by
 cases ht:zDn s
 ·have hf:=zB (show okB s k l sd = false by simp [okB,ht])
  go_enter Tryz.func101,Tryz.ntmps101
  go_wp2_with (go_at_call 142; refine (zDD _ _ hs).mono ?_; rintro e w' ⟨rfl,rfl⟩)
  go_ret
  exact ⟨zf (zA hf).symm,zC _ _⟩
 ·have hf:=zB (show okB s k l sd = (decide (1 <= l) && decide (l <= 1000) && zE5 k sd) by simp [okB,ht])
  go_enter Tryz.func101,Tryz.ntmps101
  go_wp2_with (go_at_call 142; refine (zDD _ _ hs).mono ?_; rintro e w' ⟨rfl,rfl⟩)
  all_goals (go_ret; refine ⟨zf ?_,zC _ _⟩; rw [zA hf]; go_light; clear hf; (try simp only [beq_iff_eq,beq_eq_false_iff_ne,ne_eq] at *); rw [Bool.eq_iff_iff]; simp [zE5] <;> omega)
theorem zCp (s:ByteArray) (k l sd:Int) (w:World) :
  Calls Tryz.prog 157 #[.agg #[.string s,.int .i64 k,.int .i64 l,.int .i64 sd]] w fun e w'=>e = .returned (.bool (zE5 k sd)) /\ Below w.heap.size w w':=by
 go_enter Tryz.func157,Tryz.ntmps157
 go_wp2
 all_goals (go_ret; refine ⟨zf ?_,zC _ _⟩; go_light; (try simp only [beq_iff_eq,beq_eq_false_iff_ne,ne_eq] at *); rw [Bool.eq_iff_iff]; simp [zE5] <;> omega)
theorem zAO (s:ByteArray) (k l sd:Int) (w:World) (hs:s.size <= maxLen) :
  Calls Tryz.prog 122 #[.agg #[.string s,.int .i64 k,.int .i64 l,.int .i64 sd]] w fun e w'=>e = .returned (.bool (okB s k l sd)) /\ Below w.heap.size w w':=by
 cases ht:zDn s
 ·have hf:=zB (show okB s k l sd = false by simp [okB,ht])
  go_enter Tryz.func122,Tryz.ntmps122
  go_wp2_with (go_at_call 140; refine (Z7 _ _ hs).mono ?_; rintro e w' ⟨rfl,rfl⟩)
  go_ret
  exact ⟨zf (zA hf).symm,zC _ _⟩
 ·have hf:=zB (show okB s k l sd = (decide (1 <= l) && decide (l <= 1000) && zE5 k sd) by simp [okB,ht])
  by_cases h1:1 <= l
  ·by_cases h2:l <= 1000
   ·go_enter Tryz.func122,Tryz.ntmps122
    go_wp2_with (first | (go_at_call 140; refine (Z7 _ _ hs).mono ?_; rintro e w' ⟨rfl,rfl⟩) | (go_at_call 157; refine (zCp _ _ _ _ _).mono ?_; rintro e w' ⟨rfl,hb⟩))
    go_ret
    exact ⟨zf (by rw [zA hf]; simp [h1,h2]),(zC _ _).trans (hb.mono (by simp))⟩
   ·go_enter Tryz.func122,Tryz.ntmps122
    go_wp2_with (first | (go_at_call 140; refine (Z7 _ _ hs).mono ?_; rintro e w' ⟨rfl,rfl⟩) | (go_at_call 157; refine (zCp _ _ _ _ _).mono ?_; rintro e w' ⟨rfl,hb⟩))
    go_ret
    exact ⟨zf (by rw [zA hf]; simp; intros; omega),zC _ _⟩
  ·go_enter Tryz.func122,Tryz.ntmps122
   go_wp2_with (first | (go_at_call 140; refine (Z7 _ _ hs).mono ?_; rintro e w' ⟨rfl,rfl⟩) | (go_at_call 157; refine (zCp _ _ _ _ _).mono ?_; rintro e w' ⟨rfl,hb⟩))
   go_ret
   exact ⟨zf (by rw [zA hf]; simp; intros; omega),zC _ _⟩
theorem zKx (b off cap:Nat) (xs:List OpR) (w:World) (hn2:xs.length <= 1048576) (hw:Ops w b off xs) (hs:ZV xs) (hB:b < w.heap.size) :
  Calls Tryz.prog 74 #[.slice (some ⟨b,off,none⟩) xs.length cap] w fun e w'=>(∃ v,e = .returned (.bool v) /\ (v = true ↔ zBF xs xs.length)) /\ Below w.heap.size w w':=by
 go_enter Tryz.func74,Tryz.ntmps74
 go_wp2
 go_loopw [7] (fun i wr=>∃ k:Nat,k <= xs.length /\ i = .int .i64 k /\ zBF xs k /\ Below w.heap.size w wr) (fun i _=>xs.length - (intOf i).toNat)
 case atStart=>exact ⟨0,Nat.zero_le _,rfl,fun j h=>by omega,Below.refl _ _⟩
 case round=>
  obtain ⟨k,hk,rfl,hok,hbel⟩:=hrel
  by_cases hlt:k < xs.length
  ·obtain ⟨h0,h1,h2,h3⟩:=(hw k hlt).below hbel hB
   cases ht:(atO xs k).ok
   ·have Ht:=zB ht
    unfold OpR.ok at ht
    go_wp2_with (go_at_call 122; refine (zAO _ _ _ _ _ (hs k hlt)).mono ?_; rintro e w' ⟨rfl,hb⟩)
    go_ret
    refine ⟨⟨false,rfl,⟨fun h=>(by cases h),fun h=>?_⟩⟩,?_⟩
    ·have:=h k hlt; rw [zA Ht] at this; cases this
    ·exact hbel.trans (((zC _ _).trans (hb.mono (by simp))).mono hbel.size)
   ·have Ht:=zB ht
    unfold OpR.ok at ht
    go_wp2_with (go_at_call 122; refine (zAO _ _ _ _ _ (hs k hlt)).mono ?_; rintro e w' ⟨rfl,hb⟩)
    exact ⟨⟨k + 1,by omega,by go_num,zGw hok (zA Ht),hbel.trans (((zC _ _).trans (hb.mono (by simp))).mono hbel.size)⟩,by simp [intOf]; omega⟩
  ·have:k = xs.length:=by omega
   go_wp2
   go_ret
   exact ⟨⟨true,rfl,⟨fun _=>this ▸ hok,fun _=>rfl⟩⟩,hbel⟩
def srt (k sd:Int):Int:=if k = 1 then 2 else if k = 3 then 1 else sd
theorem Z9 (s:ByteArray) (k l sd:Int) (w:World) :
  Calls Tryz.prog 143 #[.agg #[.string s,.int .i64 k,.int .i64 l,.int .i64 sd]] w fun e w'=>e = .returned (.int .i64 (srt k sd)) /\ Below w.heap.size w w':=by
 by_cases h1:k = 1
 ·have h1':(k == 1) = true:=by simpa using h1
  have H:=zB h1
  clear h1
  go_enter Tryz.func143,Tryz.ntmps143
  go_wp2
  go_ret
  exact ⟨zF (by simp [srt,zA H]),zC _ _⟩
 ·by_cases h3:k = 3
  ·have h1':(k == 1) = false:=by simpa using h1
   have h3':(k == 3) = true:=by simpa using h3
   have H:=zB h3
   clear h3 h1
   go_enter Tryz.func143,Tryz.ntmps143
   go_wp2
   go_ret
   exact ⟨zF (by simp [srt,zA H]),zC _ _⟩
  ·have h1':(k == 1) = false:=by simpa using h1
   have h3':(k == 3) = false:=by simpa using h3
   go_enter Tryz.func143,Tryz.ntmps143
   go_wp2
   go_ret
   exact ⟨zF (by simp [srt,h1,h3]),zC _ _⟩
theorem zOL {s:ByteArray} {k l sd:Int} (h:okB s k l sd = true) :
  (k = 3 \/ sd = 1 -> srt k sd = 1) /\ (¬ (k = 3 \/ sd = 1) -> (k = 1 \/ sd = 2) -> srt k sd = 2) /\ (¬ (k = 3 \/ sd = 1) -> ¬ (k = 1 \/ sd = 2) -> srt k sd = 3):=by
 obtain ⟨_,h⟩:=zA2 s k l sd h
 unfold srt
 rcases h with ⟨rfl,rfl⟩ | ⟨rfl,rfl⟩ | ⟨rfl,rfl⟩ | ⟨rfl,rfl⟩ | ⟨rfl,rfl⟩ <;> decide
theorem zFq (s:ByteArray) (k l sd:Int) (w:World) (ho:okB s k l sd = true) :
  Calls Tryz.prog 124 #[.agg #[.string s,.int .i64 k,.int .i64 l,.int .i64 sd]] w fun e w'=>e = .returned (.int .i64 (srt k sd)) /\ Below w.heap.size w w':=by
 have ho':=zB (zOL ho)
 clear ho
 go_enter Tryz.func124,Tryz.ntmps124
 go_wp2
 all_goals (go_ret; refine ⟨zF ?_,zC _ _⟩; obtain ⟨p1,p2,p3⟩:=zA ho'; go_light; (try simp only [beq_iff_eq,beq_eq_false_iff_ne,ne_eq] at *); first | (rw [p1 (by omega)]) | (rw [p2 (by omega) (by omega)]) | (rw [p3 (by omega) (by omega)]))
theorem zHd (s t:ByteArray) (k l sd k' l' sd':Int) (w:World) :
  Calls Tryz.prog 102 #[.agg #[.string s,.int .i64 k,.int .i64 l,.int .i64 sd],.agg #[.string t,.int .i64 k',.int .i64 l',.int .i64 sd'],.int .i64 3] w fun e w'=>(∃ v,e = .returned (.bool v) /\ (v = true ↔ (s = t /\ (k = 1 ↔ k' = 1)))) /\ Below w.heap.size w w':=by
 go_enter Tryz.func102,Tryz.ntmps102
 go_wp2
 ·go_ret
  refine ⟨⟨_,rfl,?_⟩,(zC _ _).alloc (by simp) _⟩
  go_light
  have e:=zAK ‹_›
  rw [beq_iff_eq,Bool.eq_iff_iff]
  simp [e]
 ·go_ret
  refine ⟨⟨_,rfl,?_⟩,(zC _ _).alloc (by simp) _⟩
  go_light
  have e:s ≠ t:=fun e=>(‹¬ s.toList = t.toList›) (by rw [e])
  simp [e]
theorem zKy {w W w1:World} (hb:Below W.heap.size W w1) (h:w.heap.size + 1 < W.heap.size) (hB:Below w.heap.size w W) :
  (∀ o,w1.cell? ⟨w.heap.size,o,none⟩ = W.cell? ⟨w.heap.size,o,none⟩) /\ (∀ o,w1.cell? ⟨w.heap.size + 1,o,none⟩ = W.cell? ⟨w.heap.size + 1,o,none⟩) /\ w.heap.size + 1 < w1.heap.size /\ Below w.heap.size w w1:=
 ⟨fun _=>hb.cell (p:=⟨_,_,none⟩) (show w.heap.size < _ by omega),fun _=>hb.cell (p:=⟨_,_,none⟩) h,Nat.lt_of_lt_of_le h hb.size,hB.trans (hb.mono (by omega))⟩
theorem zHe (s t:ByteArray) (k l sd k' l' sd':Int) (w:World) :
  Calls Tryz.prog 102 #[.agg #[.string s,.int .i64 k,.int .i64 l,.int .i64 sd],.agg #[.string t,.int .i64 k',.int .i64 l',.int .i64 sd'],.int .i64 4] w fun e w'=>(∃ v,e = .returned (.bool v) /\ (v = true ↔ (l = l' /\ srt k sd ≠ srt k' sd'))) /\ Below w.heap.size w w':=by
 by_cases hl:l = l'
 ·have hl':(l == l') = true:=by simpa using hl
  have H:=zB hl
  clear hl
  go_enter Tryz.func102,Tryz.ntmps102
  go_wp2_with fail
  go_region_held (fun w'=>(w'.cell? ⟨w.heap.size,0,none⟩ = some (.string s) /\ w'.cell? ⟨w.heap.size,1,none⟩ = some (.int .i64 k) /\ w'.cell? ⟨w.heap.size,2,none⟩ = some (.int .i64 l) /\ w'.cell? ⟨w.heap.size,3,none⟩ = some (.int .i64 sd)) /\
   (w'.cell? ⟨w.heap.size + 1,0,none⟩ = some (.string t) /\ w'.cell? ⟨w.heap.size + 1,1,none⟩ = some (.int .i64 k') /\ w'.cell? ⟨w.heap.size + 1,2,none⟩ = some (.int .i64 l') /\ w'.cell? ⟨w.heap.size + 1,3,none⟩ = some (.int .i64 sd'))) (go_keep)
   (first | (go_at_call 143; refine (Z9 _ _ _ _ _).mono ?_; rintro e w1 ⟨rfl,hb1⟩; obtain ⟨t0,t1,z1,hB⟩:=zKy (w:=w) hb1 (by first | assumption | (simp [heap_drew]; done)) (by first | assumption | exact ((zC _ _).alloc (by simp) _).drew)))
  go_wp2
  go_ret
  refine ⟨⟨_,rfl,?_⟩,hB⟩
  have e:=zA H
  simp [e]
 ·have hl':(l == l') = false:=by simpa using hl
  go_enter Tryz.func102,Tryz.ntmps102
  go_wp2_with fail
  go_quiet (fail)
  go_wp2
  go_ret
  refine ⟨⟨_,rfl,?_⟩,below_drewN ((zC _ _).alloc (by simp) _) _⟩
  simp [hl]
def cl (c:Int) (a b:OpR):Prop:=if c = 3 then (a.s = b.s /\ (a.k = 1 ↔ b.k = 1)) else (a.l = b.l /\ srt a.k a.sd ≠ srt b.k b.sd)
theorem zIj (a b:OpR) (c:Int) (w:World) (hc:c = 3 \/ c = 4) :
  Calls Tryz.prog 102 #[.agg #[.string a.s,.int .i64 a.k,.int .i64 a.l,.int .i64 a.sd],.agg #[.string b.s,.int .i64 b.k,.int .i64 b.l,.int .i64 b.sd],.int .i64 c] w fun e w'=>(∃ v,e = .returned (.bool v) /\ (v = true ↔ cl c a b)) /\ Below w.heap.size w w':=by
 rcases hc with rfl | rfl
 ·exact zHd _ _ _ _ _ _ _ _ _
 ·exact zHe _ _ _ _ _ _ _ _ _
def Pr (c:Int) (xs:List OpR):Prop:=∃ i j,j < i /\ i < xs.length /\ cl c (atO xs i) (atO xs j)
def zFr (c:Int) (xs:List OpR) (k:Nat):Prop:=∀ i j,j < i -> i < k -> ¬ cl c (atO xs i) (atO xs j)
theorem zEk {c:Int} {xs:List OpR} {k:Nat} (h:zFr c xs k) (hk:∀ j,j < k -> ¬ cl c (atO xs k) (atO xs j)):zFr c xs (k + 1):=by
 intro i j hj hi
 by_cases e:i = k
 ·subst e; exact hk j hj
 ·exact h i j hj (by omega)
theorem zFs {c:Int} {xs:List OpR} (h:zFr c xs xs.length):¬ Pr c xs:=fun ⟨i,j,hj,hi,hc⟩=>h i j hj hi hc
def zM (xs:List OpR) (c:Int):Prop:=
 (c = 1 /\ 500 < xs.length) \/ (xs.length <= 500 /\ ((c = 2 /\ ¬ zBF xs xs.length) \/ (zBF xs xs.length /\ ((c = 3 /\ Pr 3 xs) \/ (¬ Pr 3 xs /\ ((c = 4 /\ Pr 4 xs) \/ (c = 0 /\ ¬ Pr 4 xs)))))))
theorem zAk {xs:List OpR} {c c':Int} (h:zM xs c) (h':zM xs c'):c = c':=by
 unfold zM at h h'
 by_cases a:500 < xs.length
 ·have a':¬ xs.length <= 500:=by omega
  simp only [a,a',and_true,false_and,or_false] at h h'
  omega
 ·have a':xs.length <= 500:=by omega
  by_cases b:zBF xs xs.length
  ·by_cases p3:Pr 3 xs
   ·simp only [a,a',b,p3,and_true,and_false,true_and,false_and,or_false,false_or,not_true] at h h'
    omega
   ·by_cases p4:Pr 4 xs
    ·simp only [a,a',b,p3,p4,and_true,and_false,true_and,or_false,false_or,not_true,not_false_iff] at h h'
     omega
    ·simp only [a,a',b,p3,p4,and_true,and_false,true_and,false_or,not_true,not_false_iff] at h h'
     omega
  ·simp only [a,a',b,and_true,and_false,true_and,false_and,or_false,false_or,not_false_iff] at h h'
   omega
structure Bx (w:World) (b off cap:Nat) (xs:List OpR) (wr:World):Prop where
 box:wr.cell? ⟨w.heap.size,0,none⟩ = some (.slice (some ⟨b,off,none⟩) xs.length cap)
 ops:Ops wr b off xs
 lt:w.heap.size < wr.heap.size
 blt:b < wr.heap.size
 bel:Below w.heap.size w wr
theorem Bx.step {w:World} {b off cap:Nat} {xs:List OpR} {wr w':World} (h:Bx w b off cap xs wr) (hb:Below wr.heap.size wr w'):Bx w b off cap xs w':=
 ⟨(hb.cell (p:=⟨_,_,none⟩) h.lt).trans h.box,h.ops.below hb h.blt,Nat.lt_of_lt_of_le h.lt hb.size,Nat.lt_of_lt_of_le h.blt hb.size,h.bel.trans (hb.mono (Nat.le_of_lt h.lt))⟩
theorem Bx.drew {w:World} {b off cap:Nat} {xs:List OpR} {wr:World} (h:Bx w b off cap xs wr):Bx w b off cap xs wr.drew:=
 h.step (Below.refl _ _).drew
theorem Bx.start {w:World} {b off cap:Nat} {xs:List OpR} (h:Ops w b off xs) (hB:b < w.heap.size) (t:TypeId):Bx w b off cap xs (w.alloc (.cells #[.slice (some ⟨b,off,none⟩) xs.length cap] t)):=
 ⟨by simp [go_sem],h.below (zC _ _) hB,by simp,by simp; omega,zC _ _⟩
theorem Zo (b off cap:Nat) (xs:List OpR) (w:World) (hm:xs.length <= 1048576) (hw:Ops w b off xs) (hs:ZV xs) (hB:b < w.heap.size) :
  Calls Tryz.prog 53 #[.agg #[.slice (some ⟨b,off,none⟩) xs.length cap]] w fun e w'=>(∃ c,e = .returned (.int .i64 c) /\ zM xs c) /\ Below w.heap.size w w':=by
 have hx0:=zB (Bx.start (cap:=cap) hw hB 25)
 by_cases h500:500 < xs.length
 ·go_enter Tryz.func53,Tryz.ntmps53
  go_wp2
  go_ret
  exact ⟨⟨1,rfl,Or.inl ⟨rfl,h500⟩⟩,zC _ _⟩
 have h500':xs.length <= 500:=by omega
 go_enter Tryz.func53,Tryz.ntmps53
 go_wp2
 go_loopw [4] (fun i wr=>∃ k:Nat,k <= xs.length /\ i = .int .i64 k /\ zBF xs k /\ Bx w b off cap xs wr) (fun i _=>xs.length - (intOf i).toNat)
 case atStart=>exact ⟨0,Nat.zero_le _,rfl,fun j h=>(by omega),zA hx0⟩
 case round=>
  obtain ⟨k,hk,rfl,hok,hx⟩:=hrel
  by_cases hlt:k < xs.length
  ·obtain ⟨a0,a1,a2,a3⟩:=hx.ops k hlt
   have hbx:=hx.box
   cases ht:(atO xs k).ok
   ·have Ht:=zB ht
    unfold OpR.ok at ht
    go_wp2_with (go_at_call 101; refine (zCo _ _ _ _ _ (hs k hlt)).mono ?_; rintro e w1 ⟨rfl,hb1⟩)
    go_ret
    refine ⟨⟨2,rfl,Or.inr ⟨h500',Or.inl ⟨rfl,fun h=>?_⟩⟩⟩,(hx.step hb1).bel⟩
    have:=h k hlt
    rw [zA Ht] at this
    cases this
   ·have Ht:=zB ht
    unfold OpR.ok at ht
    go_wp2_with (go_at_call 101; refine (zCo _ _ _ _ _ (hs k hlt)).mono ?_; rintro e w1 ⟨rfl,hb1⟩)
    exact ⟨⟨k + 1,by omega,by go_num,zGw hok (zA Ht),hx.step hb1⟩,by simp [intOf]; omega⟩
  ·have hall:zBF xs xs.length:=by
    have:k = xs.length:=by omega
    exact this ▸ hok
   clear hok hx0
   go_wp2
   go_loopw [5] (fun c wr=>∃ cc:Int,c = .int .i64 cc /\ 3 <= cc /\ cc <= 5 /\ Hid ((3 < cc -> ¬ Pr 3 xs) /\ (4 < cc -> ¬ Pr 4 xs)) /\ Bx w b off cap xs wr) (fun c _=>(5 - intOf c).toNat)
   case atStart=>exact ⟨3,rfl,by omega,by omega,zB ⟨fun h=>(by omega),fun h=>(by omega)⟩,hx⟩
   case round=>
    clear hx
    obtain ⟨cc,rfl,hc3,hc5,hno,hx⟩:=hrel
    by_cases hc4:cc <= 4
    ·have hcc:=zB (show cc = 3 \/ cc = 4 by omega)
     go_wp2
     go_loopw [6] (fun i wr=>∃ k:Nat,k <= xs.length /\ i = .int .i64 k /\ Hid (zFr cc xs k) /\ Bx w b off cap xs wr) (fun i _=>xs.length - (intOf i).toNat)
     case atStart=>exact ⟨0,Nat.zero_le _,rfl,zB (fun i j _ h=>(by omega)),hx⟩
     case round=>
      clear hx
      obtain ⟨p,hp,rfl,hnp,hx⟩:=hrel
      by_cases hlp:p < xs.length
      ·go_wp2
       go_loopw [7] (fun j wr=>∃ m:Nat,m <= p /\ j = .int .i64 m /\ Hid (∀ j,j < m -> ¬ cl cc (atO xs p) (atO xs j)) /\ Bx w b off cap xs wr) (fun j _=>p - (intOf j).toNat)
       case atStart=>exact ⟨0,Nat.zero_le _,rfl,zB (fun j h=>(by omega)),hx⟩
       case round=>
        clear hx
        obtain ⟨m,hmp,rfl,hnm,hx⟩:=hrel
        by_cases hlm:m < p
        ·have hlmx:m < xs.length:=by omega
         obtain ⟨a0,a1,a2,a3⟩:=hx.ops p hlp
         obtain ⟨d0,d1,d2,d3⟩:=hx.ops m hlmx
         have hbx:=hx.box
         have hlt:=hx.lt
         have i1:(p:Int) < (xs.length:Int):=by omega
         have i2:(m:Int) < (xs.length:Int):=by omega
         go_wp2_with fail
         go_region_held (fun w'=>w'.cell? ⟨w.heap.size,0,none⟩ = some (.slice (some ⟨b,off,none⟩) xs.length cap) /\
          (w'.cell? ⟨b,off + p * 4,none⟩ = some (.string (atO xs p).s) /\ w'.cell? ⟨b,off + p * 4 + 1,none⟩ = some (.int .i64 (atO xs p).k) /\ w'.cell? ⟨b,off + p * 4 + 2,none⟩ = some (.int .i64 (atO xs p).l) /\ w'.cell? ⟨b,off + p * 4 + 3,none⟩ = some (.int .i64 (atO xs p).sd)) /\
          (w'.cell? ⟨b,off + m * 4,none⟩ = some (.string (atO xs m).s) /\ w'.cell? ⟨b,off + m * 4 + 1,none⟩ = some (.int .i64 (atO xs m).k) /\ w'.cell? ⟨b,off + m * 4 + 2,none⟩ = some (.int .i64 (atO xs m).l) /\ w'.cell? ⟨b,off + m * 4 + 3,none⟩ = some (.int .i64 (atO xs m).sd))) (go_keep)
          (first | (go_at_call 102; refine (zIj (atO xs p) (atO xs m) cc _ (zA hcc)).mono ?_; rintro e w1 ⟨⟨v,rfl,hv⟩,hb1⟩; have HV:=zB hv; clear hv; have hx1:=hx.drew.step hb1; obtain ⟨q0,q1,q2,q3⟩:=hx1.ops p hlp; obtain ⟨r0,r1,r2,r3⟩:=hx1.ops m hlmx; have qb:=hx1.box))
         cases v
         ·go_wp2
          refine ⟨⟨m + 1,by omega,by go_num,zB ?_,hx1⟩,by simp [intOf]; omega⟩
          intro j hj
          by_cases e:j = m
          ·subst e
           exact fun h=>Bool.false_ne_true ((zA HV).2 h)
          ·exact (zA hnm) j (by omega)
         ·go_wp2
          go_ret
          refine ⟨⟨cc,rfl,Or.inr ⟨h500',Or.inr ⟨hall,?_⟩⟩⟩,hx1.bel⟩
          have hpr:Pr cc xs:=⟨p,m,hlm,hlp,(zA HV).1 (by trivial)⟩
          rcases zA hcc with e | e
          ·subst e; exact Or.inl ⟨rfl,hpr⟩
          ·subst e; exact Or.inr ⟨(zA hno).1 (by omega),Or.inl ⟨rfl,hpr⟩⟩
        ·go_wp2
         refine ⟨⟨p + 1,by omega,by go_num,zB (zEk (zA hnp) (fun j hj=>(zA hnm) j (by omega))),hx⟩,by simp [intOf]; omega⟩
      ·go_wp2
       refine ⟨⟨cc + 1,by go_num,by omega,by omega,zB ?_,hx⟩,by simp [intOf]; omega⟩
       have hn:¬ Pr cc xs:=zFs (by
        have e:p = xs.length:=by omega
        exact e ▸ (zA hnp))
       rcases zA hcc with e | e
       ·subst e; exact ⟨fun _=>hn,fun h=>(by omega)⟩
       ·subst e; exact ⟨fun _=>(zA hno).1 (by omega),fun _=>hn⟩
    ·go_wp2
     go_ret
     exact ⟨⟨0,rfl,Or.inr ⟨h500',Or.inr ⟨hall,Or.inr ⟨(zA hno).1 (by omega),Or.inr ⟨rfl,(zA hno).2 (by omega)⟩⟩⟩⟩⟩,hx.bel⟩
end Go.Proofs.YtfboipappaonhaaGreat
