import Derived.Deep.AppendLies
import Derived.Deep.RegionHeldLaw
import Derived.Test.YtgiemobdmbijiaaGreatDoorN00
import Derived.Test.YtgiemobdmbijiaaGreatDoorN02
import Derived.Test.YtgiemobdmbijiaaGreatDoorN05
import Derived.Test.YtgiemobdmbijiaaGreatDoorN06
import Derived.Test.YtgiemobdmbijiaaGreatDoorN07
namespace Go.Proofs.YtgiemobdmbijiaaGreatDoor
set_option linter.unusedSimpArgs false
set_option linter.unusedVariables false
set_option maxHeartbeats 16000000
set_option maxRecDepth 100000
open Go.RowKit
def zDv (bs:List UInt8) (p0:Nat):Nat -> List OpR -> Nat -> Prop
 | 0,xs,p=>xs = [] /\ p = p0
 | k + 1,xs,p=>∃ ys q,zDv bs p0 k ys q /\ p = adv bs (adv bs q) /\
   ((zZ (ys ++ [zAa (nxt bs q) (nxt bs (adv bs q)) true]) 0 /\ xs = ys ++ [zAa (nxt bs q) (nxt bs (adv bs q)) true]) \/
    (¬ zZ (ys ++ [zAa (nxt bs q) (nxt bs (adv bs q)) true]) 0 /\ xs = ys))
theorem zF.grownAt {w w1 w2:World} {g:Nat} {row:Option Nat} (h:zF w w1 g) (hg:w1.grownBy w2 row) (hr:∀ k,row = some k -> w.heap.size <= k):zF w w2 g:=
 ⟨hg.os.trans h.os,hg.tape.trans h.tape,hg.output.trans h.output,Nat.le_trans h.size hg.size,fun i hi a=>(hg.block i (Nat.lt_of_lt_of_le hi h.size) (fun e=>by have:=hr i e.symm; omega)).trans (h.block i hi a)⟩
theorem RdS.grownAt {w w1:World} {rp cap p:Nat} {a:Option Addr} {bs:List UInt8} {row:Option Nat} (h:RdS w rp a cap bs p) (hg:w.grownBy w1 row) (hr:∀ k,row = some k -> rp < k):RdS w1 rp a cap bs p:=
 h.kept (fun i hi=>hg.block i (by have:=h.lt; omega) (fun e=>by have:=hr i e.symm; omega))
theorem zGx (k v:Nat) (t:Bool):(zAa k v t).s.size <= 3:=zFh v
theorem zDv.small {bs:List UInt8} {p0:Nat}:∀ {k:Nat} {xs:List OpR} {p:Nat},zDv bs p0 k xs p -> xs.length <= k /\ ∀ o ∈ xs,o.s.size <= 3
 | 0,_,_,h=>by rw [h.1]; exact ⟨Nat.le_refl _,fun o h=>by cases h⟩
 | k + 1,xs,p,h=>by
  obtain ⟨us,u,hu,rfl,h⟩:=h
  have ih:=zDv.small hu
  rcases h with ⟨h,rfl⟩ | ⟨h,rfl⟩
  ·refine ⟨by simp; omega,fun o ho=>?_⟩
   rcases List.mem_append.1 ho with ho | ho
   ·exact ih.2 o ho
   ·rw [List.mem_singleton.1 ho]; exact zGx _ _ _
  ·exact ⟨by omega,ih.2⟩
theorem zE9 (rp cap p:Nat) (a:Option Addr) (bs:List UInt8) (w:World) (h:RdS w rp a cap bs p) (hl:bs.length <= 1200) :
  Calls Tryz.prog 29 #[.pointer (some ⟨rp,0,none⟩)] w fun e w'=>(∃ (g c q:Nat) (xs:List OpR),e = .returned (.agg #[.slice (some ⟨g,0,none⟩) xs.length c]) /\ w.heap.size <= g /\ Z1 w' g xs xs.length /\ Hid (zDv bs (adv bs p) (3 + nxt bs p % 8) xs q) /\ Hid (RdS w' rp a cap bs q)) /\ Hid (zF w w' rp):=by
 have hrpw:=h.lt
 have H:=zB h
 clear h
 go_enter Tryz.func29,Tryz.ntmps29
 go_wp2_with fail
 refine (Z4 rp cap p a bs _ ((zA H).below (zC _ _)) hl).mono ?_
 rintro e w1 ⟨⟨k,rfl,hk,HK⟩,H1,HP1⟩
 go_wp2_with fail
 have HR1:=zB (show RdS ((w1.alloc (Obj.cells #[] 46)).alloc (Obj.cells #[.slice (some ⟨w1.heap.size,0,none⟩) 0 0] 55)) rp a cap bs (adv bs p) from ((zA H1).below (zC _ _)).below (zC _ _))
 have HW1:=zB (show zF w ((w1.alloc (Obj.cells #[] 46)).alloc (Obj.cells #[.slice (some ⟨w1.heap.size,0,none⟩) 0 0] 55)) rp from (((zF.of_below (zC _ _)).trans (zA HP1)).belowN (zC _ _)).belowN (zC _ _))
 have z1:w.heap.size + 1 <= w1.heap.size:=by have:=(zA HP1).size; simpa using this
 have q0:w1.cell? ⟨w.heap.size,0,none⟩ = some (.slice none 0 0):=((zA HP1).cell (b:=w.heap.size) (by simp) (by omega) 0).trans (by simp [go_sem])
 have q1:w1.frozen? ⟨w.heap.size,0,none⟩ = false:=((zA HP1).frozen (b:=w.heap.size) (by simp) (by omega) 0).trans (by simp [go_sem])
 clear H1 HP1 H
 obtain ⟨i0,hi,hz0,hz1,hz2⟩:=info_parts zC5
 have HI:=zB hi
 have HZ:=zB (And.intro hz0 (And.intro hz1 hz2))
 clear hi hz0 hz1 hz2
 have hn:(3:Int) + (k:Int) % 8 <= 10:=by omega
 go_loopw [5] (fun i wr=>∃ (j g c q:Nat) (xs:List OpR),j <= 3 + k % 8 /\ i = .int .i64 (j:Int) /\ w.heap.size < g /\ g ≠ w1.heap.size + 1 /\ g < wr.heap.size /\ w1.heap.size + 1 < wr.heap.size /\ wr.cell? ⟨w1.heap.size + 1,0,none⟩ = some (.slice (some ⟨g,0,none⟩) xs.length c) /\ wr.frozen? ⟨w1.heap.size + 1,0,none⟩ = false /\ Hid (zDv bs (adv bs p) j xs q) /\ Hid (Z1 wr g xs xs.length) /\ Hid (RdS wr rp a cap bs q) /\ Hid (zF w wr rp) /\ Hid (wr.cell? ⟨w.heap.size,0,none⟩ = some (.slice none 0 0) /\ wr.frozen? ⟨w.heap.size,0,none⟩ = false)) (fun i _=>3 + k % 8 - (intOf i).toNat)
 case atStart=>
  refine ⟨0,w1.heap.size,0,adv bs p,[],Nat.zero_le _,rfl,by omega,by omega,by simp; omega,by simp,by simp [go_sem],by simp [go_sem],zB ⟨rfl,rfl⟩,zB ?_,HR1,HW1,zB ⟨?_,?_⟩⟩
  ·refine ⟨by simp; omega,fun j hj=>?_,fun i hi=>?_⟩
   ·simp at hj
   ·exact absurd hi (Nat.not_lt_zero _)
  ·exact ((zC _ _).cell (p:=⟨w.heap.size,0,none⟩) (by simp; omega)).trans (((zC _ _).cell (p:=⟨w.heap.size,0,none⟩) z1).trans q0)
  ·exact ((zC _ _).frozen (p:=⟨w.heap.size,0,none⟩) (by simp; omega)).trans (((zC _ _).frozen (p:=⟨w.heap.size,0,none⟩) z1).trans q1)
 case round=>
  clear HR1 HW1 q0 q1
  obtain ⟨j,g,c,q,xs,hj,rfl,hg,hgT,hgl,hTl,t0,t1,HT,HF,HR,HW,HRT⟩:=hrel
  have hsm:=zB ((zA HT).small)
  have hxl:xs.length <= 10:=by have:=(zA hsm).1; omega
  by_cases hlt:j < 3 + k % 8
  ·have HO:=zB (show (wr.alloc (.cells #[] 46)).ownsRow wr.heap.size 46 4 (.slice (some ⟨wr.heap.size,0,none⟩) 0 0) 0 [] by
    simpa using World.ownsRow_lit (base:=wr.heap.size) (e:=46) (size:=4) wr #[] 0 (Nat.le_refl _) (Nat.zero_le _) rfl)
   have HOPS:=zB (show Ops (wr.alloc (.cells #[] 46)) g 0 xs from (zA HF).ops.below (zC _ _) hgl)
   go_wp2_with (at_builtin; refine wpList_append_own _ rfl (.tmp 18) (.tmp 20) 25 rfl wr.heap.size 46 i0 _ 4 40 Tryz.underlying25 (zA HI) (zA HZ).1 (zA HZ).2.1 (zA HZ).2.2 rfl (by decide) _ 0 [] rfl (zA HO) ⟨g,0,none⟩ xs.length c (zX xs) rfl (zBc xs) (zIb (zA HOPS)) (ZZ xs) ?b1 ?b2 ?b3 ?next)
   case b1=>unfold maxLen; omega
   case b2=>omega
   case b3=>simp
   case next=>
    intro v2 w2 hown2 hgrow2 hnil2
    obtain ⟨g2,c2,rfl⟩:=zA7 hown2 (by simpa using hnil2)
    have hrpr:=(zA HR).lt
    have hg2:=(hown2.lt g2 rfl).1
    have hb2:Below wr.heap.size wr w2:=(zC _ _).grown hgrow2 (by simp) (fun k hk=>by simp [Value.ownBlock] at hk; omega)
    have HR2:=zB ((zA HR).below hb2)
    have HW2:=zB (zF.of_below (g:=rp) hb2)
    have HO2:=zB hown2
    clear HO HOPS hown2 hgrow2 hnil2 hb2 HR
    go_wp2_with fail
    refine (zDu rp cap q true a bs _ (zA HR2) hl).mono ?_
    rintro e w3 ⟨⟨o,rfl,HOo⟩,HR3,HP3⟩
    have HW3:=zB ((zA HW2).trans (zA HP3))
    have z3:wr.heap.size <= w3.heap.size:=(zA HW3).size
    have HO3:=zB ((zA HO2).kept (ZE (zA HP3)) (Or.inr (by simp [Value.ownBlock]; omega)))
    clear HR2 HW2 HO2 HP3
    go_wp2_with (at_builtin; refine wpList_append_own _ rfl (.tmp 22) (.tmp 25) 25 rfl wr.heap.size 46 i0 _ 4 40 Tryz.underlying25 (zA HI) (zA HZ).1 (zA HZ).2.1 (zA HZ).2.2 rfl (by decide) _ xs.length (zX xs) rfl ((zA HO3).alloc _) ⟨w3.heap.size,0,none⟩ 1 1 (zX [o]) rfl rfl (zBK w3 o) (ZZ _) ?b1 ?b2 ?b3 ?next)
    case b1=>unfold maxLen; omega
    case b2=>omega
    case b3=>simp; omega
    case next=>
     intro v4 w4 hown4 hgrow4 hnil4
     obtain ⟨g4,c4,rfl⟩:=zA7 hown4 (by simp [hnil4])
     obtain ⟨ys,HY⟩:∃ ys:List OpR,Hid (ys = xs ++ [o]):=⟨_,zB rfl⟩
     have hl4:xs.length + 1 = ys.length:=by rw [zA HY]; simp
     rw [<- ZY,hl4,<- zA HY] at hown4
     rw [hl4]
     have hg4:=(hown4.lt g4 rfl)
     have HF4:=zB (zBJ hown4).2
     have HW4:=zB (((zA HW3).belowN (zC _ _)).grownAt hgrow4 (fun k hk=>by simp [Value.ownBlock] at hk; omega))
     have HR4:=zB (((zA HR3).below (zC _ _)).grownAt hgrow4 (fun k hk=>by simp [Value.ownBlock] at hk; omega))
     have HS4:=zB (show Zs ys from fun i hi=>by
      rw [zA HY] at hi ⊢
      have hm:atO (xs ++ [o]) i ∈ xs ++ [o]:=by
       unfold atO
       rw [List.getD_eq_getElem?_getD,List.getElem?_eq_getElem hi,Option.getD_some]
       exact List.getElem_mem hi
      have h3:(atO (xs ++ [o]) i).s.size <= 3:=by
       rcases List.mem_append.1 hm with hm | hm
       ·exact (zA hsm).2 _ hm
       ·rw [List.mem_singleton.1 hm,zA HOo]; exact zGx _ _ _
      unfold maxLen; omega)
     have hx1:ys.length <= 11:=by omega
     clear hown4 hgrow4 hnil4 HW3 HR3 HO3 hl4
     go_wp2_with fail
     refine (ZU g4 0 c4 ys _ (by omega) (zA HF4).ops (zA HS4) hg4.2).mono ?_
     rintro e w5 ⟨⟨cc,rfl,hc⟩,hb5⟩
     have HC:=zB hc
     have z5:=hb5.size
     have z4:=(zA HW4).size
     have s0:w5.cell? ⟨w1.heap.size + 1,0,none⟩ = some (.slice (some ⟨g,0,none⟩) xs.length c):=(hb5.cell (p:=⟨w1.heap.size + 1,0,none⟩) (by simp; omega)).trans (((zA HW4).cell (b:=w1.heap.size + 1) (by omega) (by omega) 0).trans t0)
     have s1:w5.frozen? ⟨w1.heap.size + 1,0,none⟩ = false:=(hb5.frozen (p:=⟨w1.heap.size + 1,0,none⟩) (by simp; omega)).trans (((zA HW4).frozen (b:=w1.heap.size + 1) (by omega) (by omega) 0).trans t1)
     have HRT5:=zB (show w5.cell? ⟨w.heap.size,0,none⟩ = some (.slice none 0 0) /\ w5.frozen? ⟨w.heap.size,0,none⟩ = false from
      ⟨(hb5.cell (p:=⟨w.heap.size,0,none⟩) (by simp; omega)).trans (((zA HW4).cell (b:=w.heap.size) (by omega) (by omega) 0).trans (zA HRT).1),(hb5.frozen (p:=⟨w.heap.size,0,none⟩) (by simp; omega)).trans (((zA HW4).frozen (b:=w.heap.size) (by omega) (by omega) 0).trans (zA HRT).2)⟩)
     have HR5:=zB ((zA HR4).below hb5)
     have HW5:=zB (((zA HW).trans (zA HW4)).belowN hb5)
     have HG5:=zB ((zA HW4).filled (zA HF) (by omega) |>.below hb5 (by omega))
     have HF5:=zB ((zA HF4).below hb5 hg4.2)
     clear HR4 HW4 HF4 hb5 hc t0 t1 HRT HW HF
     by_cases hc0:cc = 0
     ·subst hc0
      go_wp2_with fail
      refine ⟨⟨j + 1,g4,c4,adv bs (adv bs q),ys,by omega,by go_num,by omega,by omega,?_,?_,?_,?_,zB ?_,zB ?_,zB ?_,zB ?_,zB ?_⟩,by simp [intOf]; omega⟩
      ·simp; omega
      ·simp; omega
      ·exact World.cell?_setCell_same _ _ _ s0
      ·exact (World.frozen?_setCell _ _ _ _).trans s1
      ·exact ⟨xs,q,zA HT,rfl,Or.inl ⟨by rw [<- zA HOo,<- zA HY]; exact zA HC,by rw [<- zA HOo]; exact zA HY⟩⟩
      ·exact (zA HF5).setCell _ _ (by simp; omega)
      ·exact (zA HR5).set _ _ _ (by omega)
      ·exact (zA HW5).setNew _ _ (by omega)
      ·exact ⟨(World.cell?_setCell_other _ _ _ _ (by first | (simp; done) | (simp; omega))).trans (zA HRT5).1,(World.frozen?_setCell _ _ _ _).trans (zA HRT5).2⟩
     ·have hc0':(cc == 0) = false:=by simpa using hc0
      go_wp2_with fail
      refine ⟨⟨j + 1,g,c,adv bs (adv bs q),xs,by omega,by go_num,hg,hgT,by omega,by omega,s0,s1,zB ?_,HG5,HR5,HW5,HRT5⟩,by simp [intOf]; omega⟩
      refine ⟨xs,q,zA HT,rfl,Or.inr ⟨?_,rfl⟩⟩
      rw [<- zA HOo,<- zA HY]
      exact fun h=>hc0 (zA6 (zA HC) h)
  ·have hjn:j = 3 + k % 8:=by omega
   obtain ⟨b0,b1⟩:=zA HRT
   go_wp2_with fail
   refine bodyPost_ret (v:=.agg #[.slice (some ⟨g,0,none⟩) xs.length c]) ?res rfl ⟨⟨g,c,q,xs,rfl,by omega,?_,zB ?_,zB ?_⟩,zB ?_⟩
   case res=>simp [results,Tryz.results29,go_sem,b0]
   ·exact (zA HF).setCell _ _ (by simp; omega)
   ·rw [<- zA HK,<- hjn]; exact zA HT
   ·exact (zA HR).set _ _ _ (by omega)
   ·exact (zA HW).setNew _ _ (Nat.le_refl _)
end Go.Proofs.YtgiemobdmbijiaaGreatDoor
namespace Go.Proofs.YtgiemobdmbijiaaGreatDoor
set_option maxHeartbeats 16000000
set_option maxRecDepth 100000
open Go.RowKit
theorem zAP (s:ByteArray) (k l sd:Int) (b:Bool) (w:World) (hs:s.size <= maxLen) :
  Calls Tryz.prog 108 #[.agg #[.string s,.int .i64 k,.int .i64 l,.int .i64 sd],.bool b] w fun e w'=>e = .returned (.int .i64 (zAu s k l sd b)) /\ Below w.heap.size w w':=by
 cases ht:okB s k l sd
 ·have hf:=zB (zLc s k l sd b ht)
  go_enter Tryz.func108,Tryz.ntmps108
  go_wp2_with (go_at_call 73; refine (zCF _ _ _ _ _ hs).mono ?_; rintro e w' ⟨rfl,hb⟩)
  go_ret
  exact ⟨zG (zA hf).symm,(zC _ _).trans (hb.mono (by simp))⟩
 ·obtain ⟨⟨hl1,hl2⟩,h⟩:=zIE s k l sd ht
  rcases h with ⟨rfl,rfl⟩ | ⟨rfl,rfl⟩ | ⟨rfl,rfl⟩ | ⟨rfl,rfl⟩ | ⟨rfl,rfl⟩ <;> cases b
  all_goals
   have hf:=zB (ht)
   go_enter Tryz.func108,Tryz.ntmps108
   go_wp2_with (go_at_call 73; refine (zCF _ _ _ _ _ hs).mono ?_; rintro e w' ⟨rfl,hb⟩; obtain ⟨hc,hz⟩:=zPR hb)
   go_ret
   exact ⟨zG (by simp [zAu,zOf,zA hf]),(zC _ _).trans (hb.mono (by simp))⟩
def zBU (xs:List OpR) (t:ByteArray) (kd:Int):Nat -> Nat -> Option Nat
 | 0,_=>none
 | m + 1,i=>if (atO xs i).s = t /\ (atO xs i).k = kd then some i else zBU xs t kd m (i + 1)
def fnd (xs:List OpR) (t:ByteArray) (kd:Int):Option Nat:=zBU xs t kd xs.length 0
theorem zDw {xs:List OpR} {t:ByteArray} {kd:Int}:∀ {m i j:Nat},zBU xs t kd m i = some j -> i <= j /\ j < i + m /\ (atO xs j).s = t /\ (atO xs j).k = kd
 | 0,_,_,h=>by cases h
 | m + 1,i,j,h=>by
  unfold zBU at h
  split at h
  ·rename_i hc
   injection h with h
   subst h
   exact ⟨Nat.le_refl _,by omega,hc.1,hc.2⟩
  ·have:=zDw h
   exact ⟨by omega,by omega,this.2.2⟩
theorem zDx {xs:List OpR} {t:ByteArray} {kd:Int}:∀ {m i:Nat},zBU xs t kd m i = none -> ∀ j,i <= j -> j < i + m -> ¬ ((atO xs j).s = t /\ (atO xs j).k = kd)
 | 0,_,_,_,h1,h2=>by omega
 | m + 1,i,h,j,h1,h2=>by
  unfold zBU at h
  split at h
  ·cases h
  ·rename_i hc
   by_cases e:j = i
   ·subst e; exact hc
   ·exact zDx h j (by omega) (by omega)
theorem zA0 {xs:List OpR} {t:ByteArray} {kd:Int} {j:Nat} (h:fnd xs t kd = some j):j < xs.length /\ (atO xs j).s = t /\ (atO xs j).k = kd:=by
 have:=zDw h
 exact ⟨by omega,this.2.2⟩
theorem zL5 {xs:List OpR} {t:ByteArray} {kd:Int} (h:fnd xs t kd = none) {j:Nat} (hj:j < xs.length):¬ ((atO xs j).s = t /\ (atO xs j).k = kd):=
 zDx h j (Nat.zero_le _) (by omega)
theorem zDy {xs:List OpR} {t:ByteArray} {kd:Int}:∀ (k m i:Nat),(∀ j,i <= j -> j < i + k -> ¬ ((atO xs j).s = t /\ (atO xs j).k = kd)) -> zBU xs t kd (k + m) i = zBU xs t kd m (i + k)
 | 0,m,i,_=>by rw [Nat.zero_add,Nat.add_zero]
 | k + 1,m,i,h=>by
  have e:k + 1 + m = (k + m) + 1:=by omega
  rw [e]
  show (if (atO xs i).s = t /\ (atO xs i).k = kd then some i else zBU xs t kd (k + m) (i + 1)) = _
  rw [if_neg (h i (Nat.le_refl _) (by omega)),zDy k m (i + 1) (fun j h1 h2=>h j (by omega) (by omega))]
  congr 1
  omega
theorem zLH {xs:List OpR} {t:ByteArray} {kd:Int} {k:Nat} (hk:k < xs.length) (h:∀ j,j < k -> ¬ ((atO xs j).s = t /\ (atO xs j).k = kd)) (hk2:(atO xs k).s = t /\ (atO xs k).k = kd):fnd xs t kd = some k:=by
 have e:xs.length = k + ((xs.length - k - 1) + 1):=by omega
 unfold fnd
 rw [e,zDy k _ 0 (fun j _ h2=>h j (by omega))]
 show (if (atO xs (0 + k)).s = t /\ (atO xs (0 + k)).k = kd then some (0 + k) else _) = _
 rw [Nat.zero_add,if_pos hk2]
theorem zNa {xs:List OpR} {t:ByteArray} {kd:Int} (h:∀ j,j < xs.length -> ¬ ((atO xs j).s = t /\ (atO xs j).k = kd)):fnd xs t kd = none:=by
 cases e:fnd xs t kd with
 | none=>rfl
 | some j=>exact absurd (zA0 e).2 (h j (zA0 e).1)
def zAo (o:zD):Prop:=3 <= o.k /\ o.k <= 5
def Z2 (xs:List OpR) (o:zD):Int:=if 3 <= o.k /\ o.k <= 5 then (match fnd xs o.t (o.k - 2) with
 | some j=>(atO xs j).l
 | none=>1001) else 1001
def zDN (xs:List OpR) (j:Nat) (b:Bool):Int:=zAu (atO xs j).s (atO xs j).k (atO xs j).l (atO xs j).sd b
def zIc (xs:List OpR) (ns:List zD):Prop:=∀ i,i < ns.length -> zAo (atN ns i) -> fnd xs (atN ns i).t ((atN ns i).k - 2) ≠ none
def zFi (xs:List OpR) (ns:List zD) (i:Nat):Prop:=∀ j,zAo (atN ns i) -> fnd xs (atN ns i).t ((atN ns i).k - 2) = some j ->
 zDN xs j false <= Z2 xs (atN ns (atN ns i).a.toNat) /\ (zY (atN ns i).k = 1 \/ zDN xs j true <= Z2 xs (atN ns (atN ns i).b.toNat))
def ZC (ns:List OpR) (o:zD) (b:Bool):Int:=match fnd ns o.t (o.k - 2) with
 | some j=>zDN ns j b
 | none=>0
def zCk (ns:List OpR) (o:zD) (least:Int) (s:Nat) (u:List zD):List zD:=
 if Z2 ns o < least then u ++ [⟨6,ByteArray.empty,((s + u.length:Nat):Int) - 1,0⟩] else u
def gr (ns:List OpR) (xs:List zD):Nat -> Nat -> Int -> Nat -> List zD
 | 0,_,_,_=>[]
 | n + 1,i,least,s=>
  if (atN xs i).k = 6 then gr ns xs n (i - 1) least s
  else if zY (atN xs i).k = 0 then zCk ns (atN xs i) least s [⟨(atN xs i).k,(atN xs i).t,0,0⟩]
  else if zY (atN xs i).k = 1 then
   zCk ns (atN xs i) least s (gr ns xs n (i - 1) (ZC ns (atN xs i) false) s ++ [⟨(atN xs i).k,(atN xs i).t,((s + (gr ns xs n (i - 1) (ZC ns (atN xs i) false) s).length:Nat):Int) - 1,0⟩])
  else
   zCk ns (atN xs i) least s ((gr ns xs n (atN xs i).a.toNat (ZC ns (atN xs i) false) s ++ gr ns xs n (i - 1) (ZC ns (atN xs i) true) (s + (gr ns xs n (atN xs i).a.toNat (ZC ns (atN xs i) false) s).length)) ++
    [⟨(atN xs i).k,(atN xs i).t,((s + (gr ns xs n (atN xs i).a.toNat (ZC ns (atN xs i) false) s).length:Nat):Int) - 1,((s + (gr ns xs n (atN xs i).a.toNat (ZC ns (atN xs i) false) s).length + (gr ns xs n (i - 1) (ZC ns (atN xs i) true) (s + (gr ns xs n (atN xs i).a.toNat (ZC ns (atN xs i) false) s).length)).length:Nat):Int) - 1⟩])
theorem zCG (ns:List OpR) (xs:List zD):∀ n m i f,i < n -> i < m -> frS xs i = some f -> ∀ l s,gr ns xs n i l s = gr ns xs m i l s
 | 0,_,_,_,h,_,_=>absurd h (Nat.not_lt_zero _)
 | _ + 1,0,_,_,_,h,_=>absurd h (Nat.not_lt_zero _)
 | n + 1,m + 1,i,f,h,h',hf=>by
  intro l s
  rcases zBa hf with ⟨hk,ha,hb,hfi⟩ | ⟨hk,h1i,ha,hbb,hf1⟩ | ⟨hk,h1i,hbb,f2,hf2,h2f,ha,hf1⟩
  ·have h6:(atN xs i).k ≠ 6:=fun e=>by rw [e] at hk; simp [zY] at hk
   simp only [gr,if_neg h6,hk,if_true]
  ·have e:=zCG ns xs n m (i - 1) f (by omega) (by omega) hf1
   simp only [gr,e]
   by_cases h6:(atN xs i).k = 6
   ·rw [if_pos h6,if_pos h6]
   ·simp only [if_neg h6,hk,if_true,Nat.one_ne_zero,if_false]
  ·have h6:(atN xs i).k ≠ 6:=fun e=>by rw [e] at hk; simp [zY] at hk
   have hle:=zAA hf2
   have e1:=zCG ns xs n m (i - 1) f2 (by omega) (by omega) hf2
   have e2:=zCG ns xs n m (f2 - 1) f (by omega) (by omega) hf1
   have ea:(atN xs i).a.toNat = f2 - 1:=by omega
   simp only [gr,if_neg h6,ea,e1,e2]
def gS (ns:List OpR) (xs:List zD) (i:Nat) (l:Int) (s:Nat):List zD:=gr ns xs (i + 1) i l s
theorem zHg {ns:List OpR} {xs:List zD} {i:Nat} (hk:zY (atN xs i).k = 0) (l:Int) (s:Nat):gS ns xs i l s = zCk ns (atN xs i) l s [⟨(atN xs i).k,(atN xs i).t,0,0⟩]:=by
 have h6:(atN xs i).k ≠ 6:=fun e=>by rw [e] at hk; simp [zY] at hk
 simp only [gS,gr,if_neg h6,hk,if_true]
theorem zFj {ns:List OpR} {xs:List zD} {i f:Nat} (hk:(atN xs i).k = 6) (h1:1 <= i) (hf:frS xs (i - 1) = some f) (l:Int) (s:Nat):gS ns xs i l s = gS ns xs (i - 1) l s:=by
 have e:gS ns xs i l s = gr ns xs i (i - 1) l s:=by simp only [gS,gr,if_pos hk]
 rw [e]
 exact zCG ns xs _ _ _ f (by omega) (by omega) hf l s
theorem zJi {ns:List OpR} {xs:List zD} {i f:Nat} (hk:zY (atN xs i).k = 1) (h6:(atN xs i).k ≠ 6) (h1:1 <= i) (hf:frS xs (i - 1) = some f) (l:Int) (s:Nat) {u:List zD} (hu:u = gS ns xs (i - 1) (ZC ns (atN xs i) false) s) :
  gS ns xs i l s = zCk ns (atN xs i) l s (u ++ [⟨(atN xs i).k,(atN xs i).t,((s + u.length:Nat):Int) - 1,0⟩]):=by
 have e:=zCG ns xs i (i - 1 + 1) (i - 1) f (by omega) (by omega) hf
 subst hu
 unfold gS
 conv=>lhs; unfold gr
 simp only [if_neg h6,hk,if_true,Nat.one_ne_zero,if_false,e]
theorem zJj {ns:List OpR} {xs:List zD} {i f f2:Nat} (hk:zY (atN xs i).k = 2) (h1:1 <= i) (hf2:frS xs (i - 1) = some f2) (h2:1 <= f2) (ha:(atN xs i).a = (f2:Int) - 1) (hf:frS xs (f2 - 1) = some f) (l:Int) (s:Nat) {u1 u2:List zD}
  (hu1:u1 = gS ns xs (f2 - 1) (ZC ns (atN xs i) false) s) (hu2:u2 = gS ns xs (i - 1) (ZC ns (atN xs i) true) (s + u1.length)) :
  gS ns xs i l s = zCk ns (atN xs i) l s ((u1 ++ u2) ++ [⟨(atN xs i).k,(atN xs i).t,((s + u1.length:Nat):Int) - 1,((s + u1.length + u2.length:Nat):Int) - 1⟩]):=by
 have h6:(atN xs i).k ≠ 6:=fun e=>by rw [e] at hk; simp [zY] at hk
 have hle:=zAA hf2
 have e1:=zCG ns xs i (i - 1 + 1) (i - 1) f2 (by omega) (by omega) hf2
 have e2:=zCG ns xs i (f2 - 1 + 1) (f2 - 1) f (by omega) (by omega) hf
 have ea:(atN xs i).a.toNat = f2 - 1:=by omega
 subst hu2
 subst hu1
 unfold gS
 conv=>lhs; unfold gr
 simp only [if_neg h6,ea,e1,e2,hk]
 rfl
theorem zFk (ns:List OpR) (o:zD) (l:Int) (s:Nat) (u:List zD):u.length <= (zCk ns o l s u).length /\ (zCk ns o l s u).length <= u.length + 1:=by
 unfold zCk
 split <;> simp
theorem zCH (ns:List OpR) (xs:List zD):∀ n i f,i < n -> frS xs i = some f -> ∀ l s,1 <= (gS ns xs i l s).length /\ (gS ns xs i l s).length <= 2 * (i + 1 - f)
 | 0,_,_,h,_=>absurd h (Nat.not_lt_zero _)
 | n + 1,i,f,h,hf=>by
  intro l s
  rcases zBa hf with ⟨hk,ha,hb,hfi⟩ | ⟨hk,h1i,ha,hbb,hf1⟩ | ⟨hk,h1i,hbb,f2,hf2,h2f,ha,hf1⟩
  ·rw [zHg hk]
   have:=zFk ns (atN xs i) l s [⟨(atN xs i).k,(atN xs i).t,0,0⟩]
   simp only [List.length_cons,List.length_nil] at this
   omega
  ·have hle:=zAA hf1
   by_cases h6:(atN xs i).k = 6
   ·rw [zFj h6 h1i hf1]
    have:=zCH ns xs n (i - 1) f (by omega) hf1 l s
    omega
   ·rw [zJi hk h6 h1i hf1 l s rfl]
    have h1:=zCH ns xs n (i - 1) f (by omega) hf1 (ZC ns (atN xs i) false) s
    have h2:=zFk ns (atN xs i) l s (gS ns xs (i - 1) (ZC ns (atN xs i) false) s ++ [⟨(atN xs i).k,(atN xs i).t,((s + (gS ns xs (i - 1) (ZC ns (atN xs i) false) s).length:Nat):Int) - 1,0⟩])
    simp only [List.length_append,List.length_cons,List.length_nil] at h2
    omega
  ·have hle:=zAA hf2
   have hle1:=zAA hf1
   obtain ⟨u1,hu1⟩:∃ u1,u1 = gS ns xs (f2 - 1) (ZC ns (atN xs i) false) s:=⟨_,rfl⟩
   obtain ⟨u2,hu2⟩:∃ u2,u2 = gS ns xs (i - 1) (ZC ns (atN xs i) true) (s + u1.length):=⟨_,rfl⟩
   rw [zJj hk h1i hf2 h2f ha hf1 l s hu1 hu2]
   have h1:=zCH ns xs n (f2 - 1) f (by omega) hf1 (ZC ns (atN xs i) false) s
   have h2:=zCH ns xs n (i - 1) f2 (by omega) hf2 (ZC ns (atN xs i) true) (s + u1.length)
   rw [<- hu1] at h1
   rw [<- hu2] at h2
   have h3:=zFk ns (atN xs i) l s ((u1 ++ u2) ++ [⟨(atN xs i).k,(atN xs i).t,((s + u1.length:Nat):Int) - 1,((s + u1.length + u2.length:Nat):Int) - 1⟩])
   simp only [List.length_append,List.length_cons,List.length_nil] at h3
   omega
def zHh (ns:List OpR) (xs us:List zD) (v:Bool):Prop:=
 (((zZ ns 0 /\ zAn xs /\ zIc ns xs) /\ (gS ns xs (xs.length - 1) 0 0).length <= 20000) /\ v = true /\ us = gS ns xs (xs.length - 1) 0 0) \/
 (¬ ((zZ ns 0 /\ zAn xs /\ zIc ns xs) /\ (gS ns xs (xs.length - 1) 0 0).length <= 20000) /\ v = false /\ us = [])
end Go.Proofs.YtgiemobdmbijiaaGreatDoor
namespace Go.Proofs.YtgiemobdmbijiaaGreatDoor
set_option linter.unusedSimpArgs false
set_option linter.unusedVariables false
set_option maxHeartbeats 16000000
set_option maxRecDepth 100000
open Go.RowKit
theorem zFl (k:Nat):(zDr k).t.size <= 6:=by
 have e1:(⟨#[97,98,99,100,95,57]⟩:ByteArray).size = 6:=rfl
 have e2:(⟨#[48,49,55,50]⟩:ByteArray).size = 4:=rfl
 unfold zDr
 split
 ·show (ByteArray.extract _ _ _).size <= 6
  rw [ByteArray.size_extract]; omega
 ·show (ByteArray.extract _ _ _).size <= 6
  rw [ByteArray.size_extract]; omega
theorem zHi {ns:List OpR} (hn:∀ i,(atO ns i).s.size <= 16) (bs:List UInt8) (grp:Bool):∀ (d p:Nat) (us:List zD),(∀ o ∈ us,o.t.size <= 16) -> ∀ o ∈ (gen bs ns grp d p us).2,o.t.size <= 16
 | 0,p,us,h=>by
  have:=zFl (nxt bs (adv bs p))
  simp only [gen]
  intro o ho
  rcases List.mem_append.1 ho with ho | ho
  ·exact h o ho
  ·simp at ho; subst ho; omega
 | d + 1,p,us,h=>by
  have hl:=zFl (nxt bs (adv bs p))
  have h1:=zHi hn bs grp d (adv bs p) us h
  have h2:=zHi hn bs grp d (gen bs ns grp d (adv bs p) us).1 _ h1
  have h3:=hn (nxt bs p / 8 % ns.length)
  have sn:∀ (vs:List zD) (x:zD),(∀ o ∈ vs,o.t.size <= 16) -> x.t.size <= 16 -> ∀ o ∈ vs ++ [x],o.t.size <= 16:=fun vs x hv hx o ho=>by
   rcases List.mem_append.1 ho with ho | ho
   ·exact hv o ho
   ·simp at ho; subst ho; exact hx
  simp only [gen]
  split
  ·exact sn _ _ h (by omega)
  ·split
   ·exact sn _ _ h1 (by show 0 <= 16; omega)
   ·split
    ·exact sn _ _ h2 h3
    ·exact sn _ _ h1 h3
def opA (ns:List OpR) (o:zD):OpR:=match fnd ns o.t (o.k - 2) with
 | some j=>atO ns j
 | none=>⟨ByteArray.empty,0,0,0⟩
end Go.Proofs.YtgiemobdmbijiaaGreatDoor
