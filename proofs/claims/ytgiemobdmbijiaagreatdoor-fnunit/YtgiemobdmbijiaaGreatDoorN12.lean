import Derived.OwnWalk
import Derived.Laws.OwnMore
import Derived.Deep.RegionHeldLaw
import Derived.BigQuiet
import Derived.Maps.OwnSet
import Derived.DeepKeys4
import Derived.Maps.Views
import Derived.Shelf.Strings.BuilderK
import Derived.Test.YtgiemobdmbijiaaGreatDoorN01
import Derived.Test.YtgiemobdmbijiaaGreatDoorN02
import Derived.Test.YtgiemobdmbijiaaGreatDoorN03
import Derived.Test.YtgiemobdmbijiaaGreatDoorN06
import Derived.Test.YtgiemobdmbijiaaGreatDoorN08
import Derived.Test.YtgiemobdmbijiaaGreatDoorN09
import Derived.Test.YtgiemobdmbijiaaGreatDoorN11
namespace Go.Proofs.YtgiemobdmbijiaaGreatDoor
set_option maxHeartbeats 16000000
set_option maxRecDepth 100000
open Go.RowKit
def zAJ (xs:List zT):Nat -> List UInt8
 | 0=>[]
 | k + 1=>zAJ xs k ++ (atT xs k).g.data.toList ++ (atT xs k).t.data.toList
theorem zCp (xs:List zT):∀ k,(zAJ xs k).length = Zp xs k
 | 0=>rfl
 | k + 1=>by
  have:=zCp xs k
  simp only [zAJ,Zp,zNT,List.length_append,this]
  simp
  omega
theorem zFq (xs:List zT):∀ k n,k <= n -> Zp xs k <= Zp xs n
 | k,0,h=>by
  have:k = 0:=by omega
  subst this; exact Nat.le_refl _
 | k,n + 1,h=>by
  by_cases e:k = n + 1
  ·subst e; exact Nat.le_refl _
  ·have:=zFq xs k n (by omega)
   simp only [Zp]
   omega
theorem ZS {w:World} {base n size:Nat} {e:TypeId} {v:Value} {xs:List Value} (h:w.ownsRow base e size v n xs) (hv:v ≠ .slice none 0 0):∃ g cap,v = .slice (some ⟨g,0,none⟩) n cap:=by
 obtain ⟨_,h | ⟨g,cap,cur,hv',_⟩⟩:=h
 ·exact absurd h.1 hv
 ·exact ⟨g,cap,hv'⟩
theorem zIn {w:World} {base g cap n:Nat} {e:TypeId} {l:List UInt8} (h:w.ownsRow base e 1 (.slice (some ⟨g,0,none⟩) n cap) n (cellsB l)):∀ j u,(cellsB l)[j]? = some u -> w.cell? ((⟨g,0,none⟩:Addr).add j) = some u:=
 h.cells rfl
theorem zAS {w w':World} (h:Below w.heap.size w w') (row:Option Nat):w.grownBy w' row:=⟨h.os,h.tape,h.output,h.size,fun i hi _=>h.block i hi⟩
def zy (zs:List zT):List Value:=zs.flatMap fun o=>[.int .i64 o.k,.string o.g,.string o.t]
theorem zCq (xs ys:List zT):zy (xs ++ ys) = zy xs ++ zy ys:=by simp [zy]
theorem zEx:∀ zs:List zT,(zy zs).length = zs.length * 3
 | []=>rfl
 | o :: r=>by
  have:=zEx r
  simp only [zy,List.flatMap_cons,List.length_append,List.length_cons,List.length_nil] at *
  omega
theorem zFr:∀ (zs:List zT) (i:Nat),i < zs.length -> (zy zs)[i * 3]? = some (.int .i64 (atT zs i).k) /\ (zy zs)[i * 3 + 1]? = some (.string (atT zs i).g) /\ (zy zs)[i * 3 + 2]? = some (.string (atT zs i).t)
 | [],i,h=>absurd h (Nat.not_lt_zero i)
 | o :: r,0,_=>⟨rfl,rfl,rfl⟩
 | o :: r,i + 1,h=>by
  have ih:=zFr r i (by simpa using h)
  have e:∀ j,(zy (o :: r))[(i + 1) * 3 + j]? = (zy r)[i * 3 + j]?:=fun j=>by
   have:(i + 1) * 3 + j = (i * 3 + j) + 3:=by omega
   rw [this]
   rfl
  exact ⟨(e 0).trans ih.1,(e 1).trans ih.2.1,(e 2).trans ih.2.2⟩
theorem zD2 (zs:List zT):∀ u ∈ zy zs,u.oneCell' = true:=by
 intro u hu
 simp only [zy,List.mem_flatMap] at hu
 obtain ⟨o,_,ho⟩:=hu
 simp at ho
 rcases ho with rfl | rfl | rfl <;> rfl
theorem zCN {w:World} {base g cap:Nat} {e:TypeId} {zs:List zT} (h:w.ownsRow base e 3 (.slice (some ⟨g,0,none⟩) zs.length cap) zs.length (zy zs)):base <= g /\ zKW w g zs zs.length:=by
 have hlt:=h.lt g rfl
 refine ⟨hlt.1,hlt.2,fun j hj=>⟨?_,h.frozenAt _⟩,fun i hi=>?_⟩
 ·rw [h.cellAt (0 + j) (by omega)]
  have:0 + j < (zy zs).length:=by rw [zEx]; omega
  rw [List.getElem?_eq_getElem this]
  rfl
 ·obtain ⟨c0,c1,c2⟩:=zFr zs i hi
  have e:=fun j (hj:j < 3)=>h.cellAt (i * 3 + j) (by omega)
  exact ⟨by simpa using (e 0 (by omega)).trans c0,by simpa using (e 1 (by omega)).trans c1,by simpa using (e 2 (by omega)).trans c2⟩
theorem zG3 (w:World) (o:zT):∀ j u,(zy [o])[j]? = some u -> (w.alloc (.cells #[.int .i64 o.k,.string o.g,.string o.t] 125)).cell? ((⟨w.heap.size,0,none⟩:Addr).add j) = some u:=by
 intro j u hj
 rw [Addr.add_mid]
 have:=World.rangeAt_of_block (w:=w.alloc (.cells #[.int .i64 o.k,.string o.g,.string o.t] 125)) (b:=w.heap.size) (heap_alloc_new w _) 0 3
 exact this j u (by simpa [zy] using hj)
def zPY (xs:List OpR) (ok:Prop) (s:ByteArray) (us:List zT) (v:Bool):Prop:=
 ((ok /\ s.size <= 20000) /\ v = true /\ zAx xs s 0 us) \/ (¬ (ok /\ s.size <= 20000) /\ v = false /\ us = [])
def zHo (xs:List OpR) (s:ByteArray) (i:Nat) (acc:List zT):Prop:=acc.length <= i /\ ∀ out,zAx xs s i out -> zAx xs s 0 (acc ++ out)
theorem zHo.start (xs:List OpR) (s:ByteArray):zHo xs s 0 []:=⟨Nat.le_refl _,fun _ h=>h⟩
theorem zHo.step {xs:List OpR} {s:ByteArray} {i j n k:Nat} {acc:List zT} (h:zHo xs s i acc) (h1:i <= j) (h2:j < s.size) (h3:zCg s i j) (h4:cls (bt s j) ≠ 1) (h5:zIR xs s j n k) :
  zHo xs s (j + n) (acc ++ [⟨(k:Int),s.extract i j,s.extract j (j + n)⟩]):=by
 refine ⟨?_,fun out ho=>?_⟩
 ·have:=h.1
  have:=h5.1
  simp
  omega
 ·rw [List.append_assoc]
  exact h.2 _ (zAx.tok h1 h2 h3 h4 h5 ho)
theorem zHo.done {xs:List OpR} {s:ByteArray} {i:Nat} {acc:List zT} (h:zHo xs s i acc) (h1:i <= s.size) (h3:zCg s i s.size):zAx xs s 0 (acc ++ [⟨7,s.extract i s.size,⟨#[]⟩⟩]):=
 h.2 _ (zAx.fin h1 h3)
end Go.Proofs.YtgiemobdmbijiaaGreatDoor
namespace Go.Proofs.YtgiemobdmbijiaaGreatDoor
set_option linter.unusedSimpArgs false
set_option maxHeartbeats 16000000
set_option maxRecDepth 100000
open Go.RowKit
def sgT (ns:List OpR) (ts:List zT) (i:Nat):SyR:=
 if (atT ts i).k = 3 then ((zd ns ts i).toNat + 2,(atT ts i).t)
 else if (atT ts i).k = 4 then (6,opn) else if (atT ts i).k = 5 then (7,zBw) else if (atT ts i).k = 7 then eoS else ((atT ts i).k.toNat,(atT ts i).t)
def sgs (ns:List OpR) (ts:List zT) (a n:Nat):List SyR:=(List.range' a n).map (sgT ns ts)
theorem zDA (ns:List OpR) (ts:List zT) (a n:Nat):(sgs ns ts a n).length = n:=by simp [sgs]
theorem zD3 (ns:List OpR) (ts:List zT) (a n:Nat):sgs ns ts a (n + 1) = sgT ns ts a :: sgs ns ts (a + 1) n:=by
 simp [sgs,List.range'_succ]
theorem zKf (ns:List OpR) (ts:List zT) (a m n:Nat):sgs ns ts a (m + n) = sgs ns ts a m ++ sgs ns ts (a + m) n:=by
 induction m generalizing a with
 | zero=>simp [sgs]
 | succ m ih=>
  have e:m + 1 + n = (m + n) + 1:=by omega
  rw [e,zD3,zD3,ih]
  have e2:a + 1 + m = a + (m + 1):=by omega
  rw [e2]; rfl
theorem zCr (ns:List OpR) (ts:List zT) (a n:Nat):sgs ns ts a (n + 1) = sgs ns ts a n ++ [sgT ns ts (a + n)]:=by
 rw [zKf]; rfl
def zMB (ns:List OpR) (t:zT):Prop:=
 ((t.k = 1 \/ t.k = 2) /\ ¬ opT ns t.t /\ t.t ≠ opn) \/ (t.k = 3 /\ opT ns t.t /\ t.t ≠ opn) \/ (t.k = 4 /\ t.t = opn /\ ¬ opT ns t.t) \/ (t.k = 5 /\ t.t = zBw /\ ¬ opT ns t.t) \/ t.k = 6 \/ (t.k = 7 /\ t.t = ⟨#[]⟩ /\ ¬ opT ns t.t)
theorem zG4 {t:ByteArray} {ns:List OpR} (hv:zAm ns) (ho:opT ns t):cls (bt t 0) = 6 /\ 1 <= t.size:=by
 obtain ⟨j,hj,rfl⟩:=ho
 have:=hv j hj
 exact ⟨this.2.2 0 (by omega),this.1⟩
theorem zMC {ns:List OpR} (hv:zAm ns) {s:ByteArray} {i n k:Nat} (g:ByteArray) (h:zIR ns s i n k):zMB ns ⟨(k:Int),g,s.extract i (i + n)⟩:=by
 obtain ⟨h1,h2,h⟩:=h
 have hb:bt (sub s i n) 0 = bt s i:=by simpa using zCB (s:=s) (i:=i) (n:=n) (j:=0) h2 (by omega)
 have hsz:(sub s i n).size = n:=zBG h2
 have hno:cls (bt s i) ≠ 6 -> ¬ opT ns (sub s i n):=fun hc ho=>hc (by rw [<- hb]; exact (zG4 hv ho).1)
 have hnp:cls (bt s i) ≠ 4 -> sub s i n ≠ opn:=fun hc e=>hc (by rw [<- hb,e]; decide)
 change zMB ns ⟨(k:Int),g,sub s i n⟩
 rcases h with ⟨c,rfl,_⟩ | ⟨c,rfl,_⟩ | ⟨c,rfl,rfl⟩ | ⟨c,rfl,rfl⟩ | ⟨c,⟨rfl,a,_⟩ | ⟨rfl,_⟩⟩ | ⟨c,rfl,_⟩
 ·exact Or.inl ⟨Or.inl rfl,hno (by omega),hnp (by omega)⟩
 ·exact Or.inl ⟨Or.inr rfl,hno (by omega),hnp (by omega)⟩
 ·refine Or.inr (Or.inr (Or.inl ⟨rfl,?_,hno (by omega)⟩))
  exact (zBH hsz).2 (by rw [hb]; exact (zDi _).1 c)
 ·refine Or.inr (Or.inr (Or.inr (Or.inl ⟨rfl,?_,hno (by omega)⟩)))
  exact (zBH hsz).2 (by rw [hb]; exact (zC1 _).1 c)
 ·exact Or.inr (Or.inl ⟨rfl,a,hnp (by omega)⟩)
 ·exact Or.inr (Or.inr (Or.inr (Or.inr (Or.inl rfl))))
 ·exact Or.inr (Or.inr (Or.inr (Or.inr (Or.inl rfl))))
theorem zKg {ns:List OpR} (hv:zAm ns) {s:ByteArray}:∀ (ts:List zT) (i:Nat),zAx ns s i ts -> ∀ j,j < ts.length -> zMB ns (atT ts j)
 | [],i,h,j,hj=>by simp at hj
 | t :: out,i,h,j,hj=>by
  rcases h with ⟨rfl,_,_,rfl⟩ | ⟨p,n,k,_,_,_,_,ht,rfl,hr⟩
  ·have:j = 0:=by simp at hj; omega
   subst this
   refine Or.inr (Or.inr (Or.inr (Or.inr (Or.inr ⟨rfl,rfl,fun ho=>?_⟩))))
   have h1:=(zG4 hv ho).2
   simp [atT] at h1
   have h0:(⟨#[]⟩:ByteArray).size = 0:=rfl
   omega
  ·cases j with
   | zero=>exact zMC hv _ ht
   | succ j=>exact zKg hv out _ hr j (by simpa using hj)
theorem zHp {ns:List OpR} {t:ByteArray} {q:Nat} {k:Int} (h:Zl ns t k = true) (hq:(q:Int) - 2 = k):knB ns (q,t) = true:=by
 unfold knB
 simp only [hq]
 cases hf:fnd ns t k with
 | some j=>rfl
 | none=>
  obtain ⟨j,hj,e1,e2⟩:=(zAG _ _ _).1 h
  exact absurd ⟨e1,e2⟩ (zL5 hf hj)
theorem zIo (xs:List OpR) (last:Bool) (t:zT) (op:Nat):zCo xs last t false op = if t.k = 1 \/ t.k = 2 \/ t.k = 4 then 0 else if t.k = 3 /\ Zl xs t.t 1 = true then 1 else -1:=by
 unfold zCo; rw [if_pos rfl]
theorem zIp (xs:List OpR) (last:Bool) (t:zT) (op:Nat):zCo xs last t true op = if t.k = 3 /\ Zl xs t.t 2 = true then 2 else if t.k = 3 /\ Zl xs t.t 3 = true then 3
  else if t.k = 5 /\ 0 < op then 0 else if t.k = 7 /\ op = 0 /\ last = true then 0 else -1:=by
 unfold zCo; rw [if_neg (by decide)]
theorem zOr {ns:List OpR} {ts:List zT} {i:Nat} (hl:i + 1 < ts.length) (hr:0 <= zd ns ts i) :
  auS ns (zEX ns ts i,zEY ts i) (sgT ns ts i) = some (zEX ns ts (i + 1),zEY ts (i + 1)):=by
 have hlast:decide (i + 1 = ts.length) = false:=by simp; omega
 simp only [zEX,zEY]
 unfold sgT
 unfold zd at hr ⊢
 rw [hlast] at hr ⊢
 generalize atT ts i = t at hr ⊢
 generalize zEY ts i = op at hr ⊢
 generalize zEX ns ts i = bh at hr ⊢
 cases bh
 ·rw [zIo] at hr ⊢
  by_cases k1:t.k = 1 \/ t.k = 2
  ·rw [if_neg (by omega),if_neg (by omega),if_neg (by omega),if_neg (by omega),zKb (by rcases k1 with e | e <;> simp [e])]
   simp only [zIk,zIl,if_true,if_pos k1]
   rw [if_neg (by omega),if_neg (by omega)]
  ·by_cases k4:t.k = 4
   ·rw [if_neg (by omega),if_pos k4,zKc]
    simp [zIk,zIl,k4]
   ·rw [if_neg (by omega)] at hr
    by_cases c:t.k = 3 /\ Zl ns t.t 1 = true
    ·rw [if_pos c.1,if_neg (by omega),if_pos c,zL8 (s:=((1:Int).toNat + 2,t.t)) rfl (zHp c.2 (by decide))]
     simp [zIk,zIl,c.1]
    ·rw [if_neg c] at hr; omega
 ·rw [zIp] at hr ⊢
  by_cases c2:t.k = 3 /\ Zl ns t.t 2 = true
  ·rw [if_pos c2.1,if_pos c2,zL9 (s:=((2:Int).toNat + 2,t.t)) rfl (zHp c2.2 (by decide))]
   simp [zIk,zIl,c2.1,c2.2]
  ·rw [if_neg c2] at hr
   by_cases c3:t.k = 3 /\ Zl ns t.t 3 = true
   ·rw [if_pos c3.1,if_neg c2,if_pos c3,zKd (s:=((3:Int).toNat + 2,t.t)) rfl (zHp c3.2 (by decide))]
    simp only [zIk,zIl,Bool.true_eq_false,if_false,if_neg c2]
    rw [if_neg (by omega),if_neg (by omega)]
   ·rw [if_neg c3] at hr
    by_cases c5:t.k = 5 /\ 0 < op
    ·rw [if_neg (by omega),if_neg (by omega),if_pos c5.1]
     obtain ⟨m,rfl⟩:∃ m,op = m + 1:=⟨op - 1,by omega⟩
     rw [zIf]
     simp [zIk,zIl,c5.1]
    ·rw [if_neg c5] at hr
     simp at hr
theorem zKh {ns:List OpR} {ts:List zT}:∀ n,n < ts.length -> zCX ns ts n -> zAE ns (false,0) (sgs ns ts 0 n) = some (zEX ns ts n,zEY ts n)
 | 0,_,_=>rfl
 | n + 1,hn,hf=>by
  rw [zCr,zCl,zKh n (by omega) (fun i hi=>hf i (by omega))]
  simp only [Nat.zero_add,zAE]
  rw [zOr (by omega) (hf n (by omega))]
theorem zKi {ns:List OpR} {ts:List zT} (hf:zCX ns ts ts.length) (h0:0 < ts.length) (h7:(atT ts (ts.length - 1)).k = 7) :
  Seg ns (sgs ns ts 0 (ts.length - 1)) /\ sgs ns ts 0 ts.length = sgs ns ts 0 (ts.length - 1) ++ [eoS]:=by
 have hr:=hf (ts.length - 1) (by omega)
 have hb:zEX ns ts (ts.length - 1) = true /\ zEY ts (ts.length - 1) = 0:=by
  unfold zd zCo at hr
  have hl:decide (ts.length - 1 + 1 = ts.length) = true:=by simp; omega
  rw [hl] at hr
  cases hb:zEX ns ts (ts.length - 1)
  ·rw [hb] at hr
   simp only [if_true] at hr
   rw [if_neg (by omega),if_neg (by omega)] at hr
   omega
  ·rw [hb] at hr
   simp only [Bool.true_eq_false,if_false] at hr
   rw [if_neg (by omega),if_neg (by omega),if_neg (by omega)] at hr
   by_cases c:(atT ts (ts.length - 1)).k = 7 /\ zEY ts (ts.length - 1) = 0 /\ True
   ·exact ⟨rfl,c.2.1⟩
   ·rw [if_neg c] at hr; omega
 refine ⟨?_,?_⟩
 ·unfold Seg
  rw [zKh _ (by omega) (fun i hi=>hf i (by omega)),hb.1,hb.2]
 ·have e:ts.length = ts.length - 1 + 1:=by omega
  have:=zCr ns ts 0 (ts.length - 1)
  rw [<- e] at this
  rw [this]
  have e2:sgT ns ts (0 + (ts.length - 1)) = eoS:=by
   rw [Nat.zero_add]
   unfold sgT
   rw [if_neg (by omega),if_neg (by omega),if_neg (by omega),if_pos h7]
  rw [e2]
end Go.Proofs.YtgiemobdmbijiaaGreatDoor
namespace Go.Proofs.YtgiemobdmbijiaaGreatDoor
set_option linter.unusedSimpArgs false
set_option linter.unusedVariables false
set_option maxHeartbeats 16000000
set_option maxRecDepth 100000
open Go.RowKit
theorem zFs {w:World} {B b o:Nat} {v0 v1 v2 v3 u:Value} (hne:B ≠ b) (h:w.cell? ⟨b,o,none⟩ = some u):((((w.setCell ⟨B,0,none⟩ v0).setCell ⟨B,1,none⟩ v1).setCell ⟨B,2,none⟩ v2).setCell ⟨B,3,none⟩ v3).cell? ⟨b,o,none⟩ = some u:=by
 rw [World.cell?_setCell_far _ _ _ _ hne,World.cell?_setCell_far _ _ _ _ hne,World.cell?_setCell_far _ _ _ _ hne,World.cell?_setCell_far _ _ _ _ hne]
 exact h
def fI:Option Nat -> Int
 | some j=>(j:Int)
 | none=>-1
theorem zDB (b off cap:Nat) (xs:List OpR) (t:ByteArray) (kd:Int) (w:World) (hm:xs.length <= 1048576) (hw:Ops w b off xs) (hB:b < w.heap.size) :
  Calls Tryz.prog 105 #[.agg #[.slice (some ⟨b,off,none⟩) xs.length cap],.string t,.int .i64 kd] w fun e w'=>e = .returned (.int .i64 (fI (fnd xs t kd))) /\ Below w.heap.size w w':=by
 go_enter Tryz.func105,Tryz.ntmps105
 go_wp2
 have hops:Ops (w.alloc (.cells #[.slice (some ⟨b,off,none⟩) xs.length cap] 55)) b off xs:=hw.below (zC _ _) hB
 have HO:=zB hops
 clear hops hw
 go_loop [7] (fun i=>∃ k:Nat,k <= xs.length /\ i = .int .i64 k /\ Hid (∀ j,j < k -> ¬ ((atO xs j).s = t /\ (atO xs j).k = kd))) (fun i=>xs.length - (intOf i).toNat)
 case atStart=>exact ⟨0,Nat.zero_le _,rfl,zB (fun j h=>by omega)⟩
 case round=>
  obtain ⟨k,hk,rfl,hn⟩:=hrel
  by_cases hlt:k < xs.length
  ·obtain ⟨a0,a1,a2,a3⟩:=(zA HO) k hlt
   have hnx:=zB (show ∀ (_:¬ ((atO xs k).s = t /\ (atO xs k).k = kd)),∀ j,j < k + 1 -> ¬ ((atO xs j).s = t /\ (atO xs j).k = kd) from fun hne j hj=>by
    by_cases e:j = k
    ·subst e; exact hne
    ·exact (zA hn) j (by omega))
   go_wp2
   ·rename_i hs1 hk1 _
    go_ret
    refine ⟨zG ?_,zC _ _⟩
    rw [zLH hlt (zA hn) ⟨zB2 hs1,by simpa using hk1⟩]
    rfl
   ·refine ⟨⟨k + 1,by omega,by go_num,zB ((zA hnx) ?_)⟩,by simp [intOf]; omega⟩
    rintro ⟨_,h⟩
    simp_all
   ·refine ⟨⟨k + 1,by omega,by go_num,zB ((zA hnx) ?_)⟩,by simp [intOf]; omega⟩
    rintro ⟨h,_⟩
    simp_all
  ·go_wp2
   go_ret
   refine ⟨zG ?_,zC _ _⟩
   rw [zNa (fun j hj=>(zA hn) j (by omega))]
   rfl
theorem zAK (o:zD) (w:World) (v:Bool) (hv:v = decide (3 <= o.k /\ o.k <= 5)) :
  Calls Tryz.prog 104 #[.agg #[.int .i64 o.k,.string o.t,.int .i64 o.a,.int .i64 o.b]] w fun e w'=>e = .returned (.bool v) /\ Below w.heap.size w w':=by
 by_cases h3:3 <= o.k
 ·by_cases h5:o.k <= 5
  ·have HV:=zB (show v = true by rw [hv]; simp [h3,h5])
   clear hv
   go_enter Tryz.func104,Tryz.ntmps104
   go_wp2
   go_ret
   exact ⟨ZA (zA HV).symm,zC _ _⟩
  ·have HV:=zB (show v = false by rw [hv]; simp [h5])
   clear hv
   go_enter Tryz.func104,Tryz.ntmps104
   go_wp2
   go_ret
   exact ⟨ZA (zA HV).symm,zC _ _⟩
 ·have HV:=zB (show v = false by rw [hv]; simp [h3])
  clear hv
  go_enter Tryz.func104,Tryz.ntmps104
  go_wp2
  go_ret
  exact ⟨ZA (zA HV).symm,zC _ _⟩
theorem zCO (b off cap:Nat) (xs:List OpR) (o:zD) (j:Nat) (w:World) (hm:xs.length <= 1048576) (hw:Ops w b off xs) (hB:b < w.heap.size) (h3:3 <= o.k) (h5:o.k <= 5) (hf:fnd xs o.t (o.k - 2) = some j) :
  Calls Tryz.prog 107 #[.agg #[.slice (some ⟨b,off,none⟩) xs.length cap],.agg #[.int .i64 o.k,.string o.t,.int .i64 o.a,.int .i64 o.b]] w fun e w'=>e = .returned (.agg #[.string (atO xs j).s,.int .i64 (atO xs j).k,.int .i64 (atO xs j).l,.int .i64 (atO xs j).sd]) /\ Below w.heap.size w w':=by
 have hj:=(zA0 hf).1
 have hjI:(j:Int) < (xs.length:Int):=by omega
 have HFI:=zB (show fI (fnd xs o.t (o.k - 2)) = (j:Int) by rw [hf]; rfl)
 have HW:=zB hw
 clear hw hf
 have HW3:=zB (show ∀ o1 o2 o3:Obj,zBT (((w.alloc o1).alloc o2).alloc o3).drew b off xs j from fun o1 o2 o3=>((zA HW) j hj).below ((((zC w o1).alloc (by simp) o2).alloc (by simp; omega) o3).drew) hB)
 go_enter Tryz.func107,Tryz.ntmps107
 go_wp2_with fail
 obtain ⟨r0,r1,r2,r3⟩:=(zA HW3) (.cells #[.slice (some ⟨b,off,none⟩) xs.length cap] 55) (.cells #[.int .i64 o.k,.string o.t,.int .i64 o.a,.int .i64 o.b] 120) (.cells #[.string ⟨#[]⟩,.int .i64 0,.int .i64 0,.int .i64 0] 46)
 have HB3:=zB (show ∀ o1 o2 o3:Obj,Below w.heap.size w (((w.alloc o1).alloc o2).alloc o3).drew from fun o1 o2 o3=>(((zC w o1).alloc (by simp) o2).alloc (by simp; omega) o3).drew)
 have hbn1:b ≠ w.heap.size + 1 + 1:=by omega
 have hbn2:w.heap.size + 1 + 1 ≠ b:=by omega
 have HWR:=zB (show IntKind.i64.wrap (o.k - 2) = o.k - 2 by rw [IntKind.wrap_i64]; omega)
 have HSZ:=zB (show ((((w.alloc (.cells #[.slice (some ⟨b,off,none⟩) xs.length cap] 55)).alloc (.cells #[.int .i64 o.k,.string o.t,.int .i64 o.a,.int .i64 o.b] 120)).alloc (.cells #[.string ⟨#[]⟩,.int .i64 0,.int .i64 0,.int .i64 0] 46)).drew).heap.size = w.heap.size + 3 from (show (((w.alloc (.cells #[.slice (some ⟨b,off,none⟩) xs.length cap] 55)).alloc (.cells #[.int .i64 o.k,.string o.t,.int .i64 o.a,.int .i64 o.b] 120)).alloc (.cells #[.string ⟨#[]⟩,.int .i64 0,.int .i64 0,.int .i64 0] 46)).heap.size = w.heap.size + 3 by simp))
 have HLT:=zB (show b < ((((w.alloc (.cells #[.slice (some ⟨b,off,none⟩) xs.length cap] 55)).alloc (.cells #[.int .i64 o.k,.string o.t,.int .i64 o.a,.int .i64 o.b] 120)).alloc (.cells #[.string ⟨#[]⟩,.int .i64 0,.int .i64 0,.int .i64 0] 46)).drew).heap.size by rw [zA HSZ]; omega)
 have HL0:=zB (show w.heap.size < ((((w.alloc (.cells #[.slice (some ⟨b,off,none⟩) xs.length cap] 55)).alloc (.cells #[.int .i64 o.k,.string o.t,.int .i64 o.a,.int .i64 o.b] 120)).alloc (.cells #[.string ⟨#[]⟩,.int .i64 0,.int .i64 0,.int .i64 0] 46)).drew).heap.size by rw [zA HSZ]; omega)
 have HL1:=zB (show w.heap.size + 1 < ((((w.alloc (.cells #[.slice (some ⟨b,off,none⟩) xs.length cap] 55)).alloc (.cells #[.int .i64 o.k,.string o.t,.int .i64 o.a,.int .i64 o.b] 120)).alloc (.cells #[.string ⟨#[]⟩,.int .i64 0,.int .i64 0,.int .i64 0] 46)).drew).heap.size by rw [zA HSZ]; omega)
 have HL2:=zB (show w.heap.size + 1 + 1 < ((((w.alloc (.cells #[.slice (some ⟨b,off,none⟩) xs.length cap] 55)).alloc (.cells #[.int .i64 o.k,.string o.t,.int .i64 o.a,.int .i64 o.b] 120)).alloc (.cells #[.string ⟨#[]⟩,.int .i64 0,.int .i64 0,.int .i64 0] 46)).drew).heap.size by rw [zA HSZ]; omega)
 have HLW:=zB (show w.heap.size <= ((((w.alloc (.cells #[.slice (some ⟨b,off,none⟩) xs.length cap] 55)).alloc (.cells #[.int .i64 o.k,.string o.t,.int .i64 o.a,.int .i64 o.b] 120)).alloc (.cells #[.string ⟨#[]⟩,.int .i64 0,.int .i64 0,.int .i64 0] 46)).drew).heap.size by rw [zA HSZ]; omega)
 have HC0:=zB (show ((((w.alloc (.cells #[.slice (some ⟨b,off,none⟩) xs.length cap] 55)).alloc (.cells #[.int .i64 o.k,.string o.t,.int .i64 o.a,.int .i64 o.b] 120)).alloc (.cells #[.string ⟨#[]⟩,.int .i64 0,.int .i64 0,.int .i64 0] 46)).drew).cell? ⟨w.heap.size,0,none⟩ = some (.slice (some ⟨b,off,none⟩) xs.length cap) /\ ((((w.alloc (.cells #[.slice (some ⟨b,off,none⟩) xs.length cap] 55)).alloc (.cells #[.int .i64 o.k,.string o.t,.int .i64 o.a,.int .i64 o.b] 120)).alloc (.cells #[.string ⟨#[]⟩,.int .i64 0,.int .i64 0,.int .i64 0] 46)).drew).cell? ⟨w.heap.size + 1,0,none⟩ = some (.int .i64 o.k) /\ ((((w.alloc (.cells #[.slice (some ⟨b,off,none⟩) xs.length cap] 55)).alloc (.cells #[.int .i64 o.k,.string o.t,.int .i64 o.a,.int .i64 o.b] 120)).alloc (.cells #[.string ⟨#[]⟩,.int .i64 0,.int .i64 0,.int .i64 0] 46)).drew).cell? ⟨w.heap.size + 1,1,none⟩ = some (.string o.t) from
  (show (((w.alloc (.cells #[.slice (some ⟨b,off,none⟩) xs.length cap] 55)).alloc (.cells #[.int .i64 o.k,.string o.t,.int .i64 o.a,.int .i64 o.b] 120)).alloc (.cells #[.string ⟨#[]⟩,.int .i64 0,.int .i64 0,.int .i64 0] 46)).cell? ⟨w.heap.size,0,none⟩ = some (.slice (some ⟨b,off,none⟩) xs.length cap) /\ (((w.alloc (.cells #[.slice (some ⟨b,off,none⟩) xs.length cap] 55)).alloc (.cells #[.int .i64 o.k,.string o.t,.int .i64 o.a,.int .i64 o.b] 120)).alloc (.cells #[.string ⟨#[]⟩,.int .i64 0,.int .i64 0,.int .i64 0] 46)).cell? ⟨w.heap.size + 1,0,none⟩ = some (.int .i64 o.k) /\ (((w.alloc (.cells #[.slice (some ⟨b,off,none⟩) xs.length cap] 55)).alloc (.cells #[.int .i64 o.k,.string o.t,.int .i64 o.a,.int .i64 o.b] 120)).alloc (.cells #[.string ⟨#[]⟩,.int .i64 0,.int .i64 0,.int .i64 0] 46)).cell? ⟨w.heap.size + 1,1,none⟩ = some (.string o.t) from ⟨by simp [go_sem],by simp [go_sem],by simp [go_sem]⟩))
 have HC2:=zB (show (((((w.alloc (.cells #[.slice (some ⟨b,off,none⟩) xs.length cap] 55)).alloc (.cells #[.int .i64 o.k,.string o.t,.int .i64 o.a,.int .i64 o.b] 120)).alloc (.cells #[.string ⟨#[]⟩,.int .i64 0,.int .i64 0,.int .i64 0] 46)).drew).cell? ⟨w.heap.size + 1 + 1,0,none⟩ = some (.string ⟨#[]⟩) /\ ((((w.alloc (.cells #[.slice (some ⟨b,off,none⟩) xs.length cap] 55)).alloc (.cells #[.int .i64 o.k,.string o.t,.int .i64 o.a,.int .i64 o.b] 120)).alloc (.cells #[.string ⟨#[]⟩,.int .i64 0,.int .i64 0,.int .i64 0] 46)).drew).cell? ⟨w.heap.size + 1 + 1,1,none⟩ = some (.int .i64 0) /\ ((((w.alloc (.cells #[.slice (some ⟨b,off,none⟩) xs.length cap] 55)).alloc (.cells #[.int .i64 o.k,.string o.t,.int .i64 o.a,.int .i64 o.b] 120)).alloc (.cells #[.string ⟨#[]⟩,.int .i64 0,.int .i64 0,.int .i64 0] 46)).drew).cell? ⟨w.heap.size + 1 + 1,2,none⟩ = some (.int .i64 0) /\ ((((w.alloc (.cells #[.slice (some ⟨b,off,none⟩) xs.length cap] 55)).alloc (.cells #[.int .i64 o.k,.string o.t,.int .i64 o.a,.int .i64 o.b] 120)).alloc (.cells #[.string ⟨#[]⟩,.int .i64 0,.int .i64 0,.int .i64 0] 46)).drew).cell? ⟨w.heap.size + 1 + 1,3,none⟩ = some (.int .i64 0)) /\ ∀ q,((((w.alloc (.cells #[.slice (some ⟨b,off,none⟩) xs.length cap] 55)).alloc (.cells #[.int .i64 o.k,.string o.t,.int .i64 o.a,.int .i64 o.b] 120)).alloc (.cells #[.string ⟨#[]⟩,.int .i64 0,.int .i64 0,.int .i64 0] 46)).drew).frozen? ⟨w.heap.size + 1 + 1,q,none⟩ = false from
  (show ((((w.alloc (.cells #[.slice (some ⟨b,off,none⟩) xs.length cap] 55)).alloc (.cells #[.int .i64 o.k,.string o.t,.int .i64 o.a,.int .i64 o.b] 120)).alloc (.cells #[.string ⟨#[]⟩,.int .i64 0,.int .i64 0,.int .i64 0] 46)).cell? ⟨w.heap.size + 1 + 1,0,none⟩ = some (.string ⟨#[]⟩) /\ (((w.alloc (.cells #[.slice (some ⟨b,off,none⟩) xs.length cap] 55)).alloc (.cells #[.int .i64 o.k,.string o.t,.int .i64 o.a,.int .i64 o.b] 120)).alloc (.cells #[.string ⟨#[]⟩,.int .i64 0,.int .i64 0,.int .i64 0] 46)).cell? ⟨w.heap.size + 1 + 1,1,none⟩ = some (.int .i64 0) /\ (((w.alloc (.cells #[.slice (some ⟨b,off,none⟩) xs.length cap] 55)).alloc (.cells #[.int .i64 o.k,.string o.t,.int .i64 o.a,.int .i64 o.b] 120)).alloc (.cells #[.string ⟨#[]⟩,.int .i64 0,.int .i64 0,.int .i64 0] 46)).cell? ⟨w.heap.size + 1 + 1,2,none⟩ = some (.int .i64 0) /\ (((w.alloc (.cells #[.slice (some ⟨b,off,none⟩) xs.length cap] 55)).alloc (.cells #[.int .i64 o.k,.string o.t,.int .i64 o.a,.int .i64 o.b] 120)).alloc (.cells #[.string ⟨#[]⟩,.int .i64 0,.int .i64 0,.int .i64 0] 46)).cell? ⟨w.heap.size + 1 + 1,3,none⟩ = some (.int .i64 0)) /\ ∀ q,(((w.alloc (.cells #[.slice (some ⟨b,off,none⟩) xs.length cap] 55)).alloc (.cells #[.int .i64 o.k,.string o.t,.int .i64 o.a,.int .i64 o.b] 120)).alloc (.cells #[.string ⟨#[]⟩,.int .i64 0,.int .i64 0,.int .i64 0] 46)).frozen? ⟨w.heap.size + 1 + 1,q,none⟩ = false from ⟨⟨by simp [go_sem],by simp [go_sem],by simp [go_sem],by simp [go_sem]⟩,fun q=>by simp [go_sem]⟩))
 go_region_held (fun w'=>w'.cell? ⟨w.heap.size,0,none⟩ = some (.slice (some ⟨b,off,none⟩) xs.length cap) /\ w'.cell? ⟨w.heap.size + 1,0,none⟩ = some (.int .i64 o.k) /\ w'.cell? ⟨w.heap.size + 1,1,none⟩ = some (.string o.t) /\ w'.cell? ⟨b,off + j * 4,none⟩ = some (.string (atO xs j).s) /\ w'.cell? ⟨b,off + j * 4 + 1,none⟩ = some (.int .i64 (atO xs j).k) /\ w'.cell? ⟨b,off + j * 4 + 2,none⟩ = some (.int .i64 (atO xs j).l) /\ w'.cell? ⟨b,off + j * 4 + 3,none⟩ = some (.int .i64 (atO xs j).sd)) (first | (go_keep; done) | (refine ⟨zFs (by omega) ?_,zFs (by omega) ?_,zFs (by omega) ?_,zFs (by omega) ?_,zFs (by omega) ?_,zFs (by omega) ?_,zFs (by omega) ?_⟩ <;> simp [*]))
  (first | (go_at_call 105; have HX:=zDB b off cap xs o.t (o.k - 2) (((w.alloc (.cells #[.slice (some ⟨b,off,none⟩) xs.length cap] 55)).alloc (.cells #[.int .i64 o.k,.string o.t,.int .i64 o.a,.int .i64 o.b] 120)).alloc (.cells #[.string ⟨#[]⟩,.int .i64 0,.int .i64 0,.int .i64 0] 46)).drew hm ((zA HW).below ((zA HB3) _ _ _) hB) (zA HLT); rw [zA HFI] at HX; rw [zA HWR]; refine HX.mono ?_; clear HX; rintro e w2 ⟨rfl,hb2⟩; have q0:=(hb2.cell (p:=⟨w.heap.size,0,none⟩) (zA HL0)).trans (zA HC0).1; have q1:=(hb2.cell (p:=⟨w.heap.size + 1,0,none⟩) (zA HL1)).trans (zA HC0).2.1; have q2:=(hb2.cell (p:=⟨w.heap.size + 1,1,none⟩) (zA HL1)).trans (zA HC0).2.2; have s0:=(hb2.cell (p:=⟨b,off + j * 4,none⟩) (zA HLT)).trans r0; have s1:=(hb2.cell (p:=⟨b,off + j * 4 + 1,none⟩) (zA HLT)).trans r1; have s2:=(hb2.cell (p:=⟨b,off + j * 4 + 2,none⟩) (zA HLT)).trans r2; have s3:=(hb2.cell (p:=⟨b,off + j * 4 + 3,none⟩) (zA HLT)).trans r3; have t0:=(hb2.cell (p:=⟨w.heap.size + 1 + 1,0,none⟩) (zA HL2)).trans (zA HC2).1.1; have t1:=(hb2.cell (p:=⟨w.heap.size + 1 + 1,1,none⟩) (zA HL2)).trans (zA HC2).1.2.1; have t2:=(hb2.cell (p:=⟨w.heap.size + 1 + 1,2,none⟩) (zA HL2)).trans (zA HC2).1.2.2.1; have t3:=(hb2.cell (p:=⟨w.heap.size + 1 + 1,3,none⟩) (zA HL2)).trans (zA HC2).1.2.2.2; have u0:=(hb2.frozen (p:=⟨w.heap.size + 1 + 1,0,none⟩) (zA HL2)).trans ((zA HC2).2 0); have u1:=(hb2.frozen (p:=⟨w.heap.size + 1 + 1,1,none⟩) (zA HL2)).trans ((zA HC2).2 1); have u2:=(hb2.frozen (p:=⟨w.heap.size + 1 + 1,2,none⟩) (zA HL2)).trans ((zA HC2).2 2); have u3:=(hb2.frozen (p:=⟨w.heap.size + 1 + 1,3,none⟩) (zA HL2)).trans ((zA HC2).2 3); have B2:=zB (((zA HB3) _ _ _).trans (hb2.mono (zA HLW))); clear hb2))
 go_wp2
 refine bodyPost_ret (v:=.agg #[.string (atO xs j).s,.int .i64 (atO xs j).k,.int .i64 (atO xs j).l,.int .i64 (atO xs j).sd]) ?res rfl ⟨rfl,?_⟩
 case res=>simp [results,Tryz.results107,go_sem,t0,t1,t2,t3]
 exact zJ (show w.heap.size <= w.heap.size + 1 + 1 by omega) [.string (atO xs j).s,.int .i64 (atO xs j).k,.int .i64 (atO xs j).l,.int .i64 (atO xs j).sd] 0 w2 (zA B2)
theorem zFt (W:World) (s:ByteArray) (k l sd:Int):(Instr.field 46 (.agg #[.string s,.int .i64 k,.int .i64 l,.int .i64 sd]) 2).run Tryz.prog W = .ok (.int .i64 l) W:=by kernel_rfl
theorem zNk {xs:List OpR} {o:zD} {j:Nat} (h3:3 <= o.k) (h5:o.k <= 5) (hf:fnd xs o.t (o.k - 2) = some j):Z2 xs o = (atO xs j).l:=by
 unfold Z2
 rw [if_pos ⟨h3,h5⟩,hf]
theorem zMD {xs:List OpR} {o:zD} (h:¬ (3 <= o.k /\ o.k <= 5)):Z2 xs o = 1001:=by
 unfold Z2
 rw [if_neg h]
theorem zAp (b off cap:Nat) (xs:List OpR) (o:zD) (w:World) (hm:xs.length <= 1048576) (hw:Ops w b off xs) (hB:b < w.heap.size) (hkn:3 <= o.k -> o.k <= 5 -> fnd xs o.t (o.k - 2) ≠ none) :
  Calls Tryz.prog 109 #[.agg #[.slice (some ⟨b,off,none⟩) xs.length cap],.agg #[.int .i64 o.k,.string o.t,.int .i64 o.a,.int .i64 o.b]] w fun e w'=>e = .returned (.int .i64 (Z2 xs o)) /\ Below w.heap.size w w':=by
 by_cases hop:3 <= o.k /\ o.k <= 5
 ·obtain ⟨h3,h5⟩:=hop
  cases hf:fnd xs o.t (o.k - 2) with
  | none=>exact absurd hf (hkn h3 h5)
  | some j=>
   have HL:=zB (zNk h3 h5 hf)
   have HW:=zB hw
   have HF:=zB hf
   have HD:=zB (show true = decide (3 <= o.k /\ o.k <= 5) by simp [h3,h5])
   clear hw hf hkn
   go_enter Tryz.func109,Tryz.ntmps109
   go_wp2_with fail
   refine (zAK o _ true (zA HD)).mono ?_
   rintro e w1 ⟨rfl,hb1⟩
   have bel1:Below w.heap.size w w1:=((zC _ _).alloc (by simp) _).trans (hb1.mono (by simp; omega))
   have c0:w1.cell? ⟨w.heap.size,0,none⟩ = some (.slice (some ⟨b,off,none⟩) xs.length cap):=(hb1.cell (p:=⟨w.heap.size,0,none⟩) (by simp; omega)).trans (by simp [go_sem])
   have d0:w1.cell? ⟨w.heap.size + 1,0,none⟩ = some (.int .i64 o.k):=(hb1.cell (p:=⟨w.heap.size + 1,0,none⟩) (by simp)).trans (by simp [go_sem])
   have d1:w1.cell? ⟨w.heap.size + 1,1,none⟩ = some (.string o.t):=(hb1.cell (p:=⟨w.heap.size + 1,1,none⟩) (by simp)).trans (by simp [go_sem])
   have d2:w1.cell? ⟨w.heap.size + 1,2,none⟩ = some (.int .i64 o.a):=(hb1.cell (p:=⟨w.heap.size + 1,2,none⟩) (by simp)).trans (by simp [go_sem])
   have d3:w1.cell? ⟨w.heap.size + 1,3,none⟩ = some (.int .i64 o.b):=(hb1.cell (p:=⟨w.heap.size + 1,3,none⟩) (by simp)).trans (by simp [go_sem])
   have hB1:b < w1.heap.size:=Nat.lt_of_lt_of_le hB bel1.size
   clear hb1
   go_wp2_with fail
   refine (zCO b off cap xs o j _ hm ((zA HW).below bel1 hB) hB1 h3 h5 (zA HF)).mono ?_
   rintro e w2 ⟨rfl,hb2⟩
   have hfld:=zFt
   go_wp2
   go_ret
   exact ⟨zG (zA HL).symm,bel1.trans (hb2.mono bel1.size)⟩
 ·have HL:=zB (zMD (xs:=xs) hop)
  have HD:=zB (show false = decide (3 <= o.k /\ o.k <= 5) by simp [hop])
  clear hw hop hkn
  go_enter Tryz.func109,Tryz.ntmps109
  go_wp2_with fail
  refine (zAK o _ false (zA HD)).mono ?_
  rintro e w1 ⟨rfl,hb1⟩
  go_wp2_with fail
  go_ret
  exact ⟨zG (zA HL).symm,((zC _ _).alloc (by simp) _).trans (hb1.mono (by simp; omega))⟩
end Go.Proofs.YtgiemobdmbijiaaGreatDoor
namespace Go.Proofs.YtgiemobdmbijiaaGreatDoor
set_option linter.unusedSimpArgs false
set_option linter.unusedVariables false
set_option maxHeartbeats 16000000
set_option maxRecDepth 100000
open Go.RowKit
def Cs (cs:List (Nat × Nat × Value)) (w:World):Prop:=∀ p ∈ cs,w.cell? ⟨p.1,p.2.1,none⟩ = some p.2.2
theorem Cs.below {cs:List (Nat × Nat × Value)} {w w':World} (h:Cs cs w) (hb:Below w.heap.size w w'):Cs cs w':=
 fun p hp=>(hb.cell (p:=⟨p.1,p.2.1,none⟩) (block_lt_of_cell (h p hp))).trans (h p hp)
theorem zFu {B:Nat} {a w w':World} (h:Below B a w) (h1:w'.os = w.os) (h2:w'.tape = w.tape) (h3:w'.output = w.output) (h4:w'.heap = w.heap):Below B a w':=
 ⟨h1.trans h.os,h2.trans h.tape,h3.trans h.output,by rw [h4]; exact h.size,fun i hi=>by rw [h4]; exact h.block i hi⟩
theorem zFv {xs:List OpR} {ns:List zD} {i j:Nat} (ho:zAo (atN ns i)) (hf:fnd xs (atN ns i).t ((atN ns i).k - 2) = some j) :
  zFi xs ns i ↔ zDN xs j false <= Z2 xs (atN ns (atN ns i).a.toNat) /\ (zY (atN ns i).k = 1 \/ zDN xs j true <= Z2 xs (atN ns (atN ns i).b.toNat)):=by
 constructor
 ·intro h; exact h j ho hf
 ·intro h j' _ hf'
  rw [hf] at hf'
  injection hf' with hf'
  subst hf'
  exact h
def hT:ET -> Nat
 | .nil=>0
 | .node _ _ _ l r=>1 + max (hT l) (hT r)
theorem zKj:∀ T:ET,hT T <= tsz T
 | .nil=>Nat.le_refl _
 | .node _ _ _ l r=>by
  have:=zKj l
  have:=zKj r
  simp only [hT,tsz]
  omega
theorem zOs {ns:List OpR} {b:Nat} {t:ByteArray} (hb:b = 3 \/ b = 4 \/ b = 5) (hk:knB ns (b,t) = true):sLv ns (b,t) = (opA ns (rt b t)).l:=by
 unfold knB at hk
 unfold sLv Z2 opA
 have hbk:3 <= (rt b t).k /\ (rt b t).k <= 5:=by simp only [rt]; omega
 simp only [if_pos hbk]
 have e:fnd ns (rt b t).t ((rt b t).k - 2) = fnd ns t ((b:Int) - 2):=rfl
 rw [e]
 cases h:fnd ns t ((b:Int) - 2) with
 | none=>simp only [h] at hk; cases hk
 | some j=>rfl
end Go.Proofs.YtgiemobdmbijiaaGreatDoor
namespace Go.Proofs.YtgiemobdmbijiaaGreatDoor
set_option maxHeartbeats 16000000
set_option maxRecDepth 100000
open Go.RowKit Go.Maps
end Go.Proofs.YtgiemobdmbijiaaGreatDoor
namespace Go.Proofs.YtgiemobdmbijiaaGreatDoor
set_option linter.unusedSimpArgs false
set_option linter.unusedVariables false
set_option maxHeartbeats 16000000
set_option maxRecDepth 100000
open Go.RowKit Go.Maps
end Go.Proofs.YtgiemobdmbijiaaGreatDoor
namespace Go.Proofs.YtgiemobdmbijiaaGreatDoor
set_option linter.unusedSimpArgs false
set_option linter.unusedVariables false
set_option maxHeartbeats 16000000
set_option maxRecDepth 100000
open Go.RowKit
end Go.Proofs.YtgiemobdmbijiaaGreatDoor
namespace Go.Proofs.YtgiemobdmbijiaaGreatDoor
set_option linter.unusedSimpArgs false
set_option linter.unusedVariables false
set_option maxHeartbeats 16000000
set_option maxRecDepth 100000
open Go.RowKit Go.Maps
end Go.Proofs.YtgiemobdmbijiaaGreatDoor
namespace Go.Proofs.YtgiemobdmbijiaaGreatDoor
set_option linter.unusedSimpArgs false
set_option linter.unusedVariables false
set_option maxHeartbeats 16000000
set_option maxRecDepth 100000
open Go.RowKit
theorem zFw {ns:List OpR} {s:ByteArray}:∀ (ts:List zT) (i:Nat),zAx ns s i ts -> 0 < ts.length /\ (atT ts (ts.length - 1)).k = 7
 | [],_,h=>h.elim
 | t :: out,i,h=>by
  rcases h with ⟨rfl,_,_,rfl⟩ | ⟨p,n,k,_,_,_,_,_,rfl,hr⟩
  ·exact ⟨by simp,rfl⟩
  ·obtain ⟨h1,h2⟩:=zFw out _ hr
   refine ⟨by simp,?_⟩
   have e:(⟨(k:Int),s.extract i p,s.extract p (p + n)⟩ :: out:List zT).length - 1 = (out.length - 1) + 1:=by simp; omega
   rw [e]
   exact h2
theorem zFx {ns:List OpR} {s:ByteArray}:∀ (ts:List zT) (i:Nat),zAx ns s i ts -> ∀ j,j < ts.length -> (atT ts j).g.size <= s.size /\ (atT ts j).t.size <= s.size
 | [],_,h,_,_=>h.elim
 | t :: out,i,h,j,hj=>by
  rcases h with ⟨rfl,_,_,rfl⟩ | ⟨p,n,k,_,_,_,_,_,rfl,hr⟩
  ·have:j = 0:=by simp at hj; omega
   subst this
   refine ⟨?_,?_⟩
   ·simp [atT,ByteArray.size_extract]
   ·simp [atT]
    exact Nat.zero_le _
  ·cases j with
   | zero=>exact ⟨by simp [atT,ByteArray.size_extract]; omega,by simp [atT,ByteArray.size_extract]; omega⟩
   | succ j=>exact zFx out _ hr j (by simpa using hj)
end Go.Proofs.YtgiemobdmbijiaaGreatDoor
namespace Go.Proofs.YtgiemobdmbijiaaGreatDoor
set_option maxHeartbeats 16000000
set_option maxRecDepth 100000
open Go.RowKit Go.Shelf
end Go.Proofs.YtgiemobdmbijiaaGreatDoor
namespace Go.Proofs.YtgiemobdmbijiaaGreatDoor
set_option maxHeartbeats 16000000
set_option maxRecDepth 100000
open Go.RowKit
end Go.Proofs.YtgiemobdmbijiaaGreatDoor
