import Derived.Deep.RegionHeld
import Derived.OwnWalk
import Derived.Laws.OwnMore
import Derived.Maps.AppendAt
import Derived.Deep.QuietTactic
import Derived.BigQuiet
import Derived.WalkSmall
import Derived.Test.YtgiemobdmbijiaaGreatDoorN00
import Derived.Test.YtgiemobdmbijiaaGreatDoorN01
import Derived.Test.YtgiemobdmbijiaaGreatDoorN02
import Derived.Test.YtgiemobdmbijiaaGreatDoorN05
import Derived.Test.YtgiemobdmbijiaaGreatDoorN07
import Derived.Test.YtgiemobdmbijiaaGreatDoorN08
import Derived.Test.YtgiemobdmbijiaaGreatDoorN09
import Derived.Test.YtgiemobdmbijiaaGreatDoorN11
import Derived.Test.YtgiemobdmbijiaaGreatDoorN12
namespace Go.Proofs.YtgiemobdmbijiaaGreatDoor
set_option linter.unusedSimpArgs false
set_option linter.unusedVariables false
set_option maxHeartbeats 16000000
set_option maxRecDepth 100000
open Go.RowKit
def zJn (ts:List zT) (i:Nat):Nat:=Zp ts i + (atT ts i).g.size
theorem zIq {ts:List zT} {i j:Nat} (h:j < i):atT (ts.take i) j = atT ts j:=by
 simp [atT,List.getD,List.getElem?_take,h]
theorem zFy (ts:List zT) (i:Nat):∀ k,k <= i -> Zp (ts.take i) k = Zp ts k
 | 0,_=>rfl
 | k + 1,h=>by
  simp only [Zp]
  rw [zFy ts i k (by omega),zIq (by omega)]
end Go.Proofs.YtgiemobdmbijiaaGreatDoor
namespace Go.Proofs.YtgiemobdmbijiaaGreatDoor
set_option linter.unusedSimpArgs false
set_option linter.unusedVariables false
set_option maxHeartbeats 16000000
set_option maxRecDepth 100000
def zOt (ns:List OpR) (ts:List zT) (us:List zD) (c p:Int):Prop:=
 (RD ns 0 none (sgs ns ts 0 ts.length) = none /\ us = [] /\ c = 5 /\ p = 0) \/
 ∃ T r,RD ns 0 none (sgs ns ts 0 ts.length) = some (T,r) /\ ((1000 < hT T /\ us = [] /\ c = 6 /\ p = 0) \/ (hT T <= 1000 /\ us = nd T 0 /\ c = 0 /\ p = 0))
def zOu (ns:List OpR) (ts:List zT) (us:List zD) (c p:Int):Prop:=
 (∃ i,i < ts.length /\ (atT ts i).k = 6 /\ (∀ j,j < i -> (atT ts j).k ≠ 6) /\ us = [] /\ c = 3 /\ p = (zJn ts i:Int)) \/
 ((∀ j,j < ts.length -> (atT ts j).k ≠ 6) /\
  ((∃ i,i < ts.length /\ zCX ns ts i /\ zd ns ts i < 0 /\ us = [] /\ c = 4 /\ p = (zJn ts i:Int)) \/ (zCX ns ts ts.length /\ zOt ns ts us c p)))
def zCP (ns:List OpR) (s:ByteArray) (us:List zD) (c p:Int):Prop:=
 (¬ zZ ns 0 /\ us = [] /\ c = 1 /\ p = 0) \/
 (zZ ns 0 /\ ((20000 < s.size /\ us = [] /\ c = 2 /\ p = 0) \/ (s.size <= 20000 /\ ∃ ts,zAx ns s 0 ts /\ zOu ns ts us c p)))
end Go.Proofs.YtgiemobdmbijiaaGreatDoor
namespace Go.Proofs.YtgiemobdmbijiaaGreatDoor
set_option linter.unusedSimpArgs false
set_option linter.unusedVariables false
set_option maxHeartbeats 16000000
set_option maxRecDepth 100000
open Go.RowKit
open Go.Deep (BT)
end Go.Proofs.YtgiemobdmbijiaaGreatDoor
namespace Go.Proofs.YtgiemobdmbijiaaGreatDoor
set_option linter.unusedSimpArgs false
set_option linter.unusedVariables false
set_option maxHeartbeats 16000000
set_option maxRecDepth 100000
open Go.RowKit
end Go.Proofs.YtgiemobdmbijiaaGreatDoor
namespace Go.Proofs.YtgiemobdmbijiaaGreatDoor
set_option linter.unusedSimpArgs false
set_option linter.unusedVariables false
set_option maxHeartbeats 16000000
set_option maxRecDepth 100000
open Go.RowKit
open Go.Deep (BT)
def moT (bs:List UInt8):ET -> Nat -> Nat × ET
 | .nil,p=>(p,.nil)
 | .node b _ t l r,p=>
  (adv bs (moT bs r (moT bs l p).1).1,
   if nxt bs (moT bs r (moT bs l p).1).1 % 6 = 5 then .node 6 0 ByteArray.empty (.node b 0 t (moT bs l p).2 (moT bs r (moT bs l p).1).2) .nil
   else .node b 0 t (moT bs l p).2 (moT bs r (moT bs l p).1).2)
theorem zFz (bs:List UInt8):∀ (T:ET) (p:Nat),tsz T <= tsz (moT bs T p).2 /\ tsz (moT bs T p).2 <= 2 * tsz T
 | .nil,p=>⟨Nat.le_refl _,Nat.zero_le _⟩
 | .node b o t l r,p=>by
  have h1:=zFz bs l p
  have h2:=zFz bs r (moT bs l p).1
  simp only [moT]
  split <;> simp only [tsz] <;> omega
theorem zHq (bs:List UInt8):∀ (T:ET) (p:Nat),Sh T -> Sh (moT bs T p).2
 | .nil,p,h=>h.elim
 | .node b o t l r,p,⟨_,h⟩=>by
  have hn:Sh (.node b 0 t (moT bs l p).2 (moT bs r (moT bs l p).1).2):=by
   refine ⟨rfl,?_⟩
   rcases h with ⟨hk,rfl,rfl⟩ | ⟨hk,hl,rfl⟩ | ⟨hk,hl,hr⟩
   ·exact Or.inl ⟨hk,rfl,rfl⟩
   ·exact Or.inr (Or.inl ⟨hk,zHq bs l p hl,rfl⟩)
   ·exact Or.inr (Or.inr ⟨hk,zHq bs l p hl,zHq bs r _ hr⟩)
  simp only [moT]
  split
  ·exact ⟨rfl,Or.inr (Or.inl ⟨by decide,hn,rfl⟩)⟩
  ·exact hn
def TxL (n:Nat):ET -> Prop
 | .nil=>True
 | .node _ _ t l r=>t.size <= n /\ TxL n l /\ TxL n r
theorem zHr (bs:List UInt8) (n:Nat):∀ (T:ET) (p:Nat),TxL n T -> TxL n (moT bs T p).2
 | .nil,p,h=>trivial
 | .node b o t l r,p,⟨h0,h1,h2⟩=>by
  have hn:TxL n (.node b 0 t (moT bs l p).2 (moT bs r (moT bs l p).1).2):=⟨h0,zHr bs n l p h1,zHr bs n r _ h2⟩
  simp only [moT]
  split
  ·exact ⟨Nat.zero_le _,hn,trivial⟩
  ·exact hn
theorem zEZ (n:Nat):∀ (T:ET) (s:Nat),(∀ o ∈ nd T s,o.t.size <= n) -> TxL n T
 | .nil,s,h=>trivial
 | .node b o t l r,s,h=>by
  simp only [nd,List.mem_append,List.mem_singleton] at h
  refine ⟨?_,zEZ n l s fun x hx=>h x (Or.inl (Or.inl hx)),zEZ n r _ fun x hx=>h x (Or.inl (Or.inr hx))⟩
  have:=h (tN b t l r s) (Or.inr rfl)
  simpa [tN] using this
theorem zFO (ns:List OpR) (n b:Nat) (t:ByteArray) (l:Int) (T:ET) (h:TxL n T):TxL n (clT ns b t l T):=by
 unfold clT
 split
 ·exact ⟨Nat.zero_le _,h,trivial⟩
 ·exact h
def wdT (T:ET):List ByteArray:=(ySy T).map (·.2)
theorem zFP:∀ (T:ET),(wdT T).length <= 2 * tsz T
 | .nil=>Nat.zero_le _
 | .node b o t l r=>by
  have h1:=zFP l
  have h2:=zFP r
  simp only [wdT,List.length_map] at h1 h2 ⊢
  simp only [ySy,tsz]
  split
  ·simp; omega
  ·split
   ·simp; omega
   ·split
    ·simp; omega
    ·split
     ·simp; omega
     ·simp; omega
theorem zJo {n:Nat} (hn:1 <= n):∀ (T:ET),TxL n T -> ∀ s ∈ wdT T,s.size <= n
 | .nil,h=>fun s hs=>by simp [wdT,ySy] at hs
 | .node b o t l r,⟨h0,h1,h2⟩=>by
  have i1:=zJo hn l h1
  have i2:=zJo hn r h2
  have c1:opn.size <= n:=hn
  have c2:zBw.size <= n:=hn
  simp only [wdT] at i1 i2 ⊢
  simp only [ySy]
  intro s hs
  split at hs
  ·simp only [List.map_cons,List.map_append,List.map_nil,List.mem_cons,List.mem_append,List.mem_singleton,List.not_mem_nil,or_false] at hs
   rcases hs with rfl | hs | rfl
   ·exact c1
   ·exact i1 s hs
   ·exact c2
  ·split at hs
   ·simp only [List.map_cons,List.mem_cons] at hs
    rcases hs with rfl | hs
    ·exact h0
    ·exact i1 s hs
   ·split at hs
    ·simp only [List.map_cons,List.map_append,List.map_nil,List.mem_cons,List.mem_append,List.mem_singleton,List.not_mem_nil,or_false] at hs
     rcases hs with hs | rfl
     ·exact i1 s hs
     ·exact h0
    ·split at hs
     ·simp only [List.map_cons,List.map_append,List.map_nil,List.mem_cons,List.mem_append] at hs
      rcases hs with hs | rfl | hs
      ·exact i1 s hs
      ·exact h0
      ·exact i2 s hs
     ·simp only [List.map_cons,List.map_nil,List.mem_singleton] at hs
      subst hs
      exact h0
def nmK (k:Nat):ByteArray:=(⟨#[97]⟩:ByteArray) ++ (⟨#[49,50,51]⟩:ByteArray).extract 0 (k / 8 % 4)
def lnF (bs:List UInt8) (ns:List OpR):Nat -> List ByteArray -> Bool -> Nat -> Nat -> List ByteArray × Nat
 | 0,ws,_,_,p=>(ws,p)
 | f + 1,ws,bh,op,p=>
  if ¬ ((ws.length < 30 /\ p < bs.length) \/ bh = false \/ 0 < op) then (ws,p)
  else if bh = false then
   if nxt bs p % 8 = 1 /\ ws.length < 30 then lnF bs ns f (ws ++ [⟨#[40]⟩]) false (op + 1) (adv bs p)
   else if 4 < nxt bs p % 8 /\ (atO ns (nxt bs p / 8 % ns.length)).k = 1 then lnF bs ns f (ws ++ [(atO ns (nxt bs p / 8 % ns.length)).s]) false op (adv bs p)
   else lnF bs ns f (ws ++ [nmK (nxt bs p)]) true op (adv bs p)
  else if 0 < op /\ (nxt bs p % 8 = 0 \/ 30 <= ws.length \/ bs.length <= adv bs p) then lnF bs ns f (ws ++ [⟨#[41]⟩]) true (op - 1) (adv bs p)
  else if (atO ns (nxt bs p / 8 % ns.length)).k = 3 then lnF bs ns f (ws ++ [(atO ns (nxt bs p / 8 % ns.length)).s]) true op (adv bs p)
  else if (atO ns (nxt bs p / 8 % ns.length)).k = 2 then lnF bs ns f (ws ++ [(atO ns (nxt bs p / 8 % ns.length)).s]) false op (adv bs p)
  else if bs.length <= adv bs p then (ws,adv bs p)
  else lnF bs ns f ws true op (adv bs p)
def lnM (bs:List UInt8) (bh:Bool) (op p:Nat):Nat:=3 * (bs.length - p) + op + (if bh = true then 0 else 1)
def gnW (bs:List UInt8) (ns:List OpR) (p:Nat):Nat × List zD:=gen bs ns false (2 + nxt bs p % 5) (adv bs p) []
def zOv (bs:List UInt8) (ns:List OpR) (p:Nat) (ws:List ByteArray) (q:Nat):Prop:=
 (nxt bs p % 4 = 3 /\ lnF bs ns 3601 [] false 0 (adv bs p) = (ws,q)) \/
 (nxt bs p % 4 ≠ 3 /\ ∃ gs v,zHh ns (gnW bs ns (adv bs p)).2 gs v /\ ((v = false /\ ws = [⟨#[97]⟩] /\ q = (gnW bs ns (adv bs p)).1) \/
  (v = true /\ ∃ T,Sh T /\ gs = nd T 0 /\ ws = wdT (moT bs T (gnW bs ns (adv bs p)).1).2 /\ q = (moT bs T (gnW bs ns (adv bs p)).1).1)))
theorem zJp {ns:List OpR} {xs gs:List zD} (hx:xs.length <= 127) (h16:∀ o ∈ xs,o.t.size <= 16) (h:zHh ns xs gs true):∃ T,Sh T /\ gs = nd T 0 /\ tsz T <= 254 /\ TxL 16 T:=by
 rcases h with ⟨⟨⟨_,ho,_⟩,_⟩,_,rfl⟩ | ⟨_,hv,_⟩
 ·obtain ⟨T,hs,hz,hxs⟩:=zIe ho
  have hp:=hs.pos
  have hl:zFA xs T 0:=by rw [hxs]; exact zEU T
  have e:=zNd ns xs T 0 hs hl 0 0
  have e0:0 + tsz T - 1 = xs.length - 1:=by omega
  rw [e0] at e
  have hf:=zBo T 0 hs hl
  rw [e0] at hf
  have hg:=zCH ns xs (xs.length) (xs.length - 1) 0 (by omega) hf 0 0
  rw [e,ZI] at hg
  refine ⟨grT ns T 0,zOm ns T 0 hs,e,by omega,?_⟩
  have h0:TxL 16 T:=zEZ 16 T 0 (by rw [<- hxs]; exact h16)
  have:∀ (T:ET) (l:Int),TxL 16 T -> TxL 16 (grT ns T l):=by
   intro T
   induction T with
   | nil=>intro l _; exact trivial
   | node b o t l r ihl ihr=>
    rintro k ⟨a0,a1,a2⟩
    simp only [grT]
    split
    ·first | exact ihl _ a1 | exact ihl k a1
    ·first | exact zFO _ _ _ _ _ _ ⟨a0,ihl _ a1,ihr _ a2⟩ | (split <;> first | exact zFO _ _ _ _ _ _ ⟨a0,trivial,trivial⟩ | exact zFO _ _ _ _ _ _ ⟨a0,ihl _ a1,trivial⟩ | exact zFO _ _ _ _ _ _ ⟨a0,ihl _ a1,ihr _ a2⟩)
  exact this T 0 h0
 ·cases hv
theorem zME:∀ {T:ET},Sh T -> 1 <= (ySy T).length
 | .nil,h=>h.elim
 | .node b o t l r,⟨_,h⟩=>by
  simp only [ySy]
  split
  ·simp
  ·split
   ·simp
   ·split
    ·simp
    ·split
     ·simp; omega
     ·simp
end Go.Proofs.YtgiemobdmbijiaaGreatDoor
namespace Go.Proofs.YtgiemobdmbijiaaGreatDoor
set_option linter.unusedSimpArgs false
set_option linter.unusedVariables false
set_option maxHeartbeats 16000000
set_option maxRecDepth 100000
open Go.RowKit
def zDX (k:Nat):ByteArray:=if k % 5 = 0 then ⟨#[32]⟩ else if k % 5 = 2 then ⟨#[10,9]⟩ else if k % 5 = 3 then ⟨#[32,32]⟩ else ⟨#[]⟩
theorem zBW (k:Nat):(zDX k).size <= 2:=by
 unfold zDX
 repeat' split
 all_goals decide
theorem zMF (W:World) (c:Int):(convert 22 9 (.slice (some ⟨W.heap.size,0,none⟩) 1 1)).run Tryz.prog (W.alloc (.cells #[.int .u8 c] 5)) = .ok (.string ⟨#[UInt8.ofNat c.toNat]⟩) (W.alloc (.cells #[.int .u8 c] 5)):=by
 rw [run_convert_bytes_string _ 22 9 5 _ _ _ Tryz.underlying22 Tryz.underlying5 Tryz.underlying9]
 have hl:(loadCells ⟨W.heap.size,0,none⟩ 1).run Tryz.prog (W.alloc (.cells #[.int .u8 c] 5)) = .ok ([c].map (Value.int .u8)).toArray (W.alloc (.cells #[.int .u8 c] 5)):=
  run_loadCells_list (P:=Tryz.prog) _ ⟨W.heap.size,0,none⟩ [.int .u8 c] (fun j v hv=>by
   match j,hv with
   | 0,hv=>simp at hv; subst hv; simp [Addr.add,go_sem])
 rw [run_bytesToString _ ⟨W.heap.size,0,none⟩ 1 1 [c] hl]
 rfl
def zAU (xs:List OpR) (bs:List UInt8) (p:Nat):ByteArray:=
 if nxt bs p % 8 < 4 /\ 0 < xs.length then (atO xs (nxt bs p / 8 % xs.length)).s
 else if nxt bs p % 8 = 4 then ⟨#[40]⟩ else if nxt bs p % 8 = 5 then ⟨#[41]⟩
 else if nxt bs p % 8 = 6 then (⟨#[97,49,95,98]⟩:ByteArray).extract 0 (1 + nxt bs p / 8 % 4)
 else if 240 <= nxt bs p then txN (nxt bs p)
 else if 224 <= nxt bs p then ⟨#[(nxt bs (adv bs p)).toUInt8]⟩
 else (⟨#[49,48,50,55]⟩:ByteArray).extract (nxt bs p / 8 % 4) 4
def zA3 (xs:List OpR) (bs:List UInt8) (p:Nat):Nat:=
 if nxt bs p % 8 < 4 /\ 0 < xs.length then adv bs p
 else if nxt bs p % 8 = 4 then adv bs p else if nxt bs p % 8 = 5 then adv bs p
 else if nxt bs p % 8 = 6 then adv bs p
 else if 240 <= nxt bs p then adv bs p
 else if 224 <= nxt bs p then adv bs (adv bs p)
 else adv bs p
def zH (l:List ByteArray):List Value:=l.map fun s=>.string s
theorem zAc (l l':List ByteArray):zH (l ++ l') = zH l ++ zH l':=by simp [zH]
theorem zS (l:List ByteArray):∀ u ∈ zH l,u.oneCell' = true:=by
 intro u hu
 simp only [zH,List.mem_map] at hu
 obtain ⟨b,_,rfl⟩:=hu
 rfl
theorem zCQ:(Tryz.prog.info? 9).map (fun i=>(i.zero,i.size,i.bytes)) = some (some (.string ⟨#[]⟩),1,16):=by kernel_rfl
theorem ZL (w:World) (t:ByteArray):∀ j u,(zH [t])[j]? = some u -> (w.alloc (.cells #[.string t] 9)).cell? ((⟨w.heap.size,0,none⟩:Addr).add j) = some u:=by
 intro j u hj
 rw [Addr.add_mid]
 have:=World.rangeAt_of_block (w:=w.alloc (.cells #[.string t] 9)) (b:=w.heap.size) (heap_alloc_new w _) 0 1
 exact this j u (by simpa [zH] using hj)
def za (w:World) (B:Nat) (v:Value) (ps:List ByteArray):Prop:=w.ownsRow B 9 1 v ps.length (zH ps)
theorem zV {w:World} {B n:Nat} {e:TypeId} {size:Nat} {u:Value} {xs:List Value} (h:w.ownsRow B e size u n xs):∃ a c,u = .slice a n c:=by
 obtain ⟨_,⟨rfl,rfl⟩ | ⟨g,cap,cur,rfl,_⟩⟩:=h
 ·exact ⟨none,0,rfl⟩
 ·exact ⟨_,_,rfl⟩
theorem za.grown {w w':World} {B:Nat} {u:Value} {us:List ByteArray} {row:Option Nat} (h:za w B u us) (hg:w.grownBy w' row) (hne:∀ k,u.ownBlock = some k -> row ≠ some k):za w' B u us:=
 World.ownsRow.kept h hg (by
  cases e:u.ownBlock with
  | none=>exact Or.inl rfl
  | some k=>exact Or.inr (fun x=>hne k e x.symm))
theorem za.below {w w':World} {B:Nat} {u:Value} {us:List ByteArray} (h:za w B u us) (hb:Below w.heap.size w w'):za w' B u us:=
 h.grown (row:=none) ⟨hb.os,hb.tape,hb.output,hb.size,fun i hi _=>hb.block i hi⟩ (fun k _ e=>by cases e)
theorem za.lt {w:World} {B:Nat} {u:Value} {us:List ByteArray} (h:za w B u us):∀ g,u.ownBlock = some g -> B <= g /\ g < w.heap.size:=fun g hg=>World.ownsRow.lt h g hg
theorem za.cells {w:World} {B g n c:Nat} {us:List ByteArray} (h:za w B (.slice (some ⟨g,0,none⟩) n c) us):∀ (j:Nat) x,us[j]? = some x -> w.cell? ⟨g,0 + j,none⟩ = some (.string x):=by
 intro j x hj
 have hl:j < us.length:=(List.getElem?_eq_some_iff.1 hj).1
 obtain ⟨_,⟨h1,_⟩ | ⟨g',cap,cur,h1,h2⟩⟩:=h
 ·cases h1
 ·have hh:za w B (.slice (some ⟨g',0,none⟩) us.length cap) us:=⟨by assumption,Or.inr ⟨g',cap,cur,rfl,h2⟩⟩
  simp only [Value.slice.injEq,Option.some.injEq,Addr.mk.injEq] at h1
  obtain ⟨⟨rfl,_⟩,_⟩:=h1
  rw [Nat.zero_add,World.ownsRow.cellAt hh j (by omega)]
  simp [zH,hj]
theorem zDY (rp cap p:Nat) (a:Option Addr) (bs:List UInt8) (w:World) (h:RdF w rp a cap bs p) (hl:bs.length <= 1200) :
  Calls Tryz.prog 54 #[.pointer (some ⟨rp,0,none⟩)] w fun e w'=>(∃ g:ByteArray,e = .returned (.string g) /\ Hid (g = zDX (nxt bs p))) /\ Hid (RdF w' rp a cap bs (adv bs p)) /\ Hid (zF w w' rp):=by
 have H:=zB h
 clear h
 go_enter Tryz.func54,Tryz.ntmps54
 go_wp2_with fail
 refine (zL rp cap p a bs _ (zA H) hl).mono ?_
 rintro e w1 ⟨⟨k,rfl,hk,HK⟩,H1,HP1⟩
 clear H
 have hcs:k % 5 = 0 \/ k % 5 = 1 \/ k % 5 = 2 \/ k % 5 = 3 \/ k % 5 = 4:=by omega
 rcases hcs with hc | hc | hc | hc | hc
 ·have HC:=zB hc
  have e0:((k:Int) % 5 == 0) = true:=by simp; omega
  clear hc
  go_wp2_with fail
  go_ret
  exact ⟨⟨_,rfl,zB (by rw [<- zA HK]; simp [zDX,zA HC])⟩,H1,HP1⟩
 ·have HC:=zB hc
  have e0:((k:Int) % 5 == 0) = false:=by simp; omega
  have e1:((k:Int) % 5 == 1) = true:=by simp; omega
  clear hc
  go_wp2_with fail
  go_ret
  exact ⟨⟨_,rfl,zB (by rw [<- zA HK]; simp [zDX,zA HC])⟩,H1,HP1⟩
 ·have HC:=zB hc
  have e0:((k:Int) % 5 == 0) = false:=by simp; omega
  have e1:((k:Int) % 5 == 1) = false:=by simp; omega
  have e2:((k:Int) % 5 == 2) = true:=by simp; omega
  clear hc
  go_wp2_with fail
  go_ret
  exact ⟨⟨_,rfl,zB (by rw [<- zA HK]; simp [zDX,zA HC])⟩,H1,HP1⟩
 ·have HC:=zB hc
  have e0:((k:Int) % 5 == 0) = false:=by simp; omega
  have e1:((k:Int) % 5 == 1) = false:=by simp; omega
  have e2:((k:Int) % 5 == 2) = false:=by simp; omega
  have e3:((k:Int) % 5 == 3) = true:=by simp; omega
  clear hc
  go_wp2_with fail
  go_ret
  exact ⟨⟨_,rfl,zB (by rw [<- zA HK]; simp [zDX,zA HC])⟩,H1,HP1⟩
 ·have HC:=zB hc
  have e0:((k:Int) % 5 == 0) = false:=by simp; omega
  have e1:((k:Int) % 5 == 1) = false:=by simp; omega
  have e2:((k:Int) % 5 == 2) = false:=by simp; omega
  have e3:((k:Int) % 5 == 3) = false:=by simp; omega
  clear hc
  go_wp2_with fail
  go_ret
  exact ⟨⟨_,rfl,zB (by rw [<- zA HK]; simp [zDX,zA HC])⟩,H1,HP1⟩
def zDO (a b:ByteArray):Bool:=
 if a.size = 0 \/ b.size = 0 then false
 else if sgB (a.data.getD 0 0) = true \/ sgB (b.data.getD 0 0) = true then (sgB (a.data.getD 0 0) && sgB (b.data.getD 0 0))
 else decide (a ≠ ⟨#[40]⟩ /\ a ≠ ⟨#[41]⟩ /\ b ≠ ⟨#[40]⟩ /\ b ≠ ⟨#[41]⟩)
theorem zDZ (a b:ByteArray) (w:World) :
  Calls Tryz.prog 55 #[.string a,.string b] w fun e w'=>e = .returned (.bool (zDO a b)) /\ w' = w:=by
 by_cases ha:a.size = 0
 ·have ea:a = ⟨#[]⟩:=ByteArray.size_eq_zero_iff.1 ha
  have hm:zDO a b = false:=by unfold zDO; rw [if_pos (Or.inl ha)]
  rw [hm]
  subst ea
  go_enter Tryz.func55,Tryz.ntmps55
  go_wp2_with fail
  go_ret
  exact ⟨rfl,rfl⟩
 by_cases hb:b.size = 0
 ·have eb:b = ⟨#[]⟩:=ByteArray.size_eq_zero_iff.1 hb
  have hm:zDO a b = false:=by unfold zDO; rw [if_pos (Or.inr hb)]
  rw [hm]
  have na:¬ a = ⟨#[]⟩:=fun e=>ha (by rw [e]; rfl)
  have na':¬ a.toList = []:=fun e=>na (Z8 (by rw [e,ByteArray.toList_eq]))
  subst eb
  clear ha hb
  go_enter Tryz.func55,Tryz.ntmps55
  go_wp2_with fail
  go_ret
  exact ⟨rfl,rfl⟩
 have na:¬ a = ⟨#[]⟩:=fun e=>ha (by rw [e]; rfl)
 have na':¬ a.toList = []:=fun e=>na (Z8 (by rw [e,ByteArray.toList_eq]))
 have nb:¬ b = ⟨#[]⟩:=fun e=>hb (by rw [e]; rfl)
 have nb':¬ b.toList = []:=fun e=>nb (Z8 (by rw [e,ByteArray.toList_eq]))
 have la:(0:Int) < (a.size:Int):=by omega
 have lb:(0:Int) < (b.size:Int):=by omega
 have la0:0 < a.size:=by omega
 have lb0:0 < b.size:=by omega
 have xa:a.data.getD 0 0 = a[0]:=by
  show a.data.getD 0 0 = a.data[0]
  unfold Array.getD
  rw [dif_pos (show 0 < a.data.size from la0)]
  rfl
 have xb:b.data.getD 0 0 = b[0]:=by
  show b.data.getD 0 0 = b.data[0]
  unfold Array.getD
  rw [dif_pos (show 0 < b.data.size from lb0)]
  rfl
 have hm:zDO a b = if sgB a[0] = true \/ sgB b[0] = true then (sgB a[0] && sgB b[0]) else decide (a ≠ ⟨#[40]⟩ /\ a ≠ ⟨#[41]⟩ /\ b ≠ ⟨#[40]⟩ /\ b ≠ ⟨#[41]⟩):=by unfold zDO; rw [if_neg (by omega),xa,xb]
 obtain ⟨M,HM⟩:∃ M,Hid (zDO a b = M):=⟨_,zB rfl⟩
 rw [zA HM]
 have HE:=zB (hm.symm.trans (zA HM))
 have ea:a.toList.isEmpty = false:=by cases h:a.toList with | nil=>exact absurd h na' | cons x r=>rfl
 have eb:b.toList.isEmpty = false:=by cases h:b.toList with | nil=>exact absurd h nb' | cons x r=>rfl
 clear hm xa xb
 cases ca:sgB a[0] with
 | true=>
  cases cb:sgB b[0] with
  | true=>
   have HV:=zB (show M = true by rw [<- zA HE,ca,cb]; rfl)
   go_enter Tryz.func55,Tryz.ntmps55
   go_wp2_with (go_at_call 77; refine (ZX _ _).mono ?_; rintro e w' ⟨rfl,rfl⟩)
   go_ret
   exact ⟨by rw [zA HV]; rfl,rfl⟩
  | false=>
   have HV:=zB (show M = false by rw [<- zA HE,ca,cb]; rfl)
   go_enter Tryz.func55,Tryz.ntmps55
   go_wp2_with (go_at_call 77; refine (ZX _ _).mono ?_; rintro e w' ⟨rfl,rfl⟩)
   go_ret
   exact ⟨by rw [zA HV]; rfl,rfl⟩
 | false=>
  cases cb:sgB b[0] with
  | true=>
   have HV:=zB (show M = false by rw [<- zA HE,ca,cb]; rfl)
   go_enter Tryz.func55,Tryz.ntmps55
   go_wp2_with (go_at_call 77; refine (ZX _ _).mono ?_; rintro e w' ⟨rfl,rfl⟩)
   go_ret
   exact ⟨by rw [zA HV]; rfl,rfl⟩
  | false=>
   have t40:∀ x:ByteArray,x = ⟨#[40]⟩ ↔ x.toList = [40]:=fun x=>⟨fun e=>by rw [e,ByteArray.toList_eq],fun e=>Z8 (by rw [e,ByteArray.toList_eq])⟩
   have t41:∀ x:ByteArray,x = ⟨#[41]⟩ ↔ x.toList = [41]:=fun x=>⟨fun e=>by rw [e,ByteArray.toList_eq],fun e=>Z8 (by rw [e,ByteArray.toList_eq])⟩
   have HV:=zB (show M = ((!a.toList == [40]) && (!a.toList == [41]) && (!b.toList == [40]) && (!b.toList == [41])) by
    rw [<- zA HE,ca,cb,if_neg (by simp)]
    simp only [ne_eq,t40,t41]
    rw [Bool.eq_iff_iff]
    simp [and_assoc])
   clear t40 t41 HE HM
   go_enter Tryz.func55,Tryz.ntmps55
   go_wp2_with (go_at_call 77; refine (ZX _ _).mono ?_; rintro e w' ⟨rfl,rfl⟩)
   all_goals
    go_ret
    refine ⟨?_,rfl⟩
    rw [zA HV]
    clear HV
    simp_all
def zCs (ws:List ByteArray) (i k:Nat):ByteArray:=if 0 < i /\ (zDX k).size = 0 /\ zDO (atB ws (i - 1)) (atB ws i) = true then ⟨#[32]⟩ else zDX k
def Z6 (bs:List UInt8) (ws:List ByteArray) (p:Nat):Nat -> ByteArray × Nat
 | 0=>(zDX (nxt bs p),adv bs p)
 | i + 1=>((Z6 bs ws p i).1 ++ zCs ws i (nxt bs (Z6 bs ws p i).2) ++ atB ws i,adv bs (Z6 bs ws p i).2)
theorem zG5 (ws:List ByteArray) (i k:Nat):(zCs ws i k).size <= 2:=by
 unfold zCs
 split
 ·decide
 ·exact zBW k
theorem zG6 (bs:List UInt8) (ws:List ByteArray) (p:Nat) (h:∀ i,(atB ws i).size <= 20000):∀ i,(Z6 bs ws p i).1.size <= 2 + 20002 * i
 | 0=>by have:=zBW (nxt bs p); simp only [Z6]; omega
 | i + 1=>by
  have h1:=zG6 bs ws p h i
  have h2:=zG5 ws i (nxt bs (Z6 bs ws p i).2)
  have h3:=h i
  show ((Z6 bs ws p i).1 ++ zCs ws i (nxt bs (Z6 bs ws p i).2) ++ atB ws i).size <= _
  rw [ByteArray.size_append,ByteArray.size_append]
  omega
end Go.Proofs.YtgiemobdmbijiaaGreatDoor
namespace Go.Proofs.YtgiemobdmbijiaaGreatDoor
set_option maxHeartbeats 16000000
set_option maxRecDepth 100000
open Go.RowKit
def zBS (a b:OpR):Bool:=a.s.toList == b.s.toList && a.k == b.k && a.l == b.l && a.sd == b.sd
theorem zAT {a b:OpR}:zBS a b = true ↔ a = b:=by
 obtain ⟨s,k,l,sd⟩:=a
 obtain ⟨s',k',l',sd'⟩:=b
 simp only [zBS,Bool.and_eq_true,beq_iff_eq]
 constructor
 ·rintro ⟨⟨⟨h1,h2⟩,h3⟩,h4⟩
  rw [Z8 h1,h2,h3,h4]
 ·intro h
  injection h with h1 h2 h3 h4
  exact ⟨⟨⟨by rw [h1],h2⟩,h3⟩,h4⟩
theorem zIr:Tryz.prog.underlying 46 = some (.struct (Tryz.prog.fieldsOf 46)):=by kernel_rfl
theorem zMG:Tryz.prog.stoodInHeld 46 = false:=by kernel_rfl
theorem zKk:Tryz.prog.eqGuardType Tryz.prog.depth 46 = false:=by kernel_rfl
theorem zG7 (a b:OpR) (w:World) :
  (binOp .eql 46 (.agg #[.string a.s,.int .i64 a.k,.int .i64 a.l,.int .i64 a.sd]) (.agg #[.string b.s,.int .i64 b.k,.int .i64 b.l,.int .i64 b.sd])).run Tryz.prog w = .ok (.bool (zBS a b)) w:=by
 rw [run_eql_struct,run_equalIn_agg _ _ _ _ _ zIr zMG]
 unfold Program.fieldsOf zBS
 rw [Tryz.underlying46]
 cases h1:(a.s.toList == b.s.toList) <;> cases h2:(a.k == b.k) <;> cases h3:(a.l == b.l) <;> cases h4:(a.sd == b.sd) <;> simp [go_sem,h1,h2,h3,h4]
theorem zLJ (g cap k:Nat) (zs:List OpR) (o:OpR) (w:World) (hm:zs.length <= 1048576) (hk:k <= zs.length) (hw:Ops w g 0 zs) (hB:g < w.heap.size) :
  Calls Tryz.prog 102 #[.slice (some ⟨g,0,none⟩) k cap,.agg #[.string o.s,.int .i64 o.k,.int .i64 o.l,.int .i64 o.sd]] w fun e w'=>(∃ v,e = .returned (.bool v) /\ (v = true ↔ ∃ j,j < k /\ atO zs j = o)) /\ Below w.heap.size w w':=by
 go_enter Tryz.func102,Tryz.ntmps102
 go_wp2
 go_loopw [5] (fun i wr=>∃ n:Nat,n <= k /\ i = .int .i64 (n:Int) /\ Hid (∀ j,j < n -> atO zs j ≠ o) /\ Below (w.heap.size + 1) (w.alloc (.cells #[.string o.s,.int .i64 o.k,.int .i64 o.l,.int .i64 o.sd] 46)) wr) (fun i _=>k - (intOf i).toNat)
 case atStart=>exact ⟨0,Nat.zero_le _,rfl,zB (fun j h=>(by omega)),Below.refl _ _⟩
 case round=>
  obtain ⟨n,hn,rfl,hno,hbel⟩:=hrel
  by_cases hlt:n < k
  ·obtain ⟨a0,a1,a2,a3⟩:=((hw n (by omega)).below (zC _ _) hB).below hbel (by omega)
   simp only [Nat.zero_add] at a0 a1 a2 a3
   have c0:wr.cell? ⟨w.heap.size,0,none⟩ = some (.string o.s):=by rw [hbel.cell (p:=⟨w.heap.size,0,none⟩) (show w.heap.size < _ by omega)]; simp [go_sem]
   have c1:wr.cell? ⟨w.heap.size,1,none⟩ = some (.int .i64 o.k):=by rw [hbel.cell (p:=⟨w.heap.size,1,none⟩) (show w.heap.size < _ by omega)]; simp [go_sem]
   have c2:wr.cell? ⟨w.heap.size,2,none⟩ = some (.int .i64 o.l):=by rw [hbel.cell (p:=⟨w.heap.size,2,none⟩) (show w.heap.size < _ by omega)]; simp [go_sem]
   have c3:wr.cell? ⟨w.heap.size,3,none⟩ = some (.int .i64 o.sd):=by rw [hbel.cell (p:=⟨w.heap.size,3,none⟩) (show w.heap.size < _ by omega)]; simp [go_sem]
   have hltI:(n:Int) < (k:Int):=by omega
   have hbel':=zB hbel
   clear hbel
   have hq:=fun W=>zG7 (atO zs n) o W
   have hg:=zKk
   go_wp2_with fail
   go_quiet (fail)
   clear hq hg
   cases hsm:zBS (atO zs n) o
   ·have hne:=zB (show atO zs n ≠ o from fun e=>by rw [zAT.2 e] at hsm; cases hsm)
    go_wp2
    refine ⟨⟨n + 1,by omega,by go_num,zB ?_,below_drewN (zA hbel') nq⟩,by simp [intOf]; omega⟩
    intro j hj
    by_cases e:j = n
    ·subst e; exact zA hne
    ·exact (zA hno) j (by omega)
   ·have heq:=zB (zAT.1 hsm)
    go_wp2
    go_ret
    exact ⟨⟨true,rfl,⟨fun _=>⟨n,hlt,zA heq⟩,fun _=>rfl⟩⟩,below_drewN ((zC _ _).trans ((zA hbel').mono (by omega))) nq⟩
  ·go_wp2
   go_ret
   refine ⟨⟨false,rfl,⟨fun h=>(by cases h),fun ⟨j,hj,he⟩=>absurd he ((zA hno) j (by omega))⟩⟩,(zC _ _).trans (hbel.mono (by omega))⟩
def Z5 (zs:List OpR):Nat -> List OpR
 | 0=>[]
 | k + 1=>if (List.range k).any (fun j=>zBS (atO zs j) (atO zs k)) then Z5 zs k else Z5 zs k ++ [atO zs k]
theorem zKl {zs:List OpR} {k:Nat} (h:∃ j,j < k /\ atO zs j = atO zs k):Z5 zs (k + 1) = Z5 zs k:=by
 obtain ⟨j,hj,e⟩:=h
 have hp:((List.range k).any fun j=>zBS (atO zs j) (atO zs k)) = true:=by
  rw [List.any_eq_true]
  exact ⟨j,List.mem_range.2 hj,zAT.2 e⟩
 show (if _ then _ else _) = _
 rw [if_pos hp]
theorem zIs {zs:List OpR} {k:Nat} (h:¬ ∃ j,j < k /\ atO zs j = atO zs k):Z5 zs (k + 1) = Z5 zs k ++ [atO zs k]:=by
 have hp:¬ ((List.range k).any fun j=>zBS (atO zs j) (atO zs k)) = true:=by
  rw [List.any_eq_true]
  rintro ⟨j,hj,e⟩
  exact h ⟨j,List.mem_range.1 hj,zAT.1 e⟩
 show (if _ then _ else _) = _
 rw [if_neg hp]
theorem zKm (zs:List OpR):∀ k,(Z5 zs k).length <= k
 | 0=>Nat.le_refl _
 | k + 1=>by
  have:=zKm zs k
  unfold Z5
  split
  ·omega
  ·simp; omega
end Go.Proofs.YtgiemobdmbijiaaGreatDoor
