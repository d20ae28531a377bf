import Derived.BigQuiet
import Derived.Test.YtokabkhnidlcnacGreatDoorM01
import Derived.Test.YtokabkhnidlcnacGreatDoorM02
import Derived.Test.YtokabkhnidlcnacGreatDoorM03
import Derived.Test.YtokabkhnidlcnacGreatDoorM04
import Derived.Test.YtokabkhnidlcnacGreatDoorM36
namespace Go.Proofs.YtokabkhnidlcnacGreatDoor
set_option linter.unusedSimpArgs false
set_option linter.unusedVariables false
set_option maxHeartbeats 16000000
set_option maxRecDepth 100000
open Go.RowKit Go.Maps
structure Eff (w w':World) (b o:Nat) (kv:Value) (pv:Option Nat):Prop where
 os:w'.os = w.os
 tape:w'.tape = w.tape
 output:w'.output = w.output
 size:w.heap.size <= w'.heap.size
 blk:∀ i,i < w.heap.size -> i ≠ b -> kv.ownBlock ≠ some i -> pv ≠ some i -> w'.heap[i]? = w.heap[i]?
 cel:∀ o',o' ≠ o -> o' ≠ o + 1 -> w'.cell? ⟨b,o',none⟩ = w.cell? ⟨b,o',none⟩ /\ w'.frozen? ⟨b,o',none⟩ = w.frozen? ⟨b,o',none⟩
theorem Eff.refl (w:World) (b o:Nat) (kv:Value) (pv:Option Nat):Eff w w b o kv pv:=⟨rfl,rfl,rfl,Nat.le_refl _,fun _ _ _ _ _=>rfl,fun _ _ _=>⟨rfl,rfl⟩⟩
def zx (H:Nat) (r r':Option Nat):Prop:=r' = r \/ ∃ k,r' = some k /\ H <= k
theorem zx.ne {H:Nat} {r r':Option Nat} {x:Nat} (h:zx H r r') (hn:r ≠ some x) (hx:x < H):r' ≠ some x:=fun e=>by
 rcases h with h | ⟨k,h,hk⟩
 ·exact hn (h.symm.trans e)
 ·rw [h] at e; injection e with e; omega
theorem zx.trans {H H':Nat} {r r' r'':Option Nat} (h:zx H r r') (h':zx H' r' r'') (hH:H <= H'):zx H r r'':=by
 rcases h' with h' | ⟨k,h',hk⟩
 ·rw [zx,h']; exact h
 ·exact Or.inr ⟨k,h',by omega⟩
theorem Eff.trans {w w1 w2:World} {b o:Nat} {kv kv1:Value} {pv pv1:Option Nat} (h:Eff w w1 b o kv pv) (h1:Eff w1 w2 b o kv1 pv1) (hk:zx w.heap.size kv.ownBlock kv1.ownBlock) (hp:zx w.heap.size pv pv1):Eff w w2 b o kv pv:=
 ⟨h1.os.trans h.os,h1.tape.trans h.tape,h1.output.trans h.output,Nat.le_trans h.size h1.size,fun i hi hb hk' hp'=>(h1.blk i (Nat.lt_of_lt_of_le hi h.size) hb (hk.ne hk' hi) (hp.ne hp' hi)).trans (h.blk i hi hb hk' hp'),
  fun o' h2 h3=>⟨(h1.cel o' h2 h3).1.trans (h.cel o' h2 h3).1,(h1.cel o' h2 h3).2.trans (h.cel o' h2 h3).2⟩⟩
theorem Eff.cell {w w':World} {b o:Nat} {kv:Value} {pv:Option Nat} (h:Eff w w' b o kv pv) {i:Nat} (hi:i < w.heap.size) (hb:i ≠ b) (hk:kv.ownBlock ≠ some i) (hp:pv ≠ some i) (q:Nat):w'.cell? ⟨i,q,none⟩ = w.cell? ⟨i,q,none⟩:=World.cell?_of_block (w:=w) (h.blk i hi hb hk hp)
theorem Eff.below {w w':World} {b o B:Nat} {kv:Value} {pv:Option Nat} (h:Eff w w' b o kv pv) (hB:B <= w.heap.size) (hb:B <= b) (hk:∀ g,kv.ownBlock = some g -> B <= g) (hp:∀ g,pv = some g -> B <= g):Below B w w':=
 ⟨h.os,h.tape,h.output,h.size,fun i hi=>h.blk i (by omega) (by omega) (fun e=>by have:=hk i e; omega) (fun e=>by have:=hp i e; omega)⟩
def zDv:List ByteArray -> ByteArray -> Option Nat
 | [],_=>none
 | x :: r,t=>if x = t then some 0 else (zDv r t).map (· + 1)
theorem zHr:∀ (ks:List ByteArray) (t:ByteArray),(zDv ks t).isSome = true ↔ t ∈ ks
 | [],t=>by simp [zDv]
 | x :: r,t=>by
  unfold zDv
  by_cases e:x = t
  ·rw [if_pos e]; simp [e]
  ·rw [if_neg e,Option.isSome_map,zHr r t]
   simp [List.mem_cons,Ne.symm e]
theorem zJq {ks:List ByteArray} {u:ByteArray} (h:u ∉ ks) (t:ByteArray):zDv (ks ++ [u]) t = if t = u then some ks.length else zDv ks t:=by
 induction ks with
 | nil=>
  simp only [List.nil_append,zDv,List.length_nil]
  by_cases e:u = t
  ·rw [if_pos e,if_pos e.symm]
  ·rw [if_neg e,if_neg (Ne.symm e)]; rfl
 | cons x r ih=>
  have hx:u ≠ x:=fun e=>h (by simp [e])
  have hr:u ∉ r:=fun e=>h (by simp [e])
  simp only [List.cons_append,zDv,List.length_cons]
  by_cases e:x = t
  ·rw [if_pos e,if_pos e,if_neg (fun e2=>hx (by rw [e,<- e2]))]
  ·rw [if_neg e,if_neg e,ih hr]
   by_cases e2:t = u
   ·rw [if_pos e2,if_pos e2]; rfl
   ·rw [if_neg e2,if_neg e2]
def gSS (ks:List ByteArray) (t:ByteArray):Option Value:=(zDv ks t).map fun (i:Nat)=>Value.int .i64 (i:Int)
theorem ZQ.congr {w:World} {b n:Nat} {G G':ByteArray -> Option Value} (h:ZQ w b n G) (he:∀ t,G t = G' t):ZQ w b n G':=by
 have:G = G':=funext he
 rw [<- this]; exact h
structure zBN (w:World) (b o B:Nat) (kv:Value) (pv:Option Nat) (ks:List ByteArray):Prop where
 c0:w.cell? ⟨b,o,none⟩ = some kv
 c1:w.cell? ⟨b,o + 1,none⟩ = some (.map pv)
 f0:w.frozen? ⟨b,o,none⟩ = false
 f1:w.frozen? ⟨b,o + 1,none⟩ = false
 row:ZY w B kv ks
 mp:(pv = none /\ ks = []) \/ ∃ bm,pv = some bm /\ B <= bm /\ ZQ w bm ks.length (gSS ks)
 nk:kv.ownBlock ≠ some b
 np:pv ≠ some b
 nn:∀ g,kv.ownBlock = some g -> pv ≠ some g
theorem zBN.lt {w:World} {b o B:Nat} {kv:Value} {pv:Option Nat} {ks:List ByteArray} (h:zBN w b o B kv pv ks):b < w.heap.size:=World.block_lt_of_cell? _ _ h.c0
theorem zBN.plt {w:World} {b o B:Nat} {kv:Value} {pv:Option Nat} {ks:List ByteArray} (h:zBN w b o B kv pv ks):∀ g,pv = some g -> B <= g /\ g < w.heap.size:=fun g e=>by
 rcases h.mp with ⟨h1,_⟩ | ⟨bm,h1,h2,h3⟩
 ·rw [h1] at e; cases e
 ·rw [h1] at e; injection e with e; subst e; exact ⟨h2,h3.lt⟩
theorem zBN.below {w w':World} {b o B:Nat} {kv:Value} {pv:Option Nat} {ks:List ByteArray} (h:zBN w b o B kv pv ks) (hb:Below w.heap.size w w'):zBN w' b o B kv pv ks:=
 ⟨(hb.cell (p:=⟨b,o,none⟩) h.lt).trans h.c0,(hb.cell (p:=⟨b,o + 1,none⟩) h.lt).trans h.c1,(hb.frozen (p:=⟨b,o,none⟩) h.lt).trans h.f0,(hb.frozen (p:=⟨b,o + 1,none⟩) h.lt).trans h.f1,h.row.below hb,h.mp.imp id (fun ⟨bm,h1,h2,h3⟩=>⟨bm,h1,h2,h3.kept (zF hb none) (by simp)⟩),h.nk,h.np,h.nn⟩
theorem zBN.new (w:World) (t:TypeId) (B:Nat):zBN (w.alloc (.cells #[.slice none 0 0,.map none] t)) w.heap.size 0 B (.slice none 0 0) none []:=
 ⟨by simp [go_sem],by simp [go_sem],by simp [go_sem],by simp [go_sem],World.ownsRow_nil _ _ _ _,Or.inl ⟨rfl,rfl⟩,by simp [Value.ownBlock],by simp,fun g e=>by simp [Value.ownBlock] at e⟩
theorem zJr (w:World):(zeroValue 3).run Tryz.prog w = .ok (.int .i64 0) w:=by kernel_rfl
theorem zNp (bm:Nat) (w:World):(binOp .eql 70 (.map (some bm)) (.map none)).run Tryz.prog w = .ok (.bool false) w:=by kernel_rfl
theorem zPG (w:World):(binOp .eql 70 (.map none) (.map none)).run Tryz.prog w = .ok (.bool true) w:=by kernel_rfl
theorem zMG (t:ByteArray) (w:World) (hs:t.size <= maxLen):(Instr.lookup 70 (.map none) (.string t) true).run Tryz.prog w = .ok (.tuple #[.int .i64 0,.bool false]) w:=by
 have h:=Maps.look_nil (P:=Tryz.prog) (w:=w) true (string_keyed Tryz.underlying9) Tryz.underlying70 (zJr w) (zNX hs)
 simpa using h
theorem zGr (b o B:Nat) (kv:Value) (pv:Option Nat) (ks:List ByteArray) (t:ByteArray) (w:World) (h:zBN w b o B kv pv ks) (hs:t.size <= maxLen) :
  Calls Tryz.prog 142 #[.pointer (some ⟨b,o,none⟩),.string t] w fun e w'=>zB0 e (t ∈ ks) /\ w' = w:=by
 have c1:=h.c1
 rcases h.mp with ⟨rfl,rfl⟩ | ⟨bm,rfl,hbm,hm⟩
 ·have hrun:=zMG t w hs
  clear h
  go_enter Tryz.func142,Tryz.ntmps142
  go_wp2
  go_ret
  exact ⟨⟨false,rfl,ZA (by simp)⟩,rfl⟩
 ·have hrun:=hm.look (ty:=70) Tryz.underlying70 (zJr w) hs
  have HE:=zB (show ∀ v:Bool,v = (gSS ks t).isSome -> zC1 v (t ∈ ks) from fun v hv=>by
   unfold zC1
   rw [hv]
   unfold gSS
   rw [Option.isSome_map]
   exact zHr ks t)
  obtain ⟨x,hx⟩:∃ x,x = (gSS ks t).getD (.int .i64 0):=⟨_,rfl⟩
  obtain ⟨y,hy⟩:∃ y,y = (gSS ks t).isSome:=⟨_,rfl⟩
  rw [<- hx,<- hy] at hrun
  have HY:=zB hy
  clear h hx hy hm
  go_enter Tryz.func142,Tryz.ntmps142
  go_wp2
  go_ret
  exact ⟨⟨y,rfl,(zA HE) y (zA HY)⟩,rfl⟩
def ZR (w:World) (b o B:Nat) (kv:Value) (pv:Option Nat) (ks:List ByteArray) (w':World):Prop:=
 ∃ kv' pv',zBN w' b o B kv' pv' ks /\ Eff w w' b o kv pv /\ zx w.heap.size kv.ownBlock kv'.ownBlock /\ zx w.heap.size pv pv'
theorem zQL {ks:List ByteArray} {t:ByteArray} (h:t ∉ ks) (t':ByteArray):(if t'.data = t.data then some (Value.int .i64 (ks.length:Int)) else gSS ks t') = gSS (ks ++ [t]) t':=by
 unfold gSS
 rw [zJq h t']
 by_cases e:t'.data = t.data
 ·have e':t' = t:=by cases t; cases t'; simp at e; rw [e]
  rw [if_pos e,if_pos e']; rfl
 ·rw [if_neg e,if_neg (fun e2=>e (by rw [e2]))]
theorem zHs {w W w3 w4:World} {b o B bm:Nat} {kv v4:Value} {pv:Option Nat} {ks:List ByteArray} {t:ByteArray} {ob:Obj} (h:zBN w b o B kv pv ks) (hB:B <= w.heap.size) (ht:t ∉ ks)
  (hW:W = w \/ (pv = none /\ bm = w.heap.size)) (hWs:w.heap.size <= W.heap.size) (hWb:∀ i,i < w.heap.size -> i ≠ b -> W.heap[i]? = w.heap[i]?) (hWe:W.os = w.os /\ W.tape = w.tape /\ W.output = w.output) (hWc:∀ o',o' ≠ o + 1 -> W.cell? ⟨b,o',none⟩ = w.cell? ⟨b,o',none⟩) (hWf:∀ o',W.frozen? ⟨b,o',none⟩ = w.frozen? ⟨b,o',none⟩) (hW1:W.cell? ⟨b,o + 1,none⟩ = some (.map (some bm))) (hWr:ZY W B kv ks) (hbmB:B <= bm) (hbmb:bm ≠ b) (hbmk:kv.ownBlock ≠ some bm) (hbmn:zx w.heap.size pv (some bm))
  (hm:ZQ w3 bm (ks.length + 1) (fun t'=>if t'.data = t.data then some (Value.int .i64 (ks.length:Int)) else gSS ks t')) (hk:zI W w3 bm) (hbW:bm < W.heap.size)
  (hg:(w3.alloc ob).grownBy w4 kv.ownBlock) (hr:ZY w4 B v4 (ks ++ [t])) (hat:v4.ownBlock = kv.ownBlock \/ v4.ownBlock = some (w3.heap.size + 1)) :
  ZR w b o B kv pv (ks ++ [t]) (w4.setCell ⟨b,o,none⟩ v4):=by
 have hbl:=h.lt
 have hbW':b < W.heap.size:=by omega
 have hz3:=hk.size
 have hz4:=hg.size
 have hz4':w3.heap.size + 1 <= w4.heap.size:=by simpa using hz4
 have hb3:b < w3.heap.size:=by omega
 have kc:=fun q=>(zE hg (b:=b) (by simp; omega) h.nk q).trans (((zC w3 ob).cell (p:=⟨b,q,none⟩) hb3).trans (hk.cell hbW' (Ne.symm hbmb) q))
 have kf:=fun q=>(zU hg (b:=b) (by simp; omega) h.nk q).trans (((zC w3 ob).frozen (p:=⟨b,q,none⟩) hb3).trans (hk.frozen hbW' (Ne.symm hbmb) q))
 have h4b:v4.ownBlock ≠ some b:=fun e=>by
  rcases hat with hat | hat
  ·exact h.nk (hat.symm.trans e)
  ·rw [hat] at e; injection e with e; omega
 have h4m:v4.ownBlock ≠ some bm:=fun e=>by
  rcases hat with hat | hat
  ·exact hbmk (hat.symm.trans e)
  ·rw [hat] at e; injection e with e; omega
 have hm4:ZQ (w4.setCell ⟨b,o,none⟩ v4) bm (ks ++ [t]).length (gSS (ks ++ [t])):=by
  rw [List.length_append]
  refine ((((hm.kept (zF (zC w3 ob) none) (by simp)).kept hg (fun e=>hbmk e.symm)).kept (ze w4 b o v4) (fun e=>hbmb (by injection e))).congr (zQL ht))
 refine ⟨v4,some bm,⟨World.cell?_setCell_same _ _ _ ((kc o).trans ((hWc o (by omega)).trans h.c0)),(World.cell?_setCell_other _ _ _ _ (by simp)).trans ((kc (o + 1)).trans hW1),(World.frozen?_setCell _ _ _ _).trans ((kf o).trans ((hWf o).trans h.f0)),(World.frozen?_setCell _ _ _ _).trans ((kf (o + 1)).trans ((hWf (o + 1)).trans h.f1)),hr.grown (ze w4 b o v4) (fun k e x=>h4b (e.trans x.symm)),Or.inr ⟨bm,rfl,hbmB,hm4⟩,h4b,fun e=>hbmb (by injection e),fun g e x=>h4m (e.trans x.symm)⟩,?_,?_,hbmn⟩
 ·refine ⟨hg.os.trans (hk.os.trans hWe.1),hg.tape.trans (hk.tape.trans hWe.2.1),hg.output.trans (hk.output.trans hWe.2.2),by simp [World.setCell]; omega,fun i hi h1 h2 h3=>?_,fun o' h1 h2=>⟨(World.cell?_setCell_other _ _ _ _ (by first | (simp; done) | (simp; omega) | (intro x; injection x with _ x; omega))).trans ((kc o').trans (hWc o' h2)),(World.frozen?_setCell _ _ _ _).trans ((kf o').trans (hWf o'))⟩⟩
  rw [Below.heap_setCell _ _ _ _ (by simpa using h1)]
  have hibm:i ≠ bm:=fun e=>by
   rcases hbmn with x | ⟨k,x,hk2⟩
   ·exact h3 (by rw [<- x,e])
   ·injection x with x; omega
  exact (hg.block i (by simp; omega) (fun e=>h2 e.symm)).trans (((zC w3 ob).block i (by omega)).trans ((hk.block i (by omega) hibm).trans (hWb i hi h1)))
 ·rcases hat with hat | hat
  ·exact Or.inl hat
  ·exact Or.inr ⟨_,hat,by omega⟩
theorem zJs (b o B:Nat) (kv:Value) (pv:Option Nat) (ks:List ByteArray) (t:ByteArray) (w:World) (h:zBN w b o B kv pv ks) (hs:t.size <= maxLen) (hl:ks.length <= 1048576) (hB:B <= w.heap.size) :
  Calls Tryz.prog 141 #[.pointer (some ⟨b,o,none⟩),.string t] w fun e w'=>zB0 e (t ∉ ks) /\ ZR w b o B kv pv (Z9 ks t) w':=by
 have HH:=zB (zGr b o B kv pv ks t w h hs)
 by_cases hin:t ∈ ks
 ·have HP:=zB (show ZR w b o B kv pv (Z9 ks t) w by rw [zA9 hin]; exact ⟨kv,pv,h,Eff.refl _ _ _ _ _,Or.inl rfl,Or.inl rfl⟩)
  have HIN:=zB hin
  clear h hin
  go_enter Tryz.func141,Tryz.ntmps141
  go_wp2_with (first | (go_at_call 142; (with_reducible refine (zA HH).mono ?_); rintro e w1 ⟨⟨v,rfl,hv⟩,hx⟩; obtain rfl:=hx.symm; obtain rfl:v = true:=hv.2 (zA HIN); clear hv hx))
  go_ret
  exact ⟨⟨false,rfl,ZA (fun h=>h (zA HIN))⟩,zA HP⟩
 obtain ⟨i0,hi0,hz0,hz1,hz2⟩:=zQ zD5
 have HI:=zB hi0
 have HZ:=zB (And.intro hz0 (And.intro hz1 hz2))
 clear hi0 hz0 hz1 hz2
 have HNI:=zB hin
 have hbl:=h.lt
 have c0:=h.c0
 have c1:=h.c1
 have f0:=h.f0
 have f1:=h.f1
 obtain ⟨ak,ck,rfl⟩:=zM h.row
 rcases h.mp with ⟨rfl,rfl⟩ | ⟨bm,rfl,hbm,hmap⟩
 ·
  obtain ⟨W,hW⟩:∃ W,W = (w.setCell ⟨b,o + 1,none⟩ (.map (some w.heap.size))).alloc (.map #[] 0):=⟨_,rfl⟩
  have hz0:(w.setCell ⟨b,o + 1,none⟩ (.map (some w.heap.size))).heap.size = w.heap.size:=by simp [World.setCell]
  have hWs:w.heap.size + 1 <= W.heap.size:=by rw [hW]; simp [World.setCell]
  have hWb:∀ i,i < w.heap.size -> i ≠ b -> W.heap[i]? = w.heap[i]?:=fun i hi hne=>by
   rw [hW,(zC (w.setCell ⟨b,o + 1,none⟩ (.map (some w.heap.size))) (.map #[] 0)).block i (by rw [hz0]; exact hi)]
   exact Below.heap_setCell _ _ _ _ (by simpa using hne)
  have hWc:∀ o',o' ≠ o + 1 -> W.cell? ⟨b,o',none⟩ = w.cell? ⟨b,o',none⟩:=fun o' ho=>by
   rw [hW,(zC (w.setCell ⟨b,o + 1,none⟩ (.map (some w.heap.size))) (.map #[] 0)).cell (p:=⟨b,o',none⟩) (by show b < _; rw [hz0]; exact hbl)]
   exact World.cell?_setCell_other _ _ _ _ (by first | (simp; done) | (simp; omega) | (intro x; injection x with _ x; omega))
  have hWf:∀ o',W.frozen? ⟨b,o',none⟩ = w.frozen? ⟨b,o',none⟩:=fun o'=>by
   rw [hW,(zC (w.setCell ⟨b,o + 1,none⟩ (.map (some w.heap.size))) (.map #[] 0)).frozen (p:=⟨b,o',none⟩) (by show b < _; rw [hz0]; exact hbl)]
   exact World.frozen?_setCell _ _ _ _
  have hW1:W.cell? ⟨b,o + 1,none⟩ = some (.map (some w.heap.size)):=by
   rw [hW,(zC (w.setCell ⟨b,o + 1,none⟩ (.map (some w.heap.size))) (.map #[] 0)).cell (p:=⟨b,o + 1,none⟩) (by show b < _; rw [hz0]; exact hbl)]
   exact World.cell?_setCell_same _ _ _ c1
  have hSM:ZQ W.drew w.heap.size 0 (fun _=>none):=by
   have:=ZQ.made (w.setCell ⟨b,o + 1,none⟩ (.map (some w.heap.size)))
   rw [hz0,<- hW] at this
   exact this.kept (zF (Below.refl _ _).drew none) (by simp)
  clear hz0
  obtain ⟨w3,hrun,hm3,hk3⟩:=hSM.update (ty:=70) Tryz.underlying70 (by unfold maxLen; omega) (t:=t) hs (.int .i64 0)
  have hWr:ZY W B (.slice ak 0 ck) []:=by
   obtain ⟨_,⟨h1,h2⟩ | ⟨g,cap,cur,h1,h2,h3,h4⟩⟩:=h.row
   ·exact ⟨rfl,Or.inl ⟨h1,h2⟩⟩
   ·have hgb:g ≠ b:=fun e=>h.nk (by rw [h1,e]; rfl)
    refine ⟨rfl,Or.inr ⟨g,cap,cur,h1,h2,(hWb g ?_ hgb).trans h3,h4⟩⟩
    exact (h.row.lt g (by rw [h1]; rfl)).2
  have HCLOSE:=zB (fun w4 v4 ob hg hr hat=>@zHs w W w3 w4 b o B w.heap.size (.slice ak 0 ck) v4 none [] t ob h hB hin (Or.inr ⟨rfl,rfl⟩) (by omega) hWb (by rw [hW]; exact ⟨rfl,rfl,rfl⟩) hWc hWf hW1 hWr hB (by omega) (fun e=>by have:=(h.row.lt _ e).2; omega) (Or.inr ⟨_,rfl,Nat.le_refl _⟩) (by simpa [gSS,zDv] using hm3) (show zI W w3 w.heap.size from (zI.of_below (show Below W.heap.size W W.drew from (Below.refl _ _).drew)).trans hk3) (by omega) hg hr hat)
  have hz3:=hk3.size
  have hz3':W.heap.size <= w3.heap.size:=hz3
  have m0:w3.cell? ⟨b,o,none⟩ = some (.slice ak 0 ck):=(hk3.cell (show b < W.drew.heap.size by show b < W.heap.size; omega) (by omega) o).trans ((hWc o (by omega)).trans c0)
  have m1:w3.frozen? ⟨b,o,none⟩ = false:=(hk3.frozen (show b < W.drew.heap.size by show b < W.heap.size; omega) (by omega) o).trans ((hWf o).trans f0)
  have hWr3:ZY w3 B (.slice ak 0 ck) []:=(hWr.below (Below.refl _ _).drew).grown (zm hk3) (fun k e x=>by injection x with x; have:=(h.row.lt k e).2; omega)
  have HR3:=zB hWr3
  have HNK:=zB h.nk
  have hWo:W.cell? ⟨b,o,none⟩ = some (.slice ak 0 ck):=(hWc o (by omega)).trans c0
  have HWW:=zB hW
  have hb3:b < w3.heap.size:=by omega
  have HINS:=zB (zA5 hin)
  have heq:=zPG w
  have hmm:=@run_makeMap Tryz.prog
  clear hm3 hk3 hWr hWr3 hSM hWb hWc hWf h hW hin
  go_enter Tryz.func141,Tryz.ntmps141
  go_wp2_with (first | (go_at_call 142; (with_reducible refine (zA HH).mono ?_); rintro e w1 ⟨⟨v,rfl,hv⟩,hx⟩; obtain rfl:=hx.symm; obtain rfl:v = false:=(by cases v; rfl; exact absurd (hv.1 rfl) (zA HNI)); clear hv hx))
  rw [<- zA HWW]
  go_region
  go_wp2_with (at_builtin; refine wpList_append_own_at _ rfl (.tmp 31) (.tmp 33) 62 rfl B 9 i0 _ 1 16 Tryz.underlying62 (zA HI) (zA HZ).1 (zA HZ).2.1 (zA HZ).2.2 rfl (by decide) _ 0 (zi []) rfl ((zA HR3).below (zC _ _)) ⟨w3.heap.size,0,none⟩ 1 1 (zi [t]) rfl rfl (by simpa using Z3 w3 t) (ZU _) ?b1 ?b2 ?b3 ?next)
  case b1=>unfold maxLen; omega
  case b2=>omega
  case b3=>simp; omega
  case next=>
   intro v4 w4 hown4 hgrow4 hnil4 hat4
   have hr4:ZY w4 B v4 ([] ++ [t]):=by
    unfold ZY
    rw [Z2,List.length_append]
    exact hown4
   have HF:=zB ((zA HCLOSE) w4 v4 _ hgrow4 hr4 hat4)
   have n0:=(zE hgrow4 (b:=b) (by simp; omega) (zA HNK) o).trans (((zC w3 _).cell (p:=⟨b,o,none⟩) hb3).trans m0)
   have n1:=(zU hgrow4 (b:=b) (by simp; omega) (zA HNK) o).trans (((zC w3 _).frozen (p:=⟨b,o,none⟩) hb3).trans m1)
   obtain ⟨a4,c4,rfl⟩:=zM hr4
   clear hown4 hgrow4 hnil4 hat4 hr4 m0 m1
   go_wp2_with fail
   go_ret
   refine ⟨⟨true,rfl,zA0 (zA HNI)⟩,?_⟩
   rw [zA HINS]
   first
    | exact zA HF
    | simpa using zA HF
 ·obtain ⟨w3,hrun,hm3,hk3⟩:=(hmap.kept (zF (show Below w.heap.size w w.drew from (Below.refl _ _).drew) none) (by simp)).update (ty:=70) Tryz.underlying70 (by unfold maxLen; omega) (t:=t) hs (.int .i64 (ks.length:Int))
  have hbmb:bm ≠ b:=fun e=>h.np (by rw [e])
  have hbmk:(Value.slice ak ks.length ck).ownBlock ≠ some bm:=fun e=>h.nn bm e rfl
  have hbml:=hmap.lt
  have HCLOSE:=zB (fun w4 v4 ob hg hr hat=>@zHs w w w3 w4 b o B bm (.slice ak ks.length ck) v4 (some bm) ks t ob h hB hin (Or.inl rfl) (Nat.le_refl _) (fun _ _ _=>rfl) ⟨rfl,rfl,rfl⟩ (fun _ _=>rfl) (fun _=>rfl) c1 h.row hbm hbmb hbmk (Or.inl rfl) hm3 (show zI w w3 bm from (zI.of_below (show Below w.heap.size w w.drew from (Below.refl _ _).drew)).trans hk3) hbml hg hr hat)
  have hz3:=hk3.size
  have hz3':w.heap.size <= w3.heap.size:=hz3
  have m0:w3.cell? ⟨b,o,none⟩ = some (.slice ak ks.length ck):=(hk3.cell (show b < w.drew.heap.size from hbl) (Ne.symm hbmb) o).trans c0
  have m1:w3.frozen? ⟨b,o,none⟩ = false:=(hk3.frozen (show b < w.drew.heap.size from hbl) (Ne.symm hbmb) o).trans f0
  have HR3:=zB (show ZY w3 B (.slice ak ks.length ck) ks from (h.row.below (Below.refl _ _).drew).grown (zm hk3) (fun k e x=>hbmk (e.trans x.symm)))
  have HNK:=zB h.nk
  have hb3:b < w3.heap.size:=by omega
  have HINS:=zB (zA5 hin)
  have heq:=zNp bm w
  clear hm3 hk3 hmap h hin
  go_enter Tryz.func141,Tryz.ntmps141
  go_wp2_with (first | (go_at_call 142; (with_reducible refine (zA HH).mono ?_); rintro e w1 ⟨⟨v,rfl,hv⟩,hx⟩; obtain rfl:=hx.symm; obtain rfl:v = false:=(by cases v; rfl; exact absurd (hv.1 rfl) (zA HNI)); clear hv hx))
  go_region
  go_wp2_with (at_builtin; refine wpList_append_own_at _ rfl (.tmp 31) (.tmp 33) 62 rfl B 9 i0 _ 1 16 Tryz.underlying62 (zA HI) (zA HZ).1 (zA HZ).2.1 (zA HZ).2.2 rfl (by decide) _ ks.length (zi ks) rfl ((zA HR3).below (zC _ _)) ⟨w3.heap.size,0,none⟩ 1 1 (zi [t]) rfl rfl (by simpa using Z3 w3 t) (ZU _) ?b1 ?b2 ?b3 ?next)
  case b1=>unfold maxLen; omega
  case b2=>omega
  case b3=>simp; omega
  case next=>
   intro v4 w4 hown4 hgrow4 hnil4 hat4
   have hr4:ZY w4 B v4 (ks ++ [t]):=by
    unfold ZY
    rw [Z2,List.length_append]
    exact hown4
   have HF:=zB ((zA HCLOSE) w4 v4 _ hgrow4 hr4 hat4)
   have n0:=(zE hgrow4 (b:=b) (by simp; omega) (zA HNK) o).trans (((zC w3 _).cell (p:=⟨b,o,none⟩) hb3).trans m0)
   have n1:=(zU hgrow4 (b:=b) (by simp; omega) (zA HNK) o).trans (((zC w3 _).frozen (p:=⟨b,o,none⟩) hb3).trans m1)
   obtain ⟨a4,c4,rfl⟩:=zM hr4
   clear hown4 hgrow4 hnil4 hat4 hr4 m0 m1
   go_wp2_with fail
   go_ret
   refine ⟨⟨true,rfl,zA0 (zA HNI)⟩,?_⟩
   rw [zA HINS]
   first
    | exact zA HF
    | simpa using zA HF
def Apt (v:Value) (b:Nat) (kv:Value) (pv:Option Nat):Prop:=∀ g,v.ownBlock = some g -> g ≠ b /\ kv.ownBlock ≠ some g /\ pv ≠ some g
theorem zKk {us ks:List ByteArray} {k:Nat} {p:ByteArray} (h:us[k]? = some p):(us.take (k + 1)).foldl Z9 ks = Z9 ((us.take k).foldl Z9 ks) p:=by
 rw [List.take_add_one,h]
 simp [List.foldl_append]
theorem ZR.step {w w1 w2:World} {b o B:Nat} {kv kv1:Value} {pv pv1:Option Nat} {ks2:List ByteArray} (he:Eff w w1 b o kv pv) (hk:zx w.heap.size kv.ownBlock kv1.ownBlock) (hp:zx w.heap.size pv pv1) (h:ZR w1 b o B kv1 pv1 ks2 w2):ZR w b o B kv pv ks2 w2:=by
 obtain ⟨kv2,pv2,h1,h2,h3,h4⟩:=h
 exact ⟨kv2,pv2,h1,he.trans h2 hk hp,hk.trans h3 he.size,hp.trans h4 he.size⟩
theorem Apt.step {v:Value} {b:Nat} {kv kv1:Value} {pv pv1:Option Nat} {H:Nat} (h:Apt v b kv pv) (hv:∀ g,v.ownBlock = some g -> g < H) (hk:zx H kv.ownBlock kv1.ownBlock) (hp:zx H pv pv1):Apt v b kv1 pv1:=fun g e=>
 ⟨(h g e).1,hk.ne (h g e).2.1 (hv g e),hp.ne (h g e).2.2 (hv g e)⟩
theorem zDK (b o B:Nat) (kv:Value) (pv:Option Nat) (ks:List ByteArray) (v:Value) (us:List ByteArray) (w:World) (h:zBN w b o B kv pv ks) (hs:∀ x ∈ us,x.size <= maxLen) (hl:ks.length + us.length <= 1048576) (hB:B <= w.heap.size) (hr:zj w v us) (ha:Apt v b kv pv) :
  Calls Tryz.prog 143 #[.pointer (some ⟨b,o,none⟩),v] w fun e w'=>e = .returned (.tuple #[]) /\ ZR w b o B kv pv (us.foldl Z9 ks) w':=by
 have HP:=zB (show ZR w b o B kv pv ((us.take 0).foldl Z9 ks) w from ⟨kv,pv,by simpa using h,Eff.refl _ _ _ _ _,Or.inl rfl,Or.inl rfl⟩)
 have HA:=zB ha
 have HS:=zB hs
 have HR:=zB hr
 obtain ⟨a,c,rfl,_⟩:=hr
 clear h ha hs
 go_enter Tryz.func143,Tryz.ntmps143
 go_wp2
 go_loopw [8] (fun i wr=>∃ (k:Nat),k <= us.length /\ i = .int .i64 (k:Int) /\ Hid (ZR w b o B kv pv ((us.take k).foldl Z9 ks) wr)) (fun i _=>us.length - (intOf i).toNat)
 case atStart=>exact ⟨0,Nat.zero_le _,rfl,HP⟩
 case round=>
  obtain ⟨k,hk,rfl,HQ⟩:=hrel
  by_cases hlt:k < us.length
  ·have hltI:(k:Int) < (us.length:Int):=by omega
   obtain ⟨p,hp⟩:∃ p,us[k]? = some p:=⟨_,List.getElem?_eq_getElem hlt⟩
   obtain ⟨kv1,pv1,h1,h2,h3,h4⟩:=zA HQ
   obtain ⟨g,cc,hge,hgl,hgc⟩:=(zA HR).lt (by omega)
   obtain ⟨rfl,rfl⟩:a = some ⟨g,0,none⟩ /\ c = cc:=by injection hge with x _ y; exact ⟨x,y⟩
   obtain ⟨a1,a2,a3⟩:=(zA HA) g rfl
   have hc:wr.cell? ⟨g,k,none⟩ = some (.string p):=(h2.cell hgl a1 a2 a3 k).trans (hgc k p hp)
   have hln:=zEe (us.take k) ks
   rw [List.length_take] at hln
   have hz:=h2.size
   have HX:=zB (zJs b o B kv1 pv1 _ p wr h1 ((zA HS) p (List.mem_of_getElem? hp)) (by omega) (by omega))
   have HF:=zB (fun w2 (hh:ZR wr b o B kv1 pv1 (Z9 ((us.take k).foldl Z9 ks) p) w2)=>show ZR w b o B kv pv ((us.take (k + 1)).foldl Z9 ks) w2 from (by rw [zKk hp]; exact ZR.step h2 h3 h4 hh))
   clear hge h1 h2 h3 h4 hln hp HQ
   go_wp2_with (first | (go_at_call 141; (with_reducible refine (zA HX).mono ?_); rintro e w1 ⟨⟨y,rfl,_⟩,hpo⟩; have HN:=zB ((zA HF) w1 hpo); clear hpo))
   exact ⟨⟨k + 1,by omega,by go_num,HN⟩,by simp [intOf]; omega⟩
  ·have HN:=zB (show ZR w b o B kv pv (us.foldl Z9 ks) wr by have:=zA HQ; rwa [List.take_of_length_le (by omega)] at this)
   go_wp2
   go_end0
   exact ⟨rfl,zA HN⟩
def zPH (w:World) (us:List ByteArray) (e:Ending) (w':World):Prop:=
 ∃ v,e = .returned v /\ ZY w' w.heap.size v (dst us) /\ Below w.heap.size w w'
theorem zIe (v:Value) (us:List ByteArray) (w:World) (hs:∀ x ∈ us,x.size <= maxLen) (hl:us.length <= 1048576) (hr:zj w v us) (hv:∀ g,v.ownBlock = some g -> g < w.heap.size) :
  Calls Tryz.prog 139 #[v] w (zPH w us):=by
 have HX:=zB (show Calls Tryz.prog 143 #[.pointer (some ⟨w.heap.size,0,none⟩),v] (w.alloc (.cells #[.slice none 0 0,.map none] 72)) fun e w'=>e = .returned (.tuple #[]) /\ ZR (w.alloc (.cells #[.slice none 0 0,.map none] 72)) w.heap.size 0 w.heap.size (.slice none 0 0) none (dst us) w' from by
  refine zDK w.heap.size 0 w.heap.size _ none [] v us _ (zBN.new w _ _) hs (by simpa using hl) (by simp) (hr.below (zC _ _)) (fun g e=>?_)
  refine ⟨fun e2=>?_,by simp [Value.ownBlock],by simp⟩
  have:=hv g e; omega)
 clear hr hv
 go_enter Tryz.func139,Tryz.ntmps139
 go_wp2_with (first | (go_at_call 143; (with_reducible refine (zA HX).mono ?_); rintro e w1 ⟨rfl,kv,pv,h1,h2,h3,h4⟩; have c0:=h1.c0; have HR:=zB h1.row; have HB:=zB (show Below w.heap.size w w1 from (zC _ _).trans (h2.below (B:=w.heap.size) (by simp) (Nat.le_refl _) (fun g e=>by simp [Value.ownBlock] at e) (fun g e=>by simp at e))); clear h1 h2 h3 h4))
 go_ret
 exact ⟨_,rfl,zA HR,zA HB⟩
def zIf:List OpR -> OpR -> Option Nat
 | [],_=>none
 | x :: r,t=>if zAB x t = true then some 0 else (zIf r t).map (· + 1)
theorem zHt:∀ (ks:List OpR) (t:OpR),(zIf ks t).isSome = true ↔ t ∈ ks
 | [],t=>by simp [zIf]
 | x :: r,t=>by
  unfold zIf
  by_cases e:zAB x t = true
  ·rw [if_pos e]; simp [ZB.1 e]
  ·rw [if_neg e,Option.isSome_map,zHt r t]
   have:t ≠ x:=fun h=>e (ZB.2 h.symm)
   simp [List.mem_cons,this]
theorem zJt {ks:List OpR} {u:OpR} (h:u ∉ ks) (t:OpR):zIf (ks ++ [u]) t = if zAB t u = true then some ks.length else zIf ks t:=by
 induction ks with
 | nil=>
  simp only [List.nil_append,zIf,List.length_nil]
  by_cases e:zAB u t = true
  ·rw [if_pos e,if_pos (ZB.2 (ZB.1 e).symm)]
  ·rw [if_neg e,if_neg (fun x=>e (ZB.2 (ZB.1 x).symm))]; rfl
 | cons x r ih=>
  have hx:u ≠ x:=fun e=>h (by simp [e])
  have hr:u ∉ r:=fun e=>h (by simp [e])
  simp only [List.cons_append,zIf,List.length_cons]
  by_cases e:zAB x t = true
  ·rw [if_pos e,if_pos e,if_neg (fun e2=>hx (by rw [ZB.1 e,<- ZB.1 e2]))]
  ·rw [if_neg e,if_neg e,ih hr]
   by_cases e2:zAB t u = true
   ·rw [if_pos e2,if_pos e2]; rfl
   ·rw [if_neg e2,if_neg e2]
def gQ (ks:List OpR) (t:OpR):Option Value:=(zIf ks t).map fun (i:Nat)=>Value.int .i64 (i:Int)
theorem zA4.congr {w:World} {b n:Nat} {G G':OpR -> Option Value} (h:zA4 w b n G) (he:∀ t,G t = G' t):zA4 w b n G':=by
 have:G = G':=funext he
 rw [<- this]; exact h
structure zCM (w:World) (b o B:Nat) (kv:Value) (pv:Option Nat) (ks:List OpR):Prop where
 c0:w.cell? ⟨b,o,none⟩ = some kv
 c1:w.cell? ⟨b,o + 1,none⟩ = some (.map pv)
 f0:w.frozen? ⟨b,o,none⟩ = false
 f1:w.frozen? ⟨b,o + 1,none⟩ = false
 row:zAN w B kv ks
 mp:(pv = none /\ ks = []) \/ ∃ bm,pv = some bm /\ B <= bm /\ zA4 w bm ks.length (gQ ks)
 nk:kv.ownBlock ≠ some b
 np:pv ≠ some b
 nn:∀ g,kv.ownBlock = some g -> pv ≠ some g
theorem zCM.lt {w:World} {b o B:Nat} {kv:Value} {pv:Option Nat} {ks:List OpR} (h:zCM w b o B kv pv ks):b < w.heap.size:=World.block_lt_of_cell? _ _ h.c0
theorem zCM.plt {w:World} {b o B:Nat} {kv:Value} {pv:Option Nat} {ks:List OpR} (h:zCM w b o B kv pv ks):∀ g,pv = some g -> B <= g /\ g < w.heap.size:=fun g e=>by
 rcases h.mp with ⟨h1,_⟩ | ⟨bm,h1,h2,h3⟩
 ·rw [h1] at e; cases e
 ·rw [h1] at e; injection e with e; subst e; exact ⟨h2,h3.lt⟩
theorem zCM.below {w w':World} {b o B:Nat} {kv:Value} {pv:Option Nat} {ks:List OpR} (h:zCM w b o B kv pv ks) (hb:Below w.heap.size w w'):zCM w' b o B kv pv ks:=
 ⟨(hb.cell (p:=⟨b,o,none⟩) h.lt).trans h.c0,(hb.cell (p:=⟨b,o + 1,none⟩) h.lt).trans h.c1,(hb.frozen (p:=⟨b,o,none⟩) h.lt).trans h.f0,(hb.frozen (p:=⟨b,o + 1,none⟩) h.lt).trans h.f1,h.row.below hb,h.mp.imp id (fun ⟨bm,h1,h2,h3⟩=>⟨bm,h1,h2,h3.kept (zF hb none) (by simp)⟩),h.nk,h.np,h.nn⟩
theorem zCM.new (w:World) (t:TypeId) (B:Nat):zCM (w.alloc (.cells #[.slice none 0 0,.map none] t)) w.heap.size 0 B (.slice none 0 0) none []:=
 ⟨by simp [go_sem],by simp [go_sem],by simp [go_sem],by simp [go_sem],World.ownsRow_nil _ _ _ _,Or.inl ⟨rfl,rfl⟩,by simp [Value.ownBlock],by simp,fun g e=>by simp [Value.ownBlock] at e⟩
def zt (w:World) (b o B:Nat) (kv:Value) (pv:Option Nat) (ks:List OpR) (w':World):Prop:=
 ∃ kv' pv',zCM w' b o B kv' pv' ks /\ Eff w w' b o kv pv /\ zx w.heap.size kv.ownBlock kv'.ownBlock /\ zx w.heap.size pv pv'
theorem zQM {ks:List OpR} {t:OpR} (h:t ∉ ks) (t':OpR):(if zAB t' t = true then some (Value.int .i64 (ks.length:Int)) else gQ ks t') = gQ (ks ++ [t]) t':=by
 unfold gQ
 rw [zJt h t']
 by_cases e:zAB t' t = true
 ·rw [if_pos e,if_pos e]; rfl
 ·rw [if_neg e,if_neg e]
theorem zKl {w W w3 w4:World} {b o B bm:Nat} {kv v4:Value} {pv:Option Nat} {ks:List OpR} {t:OpR} {ob:Obj} (h:zCM w b o B kv pv ks) (hB:B <= w.heap.size) (ht:t ∉ ks)
  (hWs:w.heap.size <= W.heap.size) (hWb:∀ i,i < w.heap.size -> i ≠ b -> W.heap[i]? = w.heap[i]?) (hWe:W.os = w.os /\ W.tape = w.tape /\ W.output = w.output) (hWc:∀ o',o' ≠ o + 1 -> W.cell? ⟨b,o',none⟩ = w.cell? ⟨b,o',none⟩) (hWf:∀ o',W.frozen? ⟨b,o',none⟩ = w.frozen? ⟨b,o',none⟩) (hW1:W.cell? ⟨b,o + 1,none⟩ = some (.map (some bm))) (hWr:zAN W B kv ks) (hbmB:B <= bm) (hbmb:bm ≠ b) (hbmk:kv.ownBlock ≠ some bm) (hbmn:zx w.heap.size pv (some bm))
  (hm:zA4 w3 bm (ks.length + 1) (fun t'=>if zAB t' t = true then some (Value.int .i64 (ks.length:Int)) else gQ ks t')) (hk:zI W w3 bm) (hbW:bm < W.heap.size)
  (hg:(w3.alloc ob).grownBy w4 kv.ownBlock) (hr:zAN w4 B v4 (ks ++ [t])) (hat:v4.ownBlock = kv.ownBlock \/ v4.ownBlock = some (w3.heap.size + 1)) :
  zt w b o B kv pv (ks ++ [t]) (w4.setCell ⟨b,o,none⟩ v4):=by
 have hbl:=h.lt
 have hbW':b < W.heap.size:=by omega
 have hz3:=hk.size
 have hz4:=hg.size
 have hz4':w3.heap.size + 1 <= w4.heap.size:=by simpa using hz4
 have hb3:b < w3.heap.size:=by omega
 have kc:=fun q=>(zE hg (b:=b) (by simp; omega) h.nk q).trans (((zC w3 ob).cell (p:=⟨b,q,none⟩) hb3).trans (hk.cell hbW' (Ne.symm hbmb) q))
 have kf:=fun q=>(zU hg (b:=b) (by simp; omega) h.nk q).trans (((zC w3 ob).frozen (p:=⟨b,q,none⟩) hb3).trans (hk.frozen hbW' (Ne.symm hbmb) q))
 have h4b:v4.ownBlock ≠ some b:=fun e=>by
  rcases hat with hat | hat
  ·exact h.nk (hat.symm.trans e)
  ·rw [hat] at e; injection e with e; omega
 have h4m:v4.ownBlock ≠ some bm:=fun e=>by
  rcases hat with hat | hat
  ·exact hbmk (hat.symm.trans e)
  ·rw [hat] at e; injection e with e; omega
 have hm4:zA4 (w4.setCell ⟨b,o,none⟩ v4) bm (ks ++ [t]).length (gQ (ks ++ [t])):=by
  rw [List.length_append]
  refine ((((hm.kept (zF (zC w3 ob) none) (by simp)).kept hg (fun e=>hbmk e.symm)).kept (ze w4 b o v4) (fun e=>hbmb (by injection e))).congr (zQM ht))
 refine ⟨v4,some bm,⟨World.cell?_setCell_same _ _ _ ((kc o).trans ((hWc o (by omega)).trans h.c0)),(World.cell?_setCell_other _ _ _ _ (by simp)).trans ((kc (o + 1)).trans hW1),(World.frozen?_setCell _ _ _ _).trans ((kf o).trans ((hWf o).trans h.f0)),(World.frozen?_setCell _ _ _ _).trans ((kf (o + 1)).trans ((hWf (o + 1)).trans h.f1)),hr.grown (ze w4 b o v4) (fun k e x=>h4b (e.trans x.symm)),Or.inr ⟨bm,rfl,hbmB,hm4⟩,h4b,fun e=>hbmb (by injection e),fun g e x=>h4m (e.trans x.symm)⟩,?_,?_,hbmn⟩
 ·refine ⟨hg.os.trans (hk.os.trans hWe.1),hg.tape.trans (hk.tape.trans hWe.2.1),hg.output.trans (hk.output.trans hWe.2.2),by simp [World.setCell]; omega,fun i hi h1 h2 h3=>?_,fun o' h1 h2=>⟨(World.cell?_setCell_other _ _ _ _ (by first | (simp; done) | (simp; omega) | (intro x; injection x with _ x; omega))).trans ((kc o').trans (hWc o' h2)),(World.frozen?_setCell _ _ _ _).trans ((kf o').trans (hWf o'))⟩⟩
  rw [Below.heap_setCell _ _ _ _ (by simpa using h1)]
  have hibm:i ≠ bm:=fun e=>by
   rcases hbmn with x | ⟨k,x,hk2⟩
   ·exact h3 (by rw [<- x,e])
   ·injection x with x; omega
  exact (hg.block i (by simp; omega) (fun e=>h2 e.symm)).trans (((zC w3 ob).block i (by omega)).trans ((hk.block i (by omega) hibm).trans (hWb i hi h1)))
 ·rcases hat with hat | hat
  ·exact Or.inl hat
  ·exact Or.inr ⟨_,hat,by omega⟩
end Go.Proofs.YtokabkhnidlcnacGreatDoor
