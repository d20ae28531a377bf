import Derived.Test.YtokabkhnidlcnacGreatDoorM37
namespace Go.Proofs.YtokabkhnidlcnacGreatDoor
set_option linter.unusedSimpArgs false
set_option linter.unusedVariables false
set_option maxHeartbeats 16000000
set_option maxRecDepth 100000
open Go.RowKit Go.Maps
theorem zNq (bm:Nat) (w:World):(binOp .eql 177 (.map (some bm)) (.map none)).run Tryz.prog w = .ok (.bool false) w:=by kernel_rfl
theorem zPI (w:World):(binOp .eql 177 (.map none) (.map none)).run Tryz.prog w = .ok (.bool true) w:=by kernel_rfl
theorem zMH (t:OpR) (w:World) (hs:zCy t):(Instr.lookup 177 (.map none) (.agg #[.string t.s,.int .i64 t.k,.int .i64 t.l,.int .i64 t.sd]) true).run Tryz.prog w = .ok (.tuple #[.int .i64 0,.bool false]) w:=by
 have h:=Maps.look_nil (P:=Tryz.prog) (w:=w) true zNn Tryz.underlying177 (zJr w) (zMF hs)
 simpa using h
theorem zNr (b o B:Nat) (kv:Value) (pv:Option Nat) (ks:List OpR) (t:OpR) (w:World) (h:zCM w b o B kv pv ks) (hs:zCy t) :
  Calls Tryz.prog 196 #[.pointer (some ⟨b,o,none⟩),.agg #[.string t.s,.int .i64 t.k,.int .i64 t.l,.int .i64 t.sd]] w fun e w'=>zB0 e (t ∈ ks) /\ Below w.heap.size w w':=by
 have c1:=h.c1
 have hbl:=h.lt
 rcases h.mp with ⟨rfl,rfl⟩ | ⟨bm,rfl,hbm,hm⟩
 ·have hrun:=fun w=>zMH t w hs
  obtain ⟨W,hW⟩:∃ W,W = w.alloc (.cells #[.string t.s,.int .i64 t.k,.int .i64 t.l,.int .i64 t.sd] 41):=⟨_,rfl⟩
  have HB:=zB (show Below w.heap.size w W from (by rw [hW]; exact zC _ _))
  have c1':W.cell? ⟨b,o + 1,none⟩ = some (.map none):=((zA HB).cell (p:=⟨b,o + 1,none⟩) hbl).trans c1
  have k0:W.cell? ⟨w.heap.size,0,none⟩ = some (.string t.s):=by rw [hW]; simp [go_sem]
  have k1:W.cell? ⟨w.heap.size,1,none⟩ = some (.int .i64 t.k):=by rw [hW]; simp [go_sem]
  have k2:W.cell? ⟨w.heap.size,2,none⟩ = some (.int .i64 t.l):=by rw [hW]; simp [go_sem]
  have k3:W.cell? ⟨w.heap.size,3,none⟩ = some (.int .i64 t.sd):=by rw [hW]; simp [go_sem]
  have HW:=zB hW
  clear h hW
  go_enter Tryz.func196,Tryz.ntmps196
  go_wp2_with fail
  rw [<- zA HW]
  go_region
  go_wp2_with fail
  go_ret
  exact ⟨⟨false,rfl,ZA (by simp)⟩,(zA HB).drew⟩
 ·have HE:=zB (show ∀ v:Bool,v = (gQ ks t).isSome -> zC1 v (t ∈ ks) from fun v hv=>by
   unfold zC1
   rw [hv]
   unfold gQ
   rw [Option.isSome_map]
   exact zHt ks t)
  obtain ⟨W,hW⟩:∃ W,W = w.alloc (.cells #[.string t.s,.int .i64 t.k,.int .i64 t.l,.int .i64 t.sd] 41):=⟨_,rfl⟩
  have HB:=zB (show Below w.heap.size w W from (by rw [hW]; exact zC _ _))
  have hrun:=((hm.kept (zF (zA HB) none) (by simp)).kept (zF (show Below W.heap.size W W.drew from (Below.refl _ _).drew) none) (by simp)).look (ty:=177) Tryz.underlying177 (zJr W.drew) hs
  obtain ⟨x,hx⟩:∃ x,x = (gQ ks t).getD (.int .i64 0):=⟨_,rfl⟩
  obtain ⟨y,hy⟩:∃ y,y = (gQ ks t).isSome:=⟨_,rfl⟩
  rw [<- hx,<- hy] at hrun
  have HY:=zB hy
  have c1':W.cell? ⟨b,o + 1,none⟩ = some (.map (some bm)):=((zA HB).cell (p:=⟨b,o + 1,none⟩) hbl).trans c1
  have k0:W.cell? ⟨w.heap.size,0,none⟩ = some (.string t.s):=by rw [hW]; simp [go_sem]
  have k1:W.cell? ⟨w.heap.size,1,none⟩ = some (.int .i64 t.k):=by rw [hW]; simp [go_sem]
  have k2:W.cell? ⟨w.heap.size,2,none⟩ = some (.int .i64 t.l):=by rw [hW]; simp [go_sem]
  have k3:W.cell? ⟨w.heap.size,3,none⟩ = some (.int .i64 t.sd):=by rw [hW]; simp [go_sem]
  have HW:=zB hW
  clear h hW hx hy hm
  go_enter Tryz.func196,Tryz.ntmps196
  go_wp2_with fail
  rw [<- zA HW]
  go_region
  go_wp2_with fail
  go_ret
  exact ⟨⟨y,rfl,(zA HE) y (zA HY)⟩,(zA HB).drew⟩
end Go.Proofs.YtokabkhnidlcnacGreatDoor
