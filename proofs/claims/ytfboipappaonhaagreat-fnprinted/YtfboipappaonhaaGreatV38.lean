import Derived.Test.YtfboipappaonhaaGreatV21
import Derived.Test.YtfboipappaonhaaGreatV22
import Derived.Test.YtfboipappaonhaaGreatV23
import Derived.Test.YtfboipappaonhaaGreatV31
import Derived.Test.YtfboipappaonhaaGreatV37
namespace Go.Proofs.YtfboipappaonhaaGreat
set_option linter.unusedSimpArgs false
set_option linter.unusedVariables false
set_option maxHeartbeats 16000000
set_option maxRecDepth 100000
open Go.RowKit Go.Maps
theorem zBw (a c:Int) (w:World):Calls Tryz.prog 117 #[.int .i64 a,.int .i64 c] w fun e w'=>e = .returned (.bool (Zn a c)) /\ w' = w:=by
 have hb:Zn a c = (a == 3 || c == 3 || (a == 2 && c == 2)):=by
  unfold Zn
  rw [Bool.eq_iff_iff]
  simp only [decide_eq_true_eq,Bool.or_eq_true,Bool.and_eq_true,beq_iff_eq]
  omega
 have HB:=zB hb
 clear hb
 by_cases h1:a = 3
 ·have h1':(a == 3) = true:=by simpa using h1
  rw [h1'] at HB
  go_enter Tryz.func117,Tryz.ntmps117
  go_wp2
  go_ret
  exact ⟨zZ (by rw [zA HB]; rfl),rfl⟩
 ·have h1':(a == 3) = false:=by simpa using h1
  rw [h1'] at HB
  by_cases h2:c = 3
  ·have h2':(c == 3) = true:=by simpa using h2
   rw [h2'] at HB
   go_enter Tryz.func117,Tryz.ntmps117
   go_wp2
   go_ret
   exact ⟨zZ (by rw [zA HB]; rfl),rfl⟩
  ·have h2':(c == 3) = false:=by simpa using h2
   rw [h2'] at HB
   by_cases h3:a = 2
   ·have h3':(a == 2) = true:=by simpa using h3
    rw [h3'] at HB
    go_enter Tryz.func117,Tryz.ntmps117
    go_wp2
    go_ret
    exact ⟨zZ (by rw [zA HB]; rfl),rfl⟩
   ·have h3':(a == 2) = false:=by simpa using h3
    rw [h3'] at HB
    go_enter Tryz.func117,Tryz.ntmps117
    go_wp2
    go_ret
    exact ⟨zZ (by rw [zA HB]; rfl),rfl⟩
structure zCM (w:World) (b:Nat) (v:Value) (ps:List ByteArray) (last:Int):Prop where
 c0:w.cell? ⟨b,0,none⟩ = some v
 c1:w.cell? ⟨b,1,none⟩ = some (.int .i64 last)
 fz:∀ o,w.frozen? ⟨b,o,none⟩ = false
 row:zCK w (b + 1) v ps
theorem zCM.ne {w:World} {b:Nat} {v:Value} {ps:List ByteArray} {last:Int} (h:zCM w b v ps last):v.ownBlock ≠ some b:=fun e=>by
 have:=(h.row.lt _ e).1
 omega
theorem zCM.below {w w':World} {b:Nat} {v:Value} {ps:List ByteArray} {last:Int} (h:zCM w b v ps last) (hb:Below w.heap.size w w'):zCM w' b v ps last:=
 have hlt:b < w.heap.size:=block_lt_of_cell h.c0
 ⟨(hb.cell (p:=⟨b,0,none⟩) hlt).trans h.c0,(hb.cell (p:=⟨b,1,none⟩) hlt).trans h.c1,fun o=>(hb.frozen (p:=⟨b,o,none⟩) hlt).trans (h.fz o),h.row.below hb⟩
theorem zCM.keep {w w2:World} {o:Obj} {b:Nat} {v:Value} {ps:List ByteArray} {last:Int} (h:zCM w b v ps last) (hg:(w.alloc o).grownBy w2 v.ownBlock) :
  (∀ q,w2.cell? ⟨b,q,none⟩ = w.cell? ⟨b,q,none⟩) /\ ∀ q,w2.frozen? ⟨b,q,none⟩ = w.frozen? ⟨b,q,none⟩:=by
 have hlt:b < w.heap.size:=block_lt_of_cell h.c0
 have hbk:w2.heap[b]? = (w.alloc o).heap[b]?:=hg.block b (by simp; omega) (fun e=>h.ne e.symm)
 exact ⟨fun q=>(World.cell?_of_block (w:=w.alloc o) hbk).trans ((zC w o).cell (p:=⟨b,q,none⟩) hlt),fun q=>(World.frozen?_of_block (w:=w.alloc o) hbk).trans ((zC w o).frozen (p:=⟨b,q,none⟩) hlt)⟩
theorem zCM.put {w w2:World} {o:Obj} {b:Nat} {v v2:Value} {ps ps2:List ByteArray} {last:Int} (h:zCM w b v ps last) (hg:(w.alloc o).grownBy w2 v.ownBlock) (hr:zCK w2 (b + 1) v2 ps2) :
  zCM (w2.setCell ⟨b,0,none⟩ v2) b v2 ps2 last /\ Zb w (w2.setCell ⟨b,0,none⟩ v2) b v.ownBlock:=by
 have hlt:b < w.heap.size:=block_lt_of_cell h.c0
 have hbk:w2.heap[b]? = (w.alloc o).heap[b]?:=hg.block b (by simp; omega) (fun e=>h.ne e.symm)
 have e:∀ q,w2.cell? ⟨b,q,none⟩ = w.cell? ⟨b,q,none⟩:=fun q=>(World.cell?_of_block (w:=w.alloc o) hbk).trans ((zC w o).cell (p:=⟨b,q,none⟩) hlt)
 have f:∀ q,w2.frozen? ⟨b,q,none⟩ = w.frozen? ⟨b,q,none⟩:=fun q=>(World.frozen?_of_block (w:=w.alloc o) hbk).trans ((zC w o).frozen (p:=⟨b,q,none⟩) hlt)
 refine ⟨⟨World.cell?_setCell_same _ _ _ ((e 0).trans h.c0),(World.cell?_setCell_other _ _ _ _ (by simp)).trans ((e 1).trans h.c1),fun q=>(World.frozen?_setCell _ _ _ _).trans ((f q).trans (h.fz q)),hr.grown (zAV _ b 0 _) (fun k hk=>fun x=>?_)⟩,?_⟩
 ·injection x with x
  have:=(hr.lt k hk).1
  omega
 ·have e1:=hg.size
  simp at e1
  refine ⟨hg.os,hg.tape,hg.output,by simp [World.setCell]; omega,fun i hi h1 h2=>?_⟩
  rw [Below.heap_setCell _ _ _ _ (by simpa using h1)]
  exact (hg.block i (by simp; omega) h2).trans ((zC w o).block i hi)
theorem zCM.last {w:World} {b:Nat} {v:Value} {ps:List ByteArray} {last:Int} (h:zCM w b v ps last) (k:Int):zCM (w.setCell ⟨b,1,none⟩ (.int .i64 k)) b v ps k:=
 ⟨(World.cell?_setCell_other _ _ _ _ (by simp)).trans h.c0,World.cell?_setCell_same _ _ _ h.c1,fun q=>(World.frozen?_setCell _ _ _ _).trans (h.fz q),h.row.grown (zAV _ b 1 _) (fun k hk=>fun x=>by
  injection x with x
  have:=(h.row.lt k hk).1
  omega)⟩
theorem Zb.trans {w w1 w2:World} {p:Nat} {row row':Option Nat} (h:Zb w w1 p row) (h2:Zb w1 w2 p row') (hr:row' = row \/ ∃ k,row' = some k /\ w.heap.size <= k):Zb w w2 p row:=
 ⟨h2.os.trans h.os,h2.tape.trans h.tape,h2.output.trans h.output,Nat.le_trans h.size h2.size,fun i hi h1 hne=>(h2.block i (Nat.lt_of_lt_of_le hi h.size) h1 (fun e=>by
  rcases hr with rfl | ⟨k,rfl,hk⟩
  ·exact hne e
  ·injection e with e; omega)).trans (h.block i hi h1 hne)⟩
theorem Zb.below {w w1 w2:World} {p:Nat} {row:Option Nat} (h:Below w.heap.size w w1) (h2:Zb w1 w2 p row):Zb w w2 p row:=
 ⟨h2.os.trans h.os,h2.tape.trans h.tape,h2.output.trans h.output,Nat.le_trans h.size h2.size,fun i hi h1 hne=>(h2.block i (Nat.lt_of_lt_of_le hi h.size) h1 hne).trans (h.block i hi)⟩
theorem Zb.set {w:World} {p o:Nat} {v:Value} {row:Option Nat}:Zb w (w.setCell ⟨p,o,none⟩ v) p row:=
 ⟨rfl,rfl,rfl,by simp [World.setCell],fun i _ h1 _=>Below.heap_setCell _ _ _ _ (by simpa using h1)⟩
theorem Zb.at {w w':World} {p:Nat} {row row':Option Nat} (h:Zb w w' p row) (hr:row' = row \/ ∃ k,row' = some k /\ w.heap.size <= k) (r:Option Nat) (hr2:r = row' \/ ∃ k,r = some k /\ w'.heap.size <= k):r = row \/ ∃ k,r = some k /\ w.heap.size <= k:=by
 have:=h.size
 rcases hr2 with rfl | ⟨k,rfl,hk⟩
 ·exact hr
 ·exact Or.inr ⟨k,rfl,by omega⟩
theorem Zb.cell {w w':World} {p:Nat} {row:Option Nat} (h:Zb w w' p row) {b:Nat} (hb:b < w.heap.size) (h1:b ≠ p) (h2:row ≠ some b) (o:Nat):w'.cell? ⟨b,o,none⟩ = w.cell? ⟨b,o,none⟩:=
 World.cell?_of_block (w:=w) (h.block b hb h1 (fun e=>h2 e.symm))
def zCf (w:World) (b:Nat) (v:Value) (st:List ByteArray × Int) (x:Ending) (w':World):Prop:=
 x = .returned (.tuple #[]) /\ ∃ v',Hid (zCM w' b v' st.1 st.2) /\ Hid (Zb w w' b v.ownBlock) /\ Hid (v'.ownBlock = v.ownBlock \/ ∃ k,v'.ownBlock = some k /\ w.heap.size <= k)
theorem zCN (b:Nat) (v:Value) (ps:List ByteArray) (last kind:Int) (t:ByteArray) (w:World) (h:zCM w b v ps last) (hl:ps.length + 2 <= 200000) :
  Calls Tryz.prog 68 #[.pointer (some ⟨b,0,none⟩),.string t,.int .i64 kind] w (zCf w b v (ps ++ ((if Zn last kind then [blk] else []) ++ [t]),kind)):=by
 obtain ⟨i0,hi0,hz0,hz1,hz2⟩:∃ i,Tryz.prog.info? 9 = some i /\ i.zero = some (.string ⟨#[]⟩) /\ i.size = 1 /\ i.bytes = 16:=by
  obtain ⟨i,hi,hz⟩:=Option.map_eq_some_iff.1 zMy
  simp only [Prod.mk.injEq] at hz
  exact ⟨i,hi,hz.1,hz.2.1,hz.2.2⟩
 have HI:=zB hi0
 have HZ:=zB (And.intro hz0 (And.intro hz1 hz2))
 clear hi0 hz0 hz1 hz2
 obtain ⟨a,c,rfl⟩:=zCL h.row
 have HP:=zB h
 have hlt:b < w.heap.size:=block_lt_of_cell h.c0
 have c0:=h.c0
 have c1:=h.c1
 have f0:=h.fz 0
 clear h
 have last2:∀ (v1:Value) (ps1:List ByteArray) (w1:World),Hid (zCM w1 b v1 ps1 last) -> Hid (Zb w w1 b (Value.slice a ps.length c).ownBlock) -> Hid (v1.ownBlock = (Value.slice a ps.length c).ownBlock \/ ∃ k,v1.ownBlock = some k /\ w.heap.size <= k) ->
   Hid (zCM (w1.setCell ⟨b,1,none⟩ (.int .i64 kind)) b v1 ps1 kind) /\ Hid (Zb w (w1.setCell ⟨b,1,none⟩ (.int .i64 kind)) b (Value.slice a ps.length c).ownBlock):=
  fun v1 ps1 w1 hp hk ho=>⟨zB ((zA hp).last kind),zB ((zA hk).trans Zb.set (Or.inl rfl))⟩
 have HL:=zB last2
 clear last2
 obtain ⟨ps2,HS2⟩:∃ ps2,Hid (ps ++ ((if Zn last kind then [blk] else []) ++ [t]) = ps2):=⟨_,zB rfl⟩
 rw [zA HS2]
 cases hbl:Zn last kind
 ·have HS3:=zB (show ps2 = ps ++ [t] by rw [<- zA HS2,hbl]; simp)
  clear HS2
  go_enter Tryz.func68,Tryz.ntmps68
  go_wp2_with fail
  refine (zBw last kind _).mono ?_
  rintro e w' ⟨rfl,hw'⟩
  have hw2:=hw'.symm
  subst hw2
  rw [hbl]
  go_wp2_with (at_builtin; go_loud (refine wpList_append_own_at _ rfl (.tmp 25) (.tmp 27) 59 rfl (b + 1) 9 i0 _ 1 16 Tryz.underlying59 (zA HI) (zA HZ).1 (zA HZ).2.1 (zA HZ).2.2 rfl (by decide) _ ps.length (Z2 ps) rfl ((zA HP).row.below (zC _ _)) ⟨w.heap.size,0,none⟩ 1 1 (Z2 [t]) rfl rfl (by simpa using zEN w t) (zCe _) ?b1 ?b2 ?b3 ?next))
  case b1=>unfold maxLen; omega
  case b2=>omega
  case b3=>first | omega | (simp; omega)
  case next=>
   intro v4 w4 hown4 hgrow4 hnil4 hat4
   have hr4:zCK w4 (b + 1) v4 ps2:=by
    unfold zCK
    rw [zA HS3,zBe,List.length_append]
    exact hown4
   obtain ⟨p5,k5⟩:=(zA HP).put hgrow4 hr4
   have HA:=zB (show v4.ownBlock = (Value.slice a ps.length c).ownBlock \/ ∃ k,v4.ownBlock = some k /\ w.heap.size <= k from hat4.imp id (fun h=>⟨_,h,by first | omega | (simp; omega)⟩))
   obtain ⟨a4,c4,rfl⟩:=zCL hr4
   have HP5:=zB p5
   have HK5:=zB k5
   obtain ⟨HP6,HK6⟩:=(zA HL) _ _ _ HP5 HK5 HA
   obtain ⟨qe,ge⟩:=(zA HP).keep hgrow4
   have q0:=(qe 0).trans c0
   have q1:=(qe 1).trans c1
   have g0:=(ge 0).trans f0
   have g1:=(ge 1).trans ((zA HP).fz 1)
   clear hown4 hgrow4 hnil4 hat4 hr4 p5 k5 c0 c1 f0 qe ge
   go_wp2_with fail
   go_end0
   exact ⟨rfl,_,HP6,HK6,HA⟩
 ·obtain ⟨ps1,HS1⟩:∃ ps1,Hid (ps1 = ps ++ [blk]):=⟨_,zB rfl⟩
  have hl1:ps1.length + 1 <= 200000:=by rw [zA HS1]; simp; omega
  have HS3:=zB (show ps2 = ps1 ++ [t] by rw [<- zA HS2,zA HS1,hbl]; simp)
  clear HS2
  go_enter Tryz.func68,Tryz.ntmps68
  go_wp2_with fail
  refine (zBw last kind _).mono ?_
  rintro e w' ⟨rfl,hw'⟩
  have hw2:=hw'.symm
  subst hw2
  rw [hbl]
  go_wp2_with (at_builtin; refine wpList_append_own_at _ rfl (.tmp 16) (.tmp 17) 59 rfl (b + 1) 9 i0 _ 1 16 Tryz.underlying59 (zA HI) (zA HZ).1 (zA HZ).2.1 (zA HZ).2.2 rfl (by decide) _ ps.length (Z2 ps) rfl ((zA HP).row.below (zC _ _)) ⟨w.heap.size,0,none⟩ 1 1 (Z2 [⟨#[32]⟩]) rfl rfl (by simpa using zEN w ⟨#[32]⟩) (zCe _) ?b1 ?b2 ?b3 ?next)
  case b1=>unfold maxLen; omega
  case b2=>omega
  case b3=>first | omega | (simp; omega)
  case next=>
   intro v4 w4 hown4 hgrow4 hnil4 hat4
   have hr4:zCK w4 (b + 1) v4 ps1:=by
    unfold zCK
    rw [zA HS1,zBe,List.length_append]
    exact hown4
   obtain ⟨p5,k5⟩:=(zA HP).put hgrow4 hr4
   have HA:=zB (show v4.ownBlock = (Value.slice a ps.length c).ownBlock \/ ∃ k,v4.ownBlock = some k /\ w.heap.size <= k from hat4.imp id (fun h=>⟨_,h,by first | omega | (simp; omega)⟩))
   obtain ⟨a4,c4,rfl⟩:=zCL hr4
   have HP5:=zB p5
   have HK5:=zB k5
   obtain ⟨qe,ge⟩:=(zA HP).keep hgrow4
   have q0:=(qe 0).trans c0
   have q1:=(qe 1).trans c1
   have g0:=(ge 0).trans f0
   have g1:=(ge 1).trans ((zA HP).fz 1)
   have d0:=p5.c0
   have e0:=p5.fz 0
   have hlt4:b < (w4.setCell ⟨b,0,none⟩ (.slice a4 ps1.length c4)).heap.size:=block_lt_of_cell d0
   obtain ⟨W4,HW4⟩:∃ W4,Hid (W4 = w4.setCell ⟨b,0,none⟩ (.slice a4 ps1.length c4)):=⟨_,zB rfl⟩
   clear hown4 hgrow4 hnil4 hat4 hr4 p5 k5 c0 c1 f0 qe ge
   go_wp2_with (at_builtin; refine wpList_append_own_at _ rfl (.tmp 25) (.tmp 27) 59 rfl (b + 1) 9 i0 _ 1 16 Tryz.underlying59 (zA HI) (zA HZ).1 (zA HZ).2.1 (zA HZ).2.2 rfl (by decide) _ ps1.length (Z2 ps1) rfl ((zA HP5).row.below (zC _ _)) ⟨w4.heap.size,0,none⟩ 1 1 (Z2 [t]) rfl rfl (by simpa [World.setCell] using zEN (w4.setCell ⟨b,0,none⟩ (.slice a4 ps1.length c4)) t) (zCe _) ?b1 ?b2 ?b3 ?next)
   case b1=>unfold maxLen; omega
   case b2=>omega
   case b3=>first | omega | (simp at hlt4 ⊢; omega)
   case next=>
    intro v6 w6 hown6 hgrow6 hnil6 hat6
    have hr6:zCK w6 (b + 1) v6 ps2:=by
     unfold zCK
     rw [zA HS3,zBe,List.length_append]
     exact hown6
    obtain ⟨p7,k7⟩:=(zA HP5).put hgrow6 hr6
    have HK7:=zB ((zA HK5).trans k7 (zA HA))
    have HA7:=zB ((zA HK5).at (zA HA) v6.ownBlock (hat6.imp id (fun h=>⟨_,h,by first | omega | (simp; done) | (simp; omega)⟩)))
    obtain ⟨a6,c6,rfl⟩:=zCL hr6
    have HP7:=zB p7
    obtain ⟨HP8,HK8⟩:=(zA HL) _ _ _ HP7 HK7 HA7
    obtain ⟨qe,ge⟩:=(zA HP5).keep hgrow6
    have r0:=(qe 0).trans d0
    have r1:=(qe 1).trans (zA HP5).c1
    have t0:=(ge 0).trans e0
    have t1:=(ge 1).trans ((zA HP5).fz 1)
    clear hown6 hgrow6 hnil6 hat6 hr6 p7 k7 qe ge q0 q1 g0 g1 d0 e0
    go_wp2_with fail
    go_end0
    exact ⟨rfl,_,HP8,HK8,HA7⟩
def zEi (e:Value) (W:List ze):Prop:=(∃ T v,e = .iface T v) /\ ∀ (b:Nat) (v:Value) (ps:List ByteArray) (last:Int) (w:World) (st:List ByteArray × Int),zCM w b v ps last -> ps.length + 2 * W.length <= 200000 -> st = W.foldl put1 (ps,last) ->
 Calls Tryz.prog 32 #[.pointer (some ⟨b,0,none⟩),e] w (zCf w b v st)
def zL:Value:=.agg #[.string ⟨#[]⟩]
theorem zNv (v:Value):∀ w,(Instr.typeAssert (.iface 119 v) 56 119 true).run Tryz.prog w = .ok (.tuple #[v,.bool true]) w:=fun w=>by kernel_rfl
theorem zMz (v:Value):∀ w,(Instr.typeAssert (.iface 121 v) 56 121 true).run Tryz.prog w = .ok (.tuple #[v,.bool true]) w:=fun w=>by kernel_rfl
theorem zM0 (v:Value):ZH 121 v 119 zL:=fun w=>by kernel_rfl
theorem zNw (v:Value):ZH 129 v 119 zL /\ ZH 129 v 121 zL:=⟨fun w=>by kernel_rfl,fun w=>by kernel_rfl⟩
theorem zNx (v:Value):ZH 131 v 119 zL /\ ZH 131 v 121 zL:=⟨fun w=>by kernel_rfl,fun w=>by kernel_rfl⟩
theorem zM1 (v:Value):ZH 132 v 119 zL /\ ZH 132 v 121 zL:=⟨fun w=>by kernel_rfl,fun w=>by kernel_rfl⟩
theorem zNy (v:Value):ZH 134 v 119 zL /\ ZH 134 v 121 zL /\ ZH 134 v 129 zP /\ ZH 134 v 131 zI /\ ZH 134 v 132 zP:=
 ⟨fun w=>by kernel_rfl,fun w=>by kernel_rfl,fun w=>by kernel_rfl,fun w=>by kernel_rfl,fun w=>by kernel_rfl⟩
theorem zFu (st:List ByteArray × Int) (x:ze):(put1 st x).1.length <= st.1.length + 2:=by
 unfold put1
 simp only [List.length_append,List.length_cons,List.length_nil]
 split <;> simp
theorem zBx:∀ (W:List ze) (st:List ByteArray × Int),(W.foldl put1 st).1.length <= st.1.length + 2 * W.length
 | [],st=>by simp
 | x :: r,st=>by
  have h1:=zFu st x
  have h2:=zBx r (put1 st x)
  simp only [List.foldl_cons,List.length_cons] at *
  omega
theorem zCf.up {w w1:World} {b:Nat} {v:Value} {st:List ByteArray × Int} (h:Below w.heap.size w w1) {x:Ending} {w':World} (hp:zCf w1 b v st x w'):zCf w b v st x w':=by
 obtain ⟨rfl,v',h1,h2,h3⟩:=hp
 have:=h.size
 exact ⟨rfl,v',h1,zB (Zb.below h (zA h2)),zB ((zA h3).imp id (fun ⟨k,a,b⟩=>⟨k,a,by omega⟩))⟩
theorem zCf.join {w w1:World} {b:Nat} {v v1:Value} {st:List ByteArray × Int} (h2:Zb w w1 b v.ownBlock) (h3:v1.ownBlock = v.ownBlock \/ ∃ k,v1.ownBlock = some k /\ w.heap.size <= k) {x:Ending} {w':World} (hp:zCf w1 b v1 st x w'):zCf w b v st x w':=by
 obtain ⟨rfl,v',p1,p2,p3⟩:=hp
 exact ⟨rfl,v',p1,zB (h2.trans (zA p2) h3),zB (h2.at h3 _ (zA p3))⟩
theorem zNz (t:ByteArray):zEi (zG1 t) [⟨t,false,false⟩]:=by
 refine ⟨⟨_,_,rfl⟩,?_⟩
 intro b v ps last w st h hl hst
 have n0:=zNv (.agg #[.string t])
 have HP:=zB h
 have HST:=zB (show st = (ps ++ ((if Zn last 1 then [blk] else []) ++ [t]),1) from hst)
 simp only [List.length_cons,List.length_nil] at hl
 clear h hst
 unfold zG1
 go_enter Tryz.func32,Tryz.ntmps32
 go_wp2_with fail
 refine (zCN b v ps last 1 t _ ((zA HP).below (zC _ _)) (by omega)).mono ?_
 intro x w1 hp
 rw [<- zA HST] at hp
 obtain ⟨rfl,v1,p1,p2,p3⟩:=hp.up (zC _ _)
 go_wp2_with fail
 go_end0
 exact ⟨rfl,v1,p1,p2,p3⟩
theorem zM2 (t:ByteArray):zEi (zDY t) [⟨t,false,false⟩]:=by
 refine ⟨⟨_,_,rfl⟩,?_⟩
 intro b v ps last w st h hl hst
 have n0:=zMz (.agg #[.string t])
 have n1:=zM0 (.agg #[.string t])
 unfold ZH zL at n1
 have HP:=zB h
 have HST:=zB (show st = (ps ++ ((if Zn last 1 then [blk] else []) ++ [t]),1) from hst)
 simp only [List.length_cons,List.length_nil] at hl
 clear h hst
 unfold zDY
 go_enter Tryz.func32,Tryz.ntmps32
 go_wp2_with fail
 refine (zCN b v ps last 1 t _ ((zA HP).below (zC _ _)) (by omega)).mono ?_
 intro x w1 hp
 rw [<- zA HST] at hp
 obtain ⟨rfl,v1,p1,p2,p3⟩:=hp.up (zC _ _)
 go_wp2_with fail
 go_end0
 exact ⟨rfl,v1,p1,p2,p3⟩
theorem zN0 {e:Value} {W:List ze} (he:zEi e W) (p:OpR):zEi (zC5 p e) (⟨p.s,true,false⟩ :: W):=by
 refine ⟨⟨_,_,rfl⟩,?_⟩
 intro b v ps last w st h hl hst
 obtain ⟨⟨T,u,rfl⟩,hcall⟩:=he
 have n0:=zLL (.agg #[.string p.s,.int .i64 p.k,.int .i64 p.l,.int .i64 p.sd,.iface T u])
 have n1:=zNw (.agg #[.string p.s,.int .i64 p.k,.int .i64 p.l,.int .i64 p.sd,.iface T u])
 unfold ZH zL at n1
 obtain ⟨n1,n2⟩:=n1
 have HP:=zB h
 have hlt:b < w.heap.size:=block_lt_of_cell h.c0
 have hv:v.ownBlock ≠ some w.heap.size:=fun e=>by have:=(h.row.lt _ e).2; omega
 have hl1:=zBx [⟨p.s,true,false⟩] (ps,last)
 obtain ⟨st1,HS1⟩:∃ st1,Hid (st1 = put1 (ps,last) ⟨p.s,true,false⟩):=⟨_,zB rfl⟩
 have HS1':=zB (show st1 = (ps ++ ((if Zn last 2 then [blk] else []) ++ [p.s]),2) from zA HS1)
 have HST:=zB (show st = W.foldl put1 (st1.1,st1.2) by rw [hst,List.foldl_cons,<- zA HS1])
 have hl2:st1.1.length + 2 * W.length <= 200000:=by
  simp only [List.foldl_cons,List.foldl_nil,List.length_cons,List.length_nil] at hl hl1
  rw [<- zA HS1] at hl1
  omega
 simp only [List.length_cons] at hl
 have HC:=zB hcall
 clear h hst hcall hl1
 unfold zC5
 go_enter Tryz.func32,Tryz.ntmps32
 go_wp2_with fail
 refine (zCN b v ps last 2 p.s _ ((zA HP).below (zC _ _)) (by omega)).mono ?_
 intro x w1 hp
 rw [<- zA HS1'] at hp
 obtain ⟨rfl,v1,p1,p2,p3⟩:=hp
 have q4:w1.cell? ⟨w.heap.size,4,none⟩ = some (.iface T u):=((zA p2).cell (b:=w.heap.size) (by simp) (by omega) hv 4).trans (by simp [go_sem])
 have HK:=zB (Zb.below (zC _ _) (zA p2))
 have HA:=zB ((zA p3).imp id (fun ⟨k,a,b⟩=>⟨k,a,by simp at b; omega⟩):v1.ownBlock = v.ownBlock \/ ∃ k,v1.ownBlock = some k /\ w.heap.size <= k)
 clear p2 p3 n0 n1 n2
 go_wp2_with fail
 refine ((zA HC) b v1 st1.1 st1.2 _ st (zA p1) hl2 (zA HST)).mono ?_
 intro x w2 hp
 obtain ⟨rfl,v2,r1,r2,r3⟩:=hp.join (zA HK) (zA HA)
 clear q4
 go_wp2_with fail
 go_end0
 exact ⟨rfl,v2,r1,r2,r3⟩
theorem zM3 {e:Value} {W:List ze} (he:zEi e W) (p:OpR):zEi (zAo p e) (W ++ [⟨p.s,true,false⟩]):=by
 refine ⟨⟨_,_,rfl⟩,?_⟩
 intro b v ps last w st h hl hst
 obtain ⟨⟨T,u,rfl⟩,hcall⟩:=he
 have n0:=zJd (.agg #[.string p.s,.int .i64 p.k,.int .i64 p.l,.int .i64 p.sd,.iface T u])
 have n1:=zM1 (.agg #[.string p.s,.int .i64 p.k,.int .i64 p.l,.int .i64 p.sd,.iface T u])
 have n3:=zJc (.agg #[.string p.s,.int .i64 p.k,.int .i64 p.l,.int .i64 p.sd,.iface T u])
 unfold ZH zL at n1
 obtain ⟨n1,n2⟩:=n1
 obtain ⟨_,n3,n4⟩:=n3
 unfold ZH zP at n3
 unfold ZH zI at n4
 have HP:=zB h
 have hlt:b < w.heap.size:=block_lt_of_cell h.c0
 have hv:v.ownBlock ≠ some w.heap.size:=fun e=>by have:=(h.row.lt _ e).2; omega
 obtain ⟨st1,HS1⟩:∃ st1,Hid (st1 = W.foldl put1 (ps,last)):=⟨_,zB rfl⟩
 have hl1:=zBx W (ps,last)
 rw [<- zA HS1] at hl1
 have HST:=zB (show st = (st1.1 ++ ((if Zn st1.2 2 then [blk] else []) ++ [p.s]),2) by rw [hst,List.foldl_append,<- zA HS1]; rfl)
 simp only [List.length_append,List.length_cons,List.length_nil] at hl hl1
 have hl2:st1.1.length + 2 <= 200000:=by omega
 have HC:=zB hcall
 clear h hst hcall hl1
 unfold zAo
 go_enter Tryz.func32,Tryz.ntmps32
 go_wp2_with fail
 refine ((zA HC) b v ps last _ st1 ((zA HP).below (zC _ _)) (by omega) (zA HS1)).mono ?_
 intro x w1 hp
 obtain ⟨rfl,v1,p1,p2,p3⟩:=hp
 have q4:w1.cell? ⟨w.heap.size,0,none⟩ = some (.string p.s):=((zA p2).cell (b:=w.heap.size) (by simp) (by omega) hv 0).trans (by simp [go_sem])
 have HK:=zB (Zb.below (zC _ _) (zA p2))
 have HA:=zB ((zA p3).imp id (fun ⟨k,a,b⟩=>⟨k,a,by simp at b; omega⟩):v1.ownBlock = v.ownBlock \/ ∃ k,v1.ownBlock = some k /\ w.heap.size <= k)
 clear p2 p3 n0 n1 n2 n3 n4
 go_wp2_with fail
 refine (zCN b v1 st1.1 st1.2 2 p.s _ (zA p1) hl2).mono ?_
 intro x w2 hp
 rw [<- zA HST] at hp
 obtain ⟨rfl,v2,r1,r2,r3⟩:=hp.join (zA HK) (zA HA)
 clear q4
 go_wp2_with fail
 go_end0
 exact ⟨rfl,v2,r1,r2,r3⟩
theorem zN1 {e e':Value} {W W':List ze} (he:zEi e W) (he':zEi e' W') (p:OpR):zEi (zCV p e e') (W ++ (⟨p.s,true,true⟩ :: W')):=by
 refine ⟨⟨_,_,rfl⟩,?_⟩
 intro b v ps last w st h hl hst
 obtain ⟨⟨T,u,rfl⟩,hcall⟩:=he
 obtain ⟨⟨T',u',rfl⟩,hcall'⟩:=he'
 have n0:=zLM (.agg #[.string p.s,.int .i64 p.k,.int .i64 p.l,.int .i64 p.sd,.iface T u,.iface T' u'])
 have n1:=zNx (.agg #[.string p.s,.int .i64 p.k,.int .i64 p.l,.int .i64 p.sd,.iface T u,.iface T' u'])
 have n3:=zLJ (.agg #[.string p.s,.int .i64 p.k,.int .i64 p.l,.int .i64 p.sd,.iface T u,.iface T' u'])
 unfold ZH zL at n1
 obtain ⟨n1,n2⟩:=n1
 obtain ⟨_,n3⟩:=n3
 unfold ZH zP at n3
 have HP:=zB h
 have hlt:b < w.heap.size:=block_lt_of_cell h.c0
 have hv:v.ownBlock ≠ some w.heap.size:=fun e=>by have:=(h.row.lt _ e).2; omega
 obtain ⟨st1,HS1⟩:∃ st1,Hid (st1 = W.foldl put1 (ps,last)):=⟨_,zB rfl⟩
 have hl1:=zBx W (ps,last)
 rw [<- zA HS1] at hl1
 obtain ⟨st2,HS2⟩:∃ st2,Hid (st2 = put1 st1 ⟨p.s,true,true⟩):=⟨_,zB rfl⟩
 have hl2:=zFu st1 ⟨p.s,true,true⟩
 rw [<- zA HS2] at hl2
 have HS2':=zB (show st2 = (st1.1 ++ ((if Zn st1.2 3 then [blk] else []) ++ [p.s]),3) from zA HS2)
 have HST:=zB (show st = W'.foldl put1 (st2.1,st2.2) by rw [hst,List.foldl_append,<- zA HS1,List.foldl_cons,<- zA HS2])
 simp only [List.length_append,List.length_cons,List.length_nil] at hl hl1
 have hl3:st1.1.length + 2 <= 200000:=by omega
 have hl4:st2.1.length + 2 * W'.length <= 200000:=by omega
 have HC:=zB hcall
 have HC':=zB hcall'
 clear h hst hcall hcall' hl1 hl2
 unfold zCV
 go_enter Tryz.func32,Tryz.ntmps32
 go_wp2_with fail
 refine ((zA HC) b v ps last _ st1 ((zA HP).below (zC _ _)) (by omega) (zA HS1)).mono ?_
 intro x w1 hp
 obtain ⟨rfl,v1,p1,p2,p3⟩:=hp
 have q0:w1.cell? ⟨w.heap.size,0,none⟩ = some (.string p.s):=((zA p2).cell (b:=w.heap.size) (by simp) (by omega) hv 0).trans (by simp [go_sem])
 have q5:w1.cell? ⟨w.heap.size,5,none⟩ = some (.iface T' u'):=((zA p2).cell (b:=w.heap.size) (by simp) (by omega) hv 5).trans (by simp [go_sem])
 have HK:=zB (Zb.below (zC _ _) (zA p2))
 have hz:w.heap.size < w1.heap.size:=by have:=(zA p2).size; simp at this; omega
 have hv1:v1.ownBlock ≠ some w.heap.size:=fun e=>by
  rcases zA p3 with h | ⟨k,h1,h2⟩
  ·exact hv (h.symm.trans e)
  ·rw [h1] at e; injection e with e; simp at h2; omega
 have HA:=zB ((zA p3).imp id (fun ⟨k,a,b⟩=>⟨k,a,by simp at b; omega⟩):v1.ownBlock = v.ownBlock \/ ∃ k,v1.ownBlock = some k /\ w.heap.size <= k)
 clear p2 p3 n0 n1 n2 n3
 go_wp2_with fail
 refine (zCN b v1 st1.1 st1.2 3 p.s _ (zA p1) hl3).mono ?_
 intro x w2 hp
 rw [<- zA HS2'] at hp
 obtain ⟨rfl,v2,r1,r2,r3⟩:=hp
 have s5:w2.cell? ⟨w.heap.size,5,none⟩ = some (.iface T' u'):=((zA r2).cell (b:=w.heap.size) hz (by omega) hv1 5).trans q5
 have HK2:=zB ((zA HK).trans (zA r2) (zA HA))
 have HA2:=zB ((zA HK).at (zA HA) _ (zA r3))
 clear r2 r3 HK HA q0 q5
 go_wp2_with fail
 refine ((zA HC') b v2 st2.1 st2.2 _ st (zA r1) hl4 (zA HST)).mono ?_
 intro x w3 hp
 obtain ⟨rfl,v3,t1,t2,t3⟩:=hp.join (zA HK2) (zA HA2)
 clear s5
 go_wp2_with fail
 go_end0
 exact ⟨rfl,v3,t1,t2,t3⟩
theorem zN2 {e:Value} {W:List ze} (he:zEi e W):zEi (zDZ e) (⟨opn,false,false⟩ :: (W ++ [⟨zA5,false,false⟩])):=by
 refine ⟨⟨_,_,rfl⟩,?_⟩
 intro b v ps last w st h hl hst
 obtain ⟨⟨T,u,rfl⟩,hcall⟩:=he
 have n0:=zLK (.agg #[.iface T u])
 have n1:=zNy (.agg #[.iface T u])
 obtain ⟨n1,n2,n3,n4,n5⟩:=n1
 unfold ZH zL at n1 n2
 unfold ZH zP at n3 n5
 unfold ZH zI at n4
 have HP:=zB h
 have hlt:b < w.heap.size:=block_lt_of_cell h.c0
 have hv:v.ownBlock ≠ some w.heap.size:=fun e=>by have:=(h.row.lt _ e).2; omega
 obtain ⟨st1,HS1⟩:∃ st1,Hid (st1 = put1 (ps,last) ⟨opn,false,false⟩):=⟨_,zB rfl⟩
 have hl1:=zFu (ps,last) ⟨opn,false,false⟩
 rw [<- zA HS1] at hl1
 have HS1':=zB (show st1 = (ps ++ ((if Zn last 1 then [blk] else []) ++ [⟨#[40]⟩]),1) from zA HS1)
 obtain ⟨st2,HS2⟩:∃ st2,Hid (st2 = W.foldl put1 (st1.1,st1.2)):=⟨_,zB rfl⟩
 have hl2:=zBx W (st1.1,st1.2)
 rw [<- zA HS2] at hl2
 have HST:=zB (show st = (st2.1 ++ ((if Zn st2.2 1 then [blk] else []) ++ [⟨#[41]⟩]),1) by
  rw [hst,List.foldl_cons,<- zA HS1,List.foldl_append]
  show List.foldl put1 (List.foldl put1 (st1.1,st1.2) W) _ = _
  rw [<- zA HS2]
  rfl)
 simp only [List.length_append,List.length_cons,List.length_nil] at hl hl1 hl2
 have hl3:st1.1.length + 2 * W.length <= 200000:=by omega
 have hl4:st2.1.length + 2 <= 200000:=by omega
 have HC:=zB hcall
 clear h hst hcall hl1 hl2
 unfold zDZ
 go_enter Tryz.func32,Tryz.ntmps32
 go_wp2_with fail
 refine (zCN b v ps last 1 ⟨#[40]⟩ _ ((zA HP).below (zC _ _)) (by omega)).mono ?_
 intro x w1 hp
 rw [<- zA HS1'] at hp
 obtain ⟨rfl,v1,p1,p2,p3⟩:=hp
 have q4:w1.cell? ⟨w.heap.size,0,none⟩ = some (.iface T u):=((zA p2).cell (b:=w.heap.size) (by simp) (by omega) hv 0).trans (by simp [go_sem])
 have HK:=zB (Zb.below (zC _ _) (zA p2))
 have HA:=zB ((zA p3).imp id (fun ⟨k,a,b⟩=>⟨k,a,by simp at b; omega⟩):v1.ownBlock = v.ownBlock \/ ∃ k,v1.ownBlock = some k /\ w.heap.size <= k)
 clear p2 p3 n0 n1 n2 n3 n4 n5
 go_wp2_with fail
 refine ((zA HC) b v1 st1.1 st1.2 _ st2 (zA p1) hl3 (zA HS2)).mono ?_
 intro x w2 hp
 obtain ⟨rfl,v2,r1,r2,r3⟩:=hp
 have HK2:=zB ((zA HK).trans (zA r2) (zA HA))
 have HA2:=zB ((zA HK).at (zA HA) _ (zA r3))
 clear r2 r3 HK HA q4
 go_wp2_with fail
 refine (zCN b v2 st2.1 st2.2 1 ⟨#[41]⟩ _ (zA r1) hl4).mono ?_
 intro x w3 hp
 rw [<- zA HST] at hp
 obtain ⟨rfl,v3,t1,t2,t3⟩:=hp.join (zA HK2) (zA HA2)
 go_wp2_with fail
 go_end0
 exact ⟨rfl,v3,t1,t2,t3⟩
theorem zM4 (ns:List OpR):∀ T:ET,zAN ns T -> zEi (exT ns T) (yT T):=by
 intro T
 induction T with
 | nil=>intro h; exact h.elim
 | node b o t l r ihl ihr=>
  rintro ⟨rfl,h⟩
  rcases h with ⟨h | h,rfl,rfl⟩ | ⟨rfl,rfl,hl,rfl⟩ | ⟨h | h,hk,hl,rfl⟩ | ⟨rfl,hk,hl,hr⟩
  ·subst h
   exact zNz t
  ·subst h
   exact zM2 t
  ·have e:yT (.node 6 0 ByteArray.empty l .nil) = ⟨opn,false,false⟩ :: (yT l ++ [⟨zA5,false,false⟩]):=by simp [yT,ySy,wS]
   rw [e]
   exact zN2 (ihl hl)
  ·subst h
   have e:yT (.node 3 0 t l .nil) = ⟨(opA ns (rt 3 t)).s,true,false⟩ :: yT l:=by rw [zDd hk]; simp [yT,ySy,wS]
   rw [e]
   exact zN0 (ihl hl) _
  ·subst h
   have e:yT (.node 5 0 t l .nil) = yT l ++ [⟨(opA ns (rt 5 t)).s,true,false⟩]:=by rw [zDd hk]; simp [yT,ySy,wS]
   rw [e]
   exact zM3 (ihl hl) _
  ·have e:yT (.node 4 0 t l r) = yT l ++ (⟨(opA ns (rt 4 t)).s,true,true⟩ :: yT r):=by rw [zDd hk]; simp [yT,ySy,wS]
   rw [e]
   exact zN1 (ihl hl) (ihr hr) _
end Go.Proofs.YtfboipappaonhaaGreat
