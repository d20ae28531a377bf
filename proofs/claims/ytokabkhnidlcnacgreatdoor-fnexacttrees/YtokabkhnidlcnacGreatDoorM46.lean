import Derived.Test.YtokabkhnidlcnacGreatDoorM45
namespace Go.Proofs.YtokabkhnidlcnacGreatDoor
set_option linter.unusedSimpArgs false
set_option linter.unusedVariables false
set_option maxHeartbeats 16000000
set_option maxRecDepth 100000
open Go.RowKit Go.Maps
def PUk (ms:List zJ) (U:List UnR) (k:Nat):Prop:=U.length = k /\ ∀ i,i < k -> ∃ us,zq (atM ms i).t us (atU U i).os (atU U i).b 0 0 /\ (atU U i).us = dst us
theorem PUk.step {ms:List zJ} {U:List UnR} {k:Nat} {us:List ByteArray} {os:List OpR} {b:ByteArray} (h:PUk ms U k) (hu:zq (atM ms k).t us os b 0 0):PUk ms (U ++ [⟨dst us,os,b⟩]) (k + 1):=by
 obtain ⟨h1,h2⟩:=h
 refine ⟨by simp [h1],fun i hi=>?_⟩
 by_cases e:i < k
 ·rw [zF6 (by omega)]
  exact h2 i e
 ·have e1:i = k:=by omega
  subst e1
  rw [<- h1,zF7,h1]
  exact ⟨us,hu,rfl⟩
theorem PUk.small {ms:List zJ} {U:List UnR} (h:PUk ms U ms.length) (hn:ms.length <= 100):(ZE U).length <= 400000 /\ (∀ o ∈ ZE U,zCy o) /\ ∀ i,i < ms.length -> (atU U i).us.length <= 20001 /\ ∀ u ∈ (atU U i).us,u.size <= maxLen:=by
 obtain ⟨h1,h2⟩:=h
 refine ⟨?_,?_,?_⟩
 ·have:=zDn U (fun u hu=>by
   obtain ⟨i,hi,e⟩:=zFe hu
   obtain ⟨us,h3,_⟩:=h2 i (by omega)
   rw [<- e]; exact (zD3 h3).1)
  omega
 ·intro o ho
  obtain ⟨u,hu,hou⟩:=List.mem_flatMap.1 ho
  obtain ⟨i,hi,e⟩:=zFe hu
  obtain ⟨us,h3,_⟩:=h2 i (by omega)
  obtain ⟨a,b,c,d⟩:=zGC h3 o (by rw [e]; exact hou)
  have wf:∀ x:Int,0 <= x -> x < 1000000 -> (Lit.int .i64 x).wf = true:=fun x h1 h2=>by
   show (decide (IntKind.i64.min <= x) && decide (x <= IntKind.i64.max)) = true
   have e1:IntKind.i64.min = -9223372036854775808:=by decide
   have e2:IntKind.i64.max = 9223372036854775807:=by decide
   rw [e1,e2]
   simp
   omega
  exact ⟨by unfold maxLen; omega,wf _ (by omega) (by omega),wf _ (by omega) (by omega),wf _ (by omega) (by omega)⟩
 ·intro i hi
  obtain ⟨us,h3,h4⟩:=h2 i hi
  obtain ⟨a,b⟩:=zCN h3
  have hl:=zEe us []
  simp at hl
  rw [h4]
  refine ⟨by unfold dst; omega,fun u hu=>?_⟩
  rcases (zAK us []).1 hu with hu | hu
  ·cases hu
  ·have:=b u hu; unfold maxLen; omega
structure NmK (ms:List zJ) (ks:List ByteArray) (k:Nat):Prop where
 ln:ks.length = k
 at':∀ i,i < k -> ks[i]? = some (atM ms i).n
 nd:ks.Nodup
 sz:∀ x ∈ ks,x.size <= maxLen
theorem NmK.all {ms:List zJ} {ks:List ByteArray} (h:NmK ms ks ms.length):zAz ms ks:=⟨h.ln,h.at',h.nd,h.sz⟩
theorem NmK.b3 {ms:List zJ} {ks:List ByteArray} {k:Nat} (h:NmK ms ks k):(atM ms k).n ∉ ks ↔ ¬ B3 ms k:=by
 constructor
 ·rintro h1 ⟨j,hj,e⟩
  exact h1 (by rw [<- e]; exact List.mem_of_getElem? (h.at' j hj))
 ·intro h1 h2
  obtain ⟨j,hj,e⟩:=List.getElem_of_mem h2
  have hl:=h.ln
  have:=h.at' j (by omega)
  rw [List.getElem?_eq_getElem hj,e] at this
  injection this with this
  exact h1 ⟨j,by omega,this.symm⟩
theorem NmK.step {ms:List zJ} {ks:List ByteArray} {k:Nat} (h:NmK ms ks k) (hn:(atM ms k).n ∉ ks) (hs:(atM ms k).n.size <= maxLen):NmK ms (ks ++ [(atM ms k).n]) (k + 1):=by
 refine ⟨by simp [h.ln],fun i hi=>?_,?_,fun x hx=>?_⟩
 ·by_cases e:i < k
  ·rw [List.getElem?_append_left (by rw [h.ln]; exact e)]
   exact h.at' i e
  ·have e1:i = k:=by omega
   subst e1
   rw [<- h.ln,List.getElem?_concat_length,h.ln]
 ·rw [List.nodup_append]
  exact ⟨h.nd,by simp,fun a ha b hb e=>by simp at hb; rw [e,hb] at ha; exact hn ha⟩
 ·rcases List.mem_append.1 hx with hx | hx
  ·exact h.sz x hx
  ·simp at hx; rw [hx]; exact hs
structure LdK (w0 W:World) (X:Nat) (ob:Obj) (wr:World):Prop where
 box:wr.heap[X]? = some ob
 hX:w0.heap.size + 2 <= X
 bel:Below w0.heap.size w0 wr
 row:wr.heap[w0.heap.size + 2]? = W.heap[w0.heap.size + 2]?
 siz:w0.heap.size + 3 <= wr.heap.size
 c5:wr.cell? ⟨w0.heap.size + 1,5,none⟩ = some (.slice none 0 0) /\ wr.frozen? ⟨w0.heap.size + 1,5,none⟩ = false
def StN (w0 wr:World) (X:Nat) (am:Option Addr) (cm:Nat) (ms:List zJ) (U:List UnR) (ks:List ByteArray) (C:Nat) (k:Nat):Prop:=
 ∃ v1 vs kv pv,kv.ownBlock ≠ some X /\ pv ≠ some X /\ PUk ms U ms.length /\ (∀ i,i < ms.length -> ¬ B2 ms i) /\ NmK ms ks k /\ ScH wr (w0.heap.size + 3) C (w0.heap.size + 1) w0.heap.size am cm ms v1 vs U kv pv ks
def St (w0 W:World) (X:Nat) (ob:Obj) (am:Option Addr) (cm:Nat) (ms:List zJ):Nat -> Nat -> World -> Prop
 | 0,k,wr=>LdK w0 W X ob wr /\ (∀ i,i < k -> ¬ B2 ms i) /\ ∃ v1 vs U,vs.length = k /\ PgA wr (w0.heap.size + 3) (w0.heap.size + 1) w0.heap.size am cm ms.length v1 vs U /\ PUk ms U k /\ v1.ownBlock ≠ some X
 | 1,k,wr=>LdK w0 W X ob wr /\ (∀ i,i < k -> ¬ B3 ms i) /\ ∃ U ks C,StN w0 wr X am cm ms U ks C k /\ ZQ wr w0.heap.size 0 (fun _=>none)
 | 2,k,wr=>LdK w0 W X ob wr /\ (∀ i,i < ms.length -> ¬ B3 ms i) /\ ∃ U ks C,StN w0 wr X am cm ms U ks C ms.length /\ ZQ wr w0.heap.size 0 (fun _=>none) /\ ∀ i,i < k -> ¬ B4 ms U i
 | 3,k,wr=>LdK w0 W X ob wr /\ (∀ i,i < ms.length -> ¬ B3 ms i) /\ ∃ U ks C,StN w0 wr X am cm ms U ks C ms.length /\ ZQ wr w0.heap.size 0 (fun _=>none) /\ (∀ i,i < ms.length -> ¬ B4 ms U i) /\ ∀ i,i < k -> ¬ TC (Edg ms U) i i
 | _,k,wr=>LdK w0 W X ob wr /\ (∀ i,i < ms.length -> ¬ B3 ms i) /\ ∃ U ks C T rk G,StN w0 wr X am cm ms U ks C ms.length /\ (∀ i,i < ms.length -> ¬ B4 ms U i) /\ (∀ i,i < ms.length -> ¬ TC (Edg ms U) i i) /\ RkE ms.length (nmF ms) U rk /\ BrE ms.length (nmF ms) U T /\ ScM wr C w0.heap.size ms T G /\ ∀ i,i < k -> zL (T i) 0
def Fl (ms:List zJ):Nat -> Nat -> Prop
 | 0,k=>(∀ i,i < k -> ¬ B2 ms i) /\ B2 ms k
 | 1,k=>(∀ i,i < ms.length -> ¬ B2 ms i) /\ (∀ i,i < k -> ¬ B3 ms i) /\ B3 ms k
 | 2,k=>(∀ i,i < ms.length -> ¬ B2 ms i) /\ (∀ i,i < ms.length -> ¬ B3 ms i) /\ ∃ U,PUk ms U ms.length /\ (∀ i,i < k -> ¬ B4 ms U i) /\ B4 ms U k
 | 3,k=>(∀ i,i < ms.length -> ¬ B2 ms i) /\ (∀ i,i < ms.length -> ¬ B3 ms i) /\ ∃ U,PUk ms U ms.length /\ (∀ i,i < ms.length -> ¬ B4 ms U i) /\ (∀ i,i < k -> ¬ TC (Edg ms U) i i) /\ TC (Edg ms U) k k
 | _,k=>(∀ i,i < ms.length -> ¬ B2 ms i) /\ (∀ i,i < ms.length -> ¬ B3 ms i) /\ ∃ U T rk,PUk ms U ms.length /\ (∀ i,i < ms.length -> ¬ B4 ms U i) /\ (∀ i,i < ms.length -> ¬ TC (Edg ms U) i i) /\ RkE ms.length (nmF ms) U rk /\ BrE ms.length (nmF ms) U T /\ (∀ i,i < k -> zL (T i) 0) /\ ¬ zL (T k) 0
def zGw (w0 W:World) (X:Nat) (ob:Obj) (am:Option Addr) (cm:Nat) (ms:List zJ) (s k:Nat) (e:Ending) (w':World):Prop:=
 ∃ b,e = .returned (.bool b) /\ (b = true -> St w0 W X ob am cm ms s (k + 1) w') /\ (b = false -> Fl ms s k /\ LdK w0 W X ob w')
theorem zDM {k:Nat} {p:Nat -> Prop} (h:∀ i,i < k -> p i) (hk:p k):∀ i,i < k + 1 -> p i:=fun i hi=>by
 by_cases e:i = k
 ·rw [e]; exact hk
 ·exact h i (by omega)
theorem LdK.xl {w0 W wr:World} {X:Nat} {ob:Obj} (h:LdK w0 W X ob wr):X < wr.heap.size:=by
 by_cases e:X < wr.heap.size
 ·exact e
 ·have:=h.box
  rw [Array.getElem?_eq_none (by omega)] at this
  cases this
theorem LdK.kpp {w0 W wr w':World} {X:Nat} {ob:Obj} {v1:Value} (h:LdK w0 W X ob wr) (hl:∀ g,v1.ownBlock = some g -> w0.heap.size + 3 <= g) (hv:v1.ownBlock ≠ some X) (hk:KpP (w0.heap.size + 1) v1 wr w'):LdK w0 W X ob w':=by
 have hz:=h.siz
 have hz':=hk.size
 have hX:=h.hX
 have nv:∀ q,q < w0.heap.size + 3 -> v1.ownBlock ≠ some q:=fun q hq e=>by have:=hl q e; omega
 exact ⟨(hk.blk X h.xl (by omega) hv).trans h.box,hX,⟨hk.os.trans h.bel.os,hk.tape.trans h.bel.tape,hk.output.trans h.bel.output,by omega,fun q hq=>(hk.blk q (by omega) (by omega) (nv q (by omega))).trans (h.bel.block q hq)⟩,(hk.blk _ (by omega) (by omega) (nv _ (by omega))).trans h.row,by omega,⟨(hk.cel 5 (by decide)).1.trans h.c5.1,(hk.cel 5 (by decide)).2.trans h.c5.2⟩⟩
theorem LdK.below {w0 W wr w':World} {X:Nat} {ob:Obj} (h:LdK w0 W X ob wr) (hb:Below wr.heap.size wr w'):LdK w0 W X ob w':=by
 have hz:=h.siz
 have hz':=hb.size
 exact ⟨(hb.block X h.xl).trans h.box,h.hX,h.bel.trans (hb.mono (by omega)),(hb.block _ (by omega)).trans h.row,by omega,⟨(hb.cell (p:=⟨w0.heap.size + 1,5,none⟩) (show w0.heap.size + 1 < _ by omega)).trans h.c5.1,(hb.frozen (p:=⟨w0.heap.size + 1,5,none⟩) (show w0.heap.size + 1 < _ by omega)).trans h.c5.2⟩⟩
theorem LdK.eff {w0 W wr w':World} {X:Nat} {ob:Obj} {kv:Value} {pv:Option Nat} {C:Nat} (h:LdK w0 W X ob wr) (hC:w0.heap.size + 3 <= C) (he:Eff wr w' (w0.heap.size + 1) 2 kv pv) (hk:∀ g,kv.ownBlock = some g -> C <= g) (hp:∀ g,pv = some g -> C <= g) (hkX:kv.ownBlock ≠ some X) (hpX:pv ≠ some X):LdK w0 W X ob w':=by
 have hXX:=h.hX
 have hz:=h.siz
 have hz':=he.size
 have sm:∀ q,q < w0.heap.size + 3 -> q ≠ w0.heap.size + 1 -> w'.heap[q]? = wr.heap[q]?:=fun q h1 h2=>he.blk q (by omega) h2 (fun e=>by have:=hk q e; omega) (fun e=>by have:=hp q e; omega)
 exact ⟨(he.blk X h.xl (by omega) hkX hpX).trans h.box,hXX,⟨he.os.trans h.bel.os,he.tape.trans h.bel.tape,he.output.trans h.bel.output,by omega,fun q hq=>(sm q (by omega) (by omega)).trans (h.bel.block q hq)⟩,(sm _ (by omega) (by omega)).trans h.row,by omega,⟨(he.cel 5 (by decide) (by decide)).1.trans h.c5.1,(he.cel 5 (by decide) (by decide)).2.trans h.c5.2⟩⟩
theorem LdK.grown {w0 W wr w':World} {X:Nat} {ob:Obj} (h:LdK w0 W X ob wr) (hg:wr.grownBy w' (some w0.heap.size)):LdK w0 W X ob w':=by
 have hz:=h.siz
 have hz':=hg.size
 have hXX:=h.hX
 exact ⟨(hg.block X h.xl (fun e=>by injection e with e; omega)).trans h.box,hXX,⟨hg.os.trans h.bel.os,hg.tape.trans h.bel.tape,hg.output.trans h.bel.output,by omega,fun q hq=>(hg.block q (by omega) (fun e=>by injection e with e; omega)).trans (h.bel.block q hq)⟩,(hg.block _ (by omega) (fun e=>by injection e with e; omega)).trans h.row,by omega,⟨(World.cell?_of_block (w:=wr) (hg.block (w0.heap.size + 1) (by omega) (fun e=>by injection e with e; omega))).trans h.c5.1,(World.frozen?_of_block (w:=wr) (hg.block (w0.heap.size + 1) (by omega) (fun e=>by injection e with e; omega))).trans h.c5.2⟩⟩
structure LdG (w0:World) (am:Option Addr) (ms:List zJ):Prop where
 hn:ms.length <= 100
 arg:zBz w0 am ms
 sz:∀ i,i < ms.length -> (atM ms i).n.size <= maxLen /\ (atM ms i).t.size <= maxLen
 mx:zEy w0
theorem zPS {w0 W:World} {X:Nat} {ob:Obj} {am:Option Addr} {cm:Nat} {ms:List zJ} (g:LdG w0 am ms) {k:Nat} (hk:k < ms.length) {wr:World} (h:St w0 W X ob am cm ms 0 k wr) :
  Calls Tryz.prog 90 #[.pointer (some ⟨w0.heap.size + 1,0,none⟩),.int .i64 (k:Int)] wr (zGw w0 W X ob am cm ms 0 k):=by
 obtain ⟨hK,hg,v1,vs,U,hl,hP,hU,hvX⟩:=h
 have hn:=g.hn
 refine (zHF w0.heap.size _ _ _ am cm ms v1 vs U k wr hP hK.siz (by omega) (g.arg.below hK.bel) hk (by omega) (g.sz k hk).2 (g.sz k hk).1 (g.mx.below hK.bel)).mono ?_
 rintro e w' ⟨⟨b,rfl,hb⟩,hkp,x,us,os,bb,c,l,v4,hui,hP4,hsn⟩
 have hK':=hK.kpp (fun g e=>(hP.row.lt g e).1) hvX hkp
 refine ⟨b,rfl,fun e=>?_,fun e=>⟨⟨hg,?_⟩,hK'⟩⟩
 ·have hnb:=hb.1 e
  obtain ⟨rfl,rfl,_,_⟩:=zMm hnb hui
  exact ⟨hK',zDM hg hnb,v4,_,_,by simp [hl],hP4,hU.step hui,hsn.ne hvX hK.xl⟩
 ·by_cases hx:B2 ms k
  ·exact hx
  ·have:=hb.2 hx; rw [e] at this; cases this
theorem zNz {w0 W:World} {X:Nat} {ob:Obj} {am:Option Addr} {cm:Nat} {ms:List zJ} {wr:World} (h:St w0 W X ob am cm ms 0 ms.length wr):St w0 W X ob am cm ms 1 0 wr:=by
 obtain ⟨hK,hg,v1,vs,U,hl,hP,hU,hvX⟩:=h
 refine ⟨hK,fun i hi=>by omega,U,[],wr.heap.size,⟨v1,vs,.slice none 0 0,none,by simp [Value.ownBlock],by simp,hU,hg,⟨rfl,fun i hi=>by omega,by simp,fun x hx=>by cases hx⟩,?_⟩,hP.sm⟩
 exact ⟨⟨hP.c0,hP.c1,hP.row,fun g e=>(hP.row.lt g e).2,hP.uns.at,hP.lo,by omega⟩,⟨hP.c2,hP.c3,hP.fz 2,hP.fz 3,World.ownsRow_nil _ _ _ _,Or.inl ⟨rfl,rfl⟩,by simp [Value.ownBlock],by simp,fun g e=>by simp [Value.ownBlock] at e⟩,hP.c4,Nat.le_refl _,hP.hP,hP.hbs,hK.siz,hP.hne⟩
theorem zPT {w0 W:World} {X:Nat} {ob:Obj} {am:Option Addr} {cm:Nat} {ms:List zJ} (g:LdG w0 am ms) {k:Nat} (hk:k < ms.length) {wr:World} (h:St w0 W X ob am cm ms 1 k wr) :
  Calls Tryz.prog 91 #[.pointer (some ⟨w0.heap.size + 1,0,none⟩),.int .i64 (k:Int)] wr (zGw w0 W X ob am cm ms 1 k):=by
 obtain ⟨hK,hg,U,ks,C,⟨v1,vs,kv,pv,hkX,hpX,hU,hb2,hN,hH⟩,hm⟩:=h
 have hn:=g.hn
 have hlk:=hN.ln
 have hBC:=hH.hBC
 have hC:=hH.hC
 refine (zHC _ C am cm ms kv pv ks k wr hH.pg.c0 (g.arg.below hK.bel) hk hH.nm hC (by omega) (g.sz k hk).1).mono ?_
 rintro e w' ⟨⟨b,rfl,hb⟩,kv',pv',hS,hE,hk',hp'⟩
 have kl:∀ g,kv.ownBlock = some g -> C <= g:=fun g e=>(hH.nm.row.lt g e).1
 have pl:∀ g,pv = some g -> C <= g:=fun g e=>(hH.nm.plt g e).1
 have hK':=hK.eff hBC hE kl pl hkX hpX
 refine ⟨b,rfl,fun e=>?_,fun e=>⟨⟨hb2,hg,?_⟩,hK'⟩⟩
 ·have hnb:=hb.1 e
  rw [zA5 hnb] at hS
  refine ⟨hK',zDM hg (hN.b3.1 hnb),U,_,C,⟨v1,vs,kv',pv',hk'.ne hkX hK.xl,hp'.ne hpX hK.xl,hU,hb2,hN.step hnb (g.sz k hk).1,?_⟩,hm.same (hE.blk _ hm.lt (by omega) (fun e=>by have:=kl _ e; omega) (fun e=>by have:=pl _ e; omega))⟩
  exact ⟨hH.pg.eff (by omega) hC hE kl pl,hS,(hE.cel 4 (by omega) (by omega)).1.trans hH.c4,Nat.le_trans hC hE.size,hH.hP,hH.hbs,hH.hBC,hH.hne⟩
 ·by_cases hx:B3 ms k
  ·exact hx
  ·have:=hb.2 (hN.b3.2 hx); rw [e] at this; cases this
theorem zN0 {w0 W:World} {X:Nat} {ob:Obj} {am:Option Addr} {cm:Nat} {ms:List zJ} {wr:World} (h:St w0 W X ob am cm ms 1 ms.length wr):St w0 W X ob am cm ms 2 0 wr:=by
 obtain ⟨hK,hg,U,ks,C,hS,hm⟩:=h
 exact ⟨hK,hg,U,ks,C,hS,hm,fun i hi=>by omega⟩
theorem zAz.b4 {ms:List zJ} {ks:List ByteArray} {U:List UnR} (h:zAz ms ks) (k:Nat):(∀ u ∈ (atU U k).us,u ∈ ks) ↔ ¬ B4 ms U k:=by
 constructor
 ·rintro h1 ⟨u,hu,h2⟩
  obtain ⟨i,hi,e⟩:=h.mem (h1 u hu)
  exact h2 i hi e
 ·intro h1 u hu
  by_cases hx:u ∈ ks
  ·exact hx
  ·exact absurd ⟨u,hu,fun j hj e=>hx (by rw [<- e]; exact List.mem_of_getElem? (h.at' j hj))⟩ h1
theorem zPU {w0 W:World} {X:Nat} {ob:Obj} {am:Option Addr} {cm:Nat} {ms:List zJ} (g:LdG w0 am ms) {k:Nat} (hk:k < ms.length) {wr:World} (h:St w0 W X ob am cm ms 2 k wr) :
  Calls Tryz.prog 92 #[.pointer (some ⟨w0.heap.size + 1,0,none⟩),.int .i64 (k:Int)] wr (zGw w0 W X ob am cm ms 2 k):=by
 obtain ⟨hK,hg,U,ks,C,⟨v1,vs,kv,pv,hkX,hpX,hU,hb2,hN,hH⟩,hm,h4⟩:=h
 have hn:=g.hn
 obtain ⟨q1,q2⟩:=(hU.small hn).2.2 k hk
 refine (zHD _ _ C am cm ms.length v1 vs U kv pv ks k wr hH.pg hk hH.nm q2 (by omega) (by omega)).mono ?_
 rintro e w' ⟨⟨b,rfl,hb⟩,hx⟩
 obtain rfl:=hx.symm
 refine ⟨b,rfl,fun e=>?_,fun e=>⟨⟨hb2,hg,U,hU,h4,?_⟩,hK⟩⟩
 ·exact ⟨hK,hg,U,ks,C,⟨v1,vs,kv,pv,hkX,hpX,hU,hb2,hN,hH⟩,hm,zDM h4 ((hN.all.b4 k).1 (hb.1 e))⟩
 ·by_cases hx:B4 ms U k
  ·exact hx
  ·have:=hb.2 ((hN.all.b4 k).2 hx); rw [e] at this; cases this
theorem zN1 {w0 W:World} {X:Nat} {ob:Obj} {am:Option Addr} {cm:Nat} {ms:List zJ} {wr:World} (h:St w0 W X ob am cm ms 2 ms.length wr):St w0 W X ob am cm ms 3 0 wr:=by
 obtain ⟨hK,hg,U,ks,C,hS,hm,h4⟩:=h
 exact ⟨hK,hg,U,ks,C,hS,hm,h4,fun i hi=>by omega⟩
theorem ScH.below {w w':World} {B C P bs:Nat} {am:Option Addr} {cm:Nat} {ms:List zJ} {v1:Value} {vs:List UvR} {U:List UnR} {kv:Value} {pv:Option Nat} {ks:List ByteArray} (h:ScH w B C P bs am cm ms v1 vs U kv pv ks) (hb:Below w.heap.size w w'):ScH w' B C P bs am cm ms v1 vs U kv pv ks:=h.keep (zF hb _)
theorem zPV {w0 W:World} {X:Nat} {ob:Obj} {am:Option Addr} {cm:Nat} {ms:List zJ} (g:LdG w0 am ms) {k:Nat} (hk:k < ms.length) {wr:World} (h:St w0 W X ob am cm ms 3 k wr) :
  Calls Tryz.prog 93 #[.pointer (some ⟨w0.heap.size + 1,0,none⟩),.int .i64 (k:Int)] wr (zGw w0 W X ob am cm ms 3 k):=by
 obtain ⟨hK,hg,U,ks,C,⟨v1,vs,kv,pv,hkX,hpX,hU,hb2,hN,hH⟩,hm,h4,h5⟩:=h
 have hn:=g.hn
 refine (zIh _ _ C am cm ms v1 vs U kv pv ks k wr hH.pg (g.arg.below hK.bel) hk hH.nm hH.hC hn hN.all (fun i hi=>(hN.all.b4 i).2 (h4 i hi)) (fun i hi=>((hU.small hn).2.2 i hi).1)).mono ?_
 rintro e w' ⟨⟨b,rfl,hb⟩,hbl⟩
 have hK':=hK.below hbl
 refine ⟨b,rfl,fun e=>?_,fun e=>⟨⟨hb2,hg,U,hU,h4,h5,?_⟩,hK'⟩⟩
 ·exact ⟨hK',hg,U,ks,C,⟨v1,vs,kv,pv,hkX,hpX,hU,hb2,hN,hH.below hbl⟩,hm.same (hbl.block _ hm.lt),h4,zDM h5 (hb.1 e)⟩
 ·by_cases hx:TC (Edg ms U) k k
  ·exact hx
  ·have:=hb.2 hx; rw [e] at this; cases this
theorem zN2 {w0 W:World} {X:Nat} {ob:Obj} {am:Option Addr} {cm:Nat} {ms:List zJ} {wr:World} (h:St w0 W X ob am cm ms 3 ms.length wr):St w0 W X ob am cm ms 4 0 wr:=by
 obtain ⟨hK,hg,U,ks,C,hS,hm,h4,h5⟩:=h
 obtain ⟨rk,r1,r2⟩:=zPi hg h4 h5
 have hR:RkE ms.length (nmF ms) U rk:=⟨fun i hi u hu=>⟨(zLH hi (h4 i hi) hu).1,r1 i hi u hu⟩,r2⟩
 obtain ⟨T,hT⟩:=zQj hR
 exact ⟨hK,hg,U,ks,C,T,rk,_,hS,h4,h5,hR,hT,⟨⟨0,[],hm,Nat.le_refl _,by simp,fun j hj=>by cases hj⟩,fun j _ x hx=>(by cases hx),fun _ _ _ _ _ _ _ hx=>(by cases hx)⟩,fun i hi=>by omega⟩
theorem zPW {w0 W:World} {X:Nat} {ob:Obj} {am:Option Addr} {cm:Nat} {ms:List zJ} (g:LdG w0 am ms) {k:Nat} (hk:k < ms.length) {wr:World} (h:St w0 W X ob am cm ms 4 k wr) :
  Calls Tryz.prog 94 #[.pointer (some ⟨w0.heap.size + 1,0,none⟩),.int .i64 (k:Int)] wr (zGw w0 W X ob am cm ms 4 k):=by
 obtain ⟨hK,hg,U,ks,C,T,rk,G,⟨v1,vs,kv,pv,hkX,hpX,hU,hb2,hN,hH⟩,h4,h5,hR,hT,hG,h6⟩:=h
 have hn:=g.hn
 obtain ⟨p1,p2,p3⟩:=hU.small hn
 refine (zIj _ C _ _ am cm ms v1 vs U kv pv ks T rk hn hN.all hR hT p1 p2 (fun i hi=>(p3 i hi).1) k hk wr G (g.arg.below hK.bel) hH hG).mono ?_
 rintro e w' ⟨⟨b,rfl,hb⟩,hgr,G',hG'⟩
 have hK':=hK.grown hgr
 refine ⟨b,rfl,fun e=>?_,fun e=>⟨⟨hb2,hg,U,T,rk,hU,h4,h5,hR,hT,h6,?_⟩,hK'⟩⟩
 ·exact ⟨hK',hg,U,ks,C,T,rk,G',⟨v1,vs,kv,pv,hkX,hpX,hU,hb2,hN,hH.keep hgr⟩,h4,h5,hR,hT,hG',zDM h6 (hb.1 e)⟩
 ·intro hx
  have:=hb.2 hx; rw [e] at this; cases this
theorem StN.below {w0 wr w':World} {X:Nat} {am:Option Addr} {cm:Nat} {ms:List zJ} {U:List UnR} {ks:List ByteArray} {C k:Nat} (h:StN w0 wr X am cm ms U ks C k) (hb:Below wr.heap.size wr w'):StN w0 w' wr.heap.size am cm ms U ks C k:=by
 obtain ⟨v1,vs,kv,pv,_,_,hU,hb2,hN,hH⟩:=h
 exact ⟨v1,vs,kv,pv,fun e=>by have:=(hH.nm.row.lt _ e).2; omega,fun e=>by have:=(hH.nm.plt _ e).2; omega,hU,hb2,hN,hH.below hb⟩
theorem zGx (w:World) (o:Obj):(w.alloc o).heap[w.heap.size]? = some o:=by
 show (w.heap.push o)[w.heap.size]? = some o
 simp
theorem St.alloc {w0 W:World} {X:Nat} {ob:Obj} {am:Option Addr} {cm:Nat} {ms:List zJ} {s k:Nat} {wr:World} (h:St w0 W X ob am cm ms s k wr) (o:Obj):St w0 W wr.heap.size o am cm ms s k (wr.alloc o):=by
 have hb:Below wr.heap.size wr (wr.alloc o):=zC _ _
 have hK':∀ {X ob},LdK w0 W X ob wr -> LdK w0 W wr.heap.size o (wr.alloc o):=fun hK=>by
  have hz:=hK.siz
  exact ⟨zGx wr o,by omega,hK.bel.trans (hb.mono (by omega)),(hb.block _ (by omega)).trans hK.row,by simp; omega,⟨(hb.cell (p:=⟨w0.heap.size + 1,5,none⟩) (show w0.heap.size + 1 < _ by omega)).trans hK.c5.1,(hb.frozen (p:=⟨w0.heap.size + 1,5,none⟩) (show w0.heap.size + 1 < _ by omega)).trans hK.c5.2⟩⟩
 match s,h with
 | 0,⟨hK,hg,v1,vs,U,hl,hP,hU,hvX⟩=>exact ⟨hK' hK,hg,v1,vs,U,hl,hP.below hb,hU,fun e=>by have:=(hP.row.lt _ e).2; omega⟩
 | 1,⟨hK,hg,U,ks,C,hS,hm⟩=>exact ⟨hK' hK,hg,U,ks,C,hS.below hb,hm.same (hb.block _ hm.lt)⟩
 | 2,⟨hK,hg,U,ks,C,hS,hm,h4⟩=>exact ⟨hK' hK,hg,U,ks,C,hS.below hb,hm.same (hb.block _ hm.lt),h4⟩
 | 3,⟨hK,hg,U,ks,C,hS,hm,h4,h5⟩=>exact ⟨hK' hK,hg,U,ks,C,hS.below hb,hm.same (hb.block _ hm.lt),h4,h5⟩
 | s + 4,⟨hK,hg,U,ks,C,T,rk,G,hS,h4,h5,hR,hT,hG,h6⟩=>exact ⟨hK' hK,hg,U,ks,C,T,rk,G,hS.below hb,h4,h5,hR,hT,hG.below hb,h6⟩
theorem St.ldk {w0 W:World} {X:Nat} {ob:Obj} {am:Option Addr} {cm:Nat} {ms:List zJ} {s k:Nat} {wr:World} (h:St w0 W X ob am cm ms s k wr):LdK w0 W X ob wr:=by
 match s,h with
 | 0,h=>exact h.1
 | 1,h=>exact h.1
 | 2,h=>exact h.1
 | 3,h=>exact h.1
 | s + 4,h=>exact h.1
theorem za {w:World} {X q:Nat} {cs:Array Value} {t:TypeId} {v:Value} (h:w.heap[X]? = some (.cells cs t)) (hv:cs[q]? = some v):w.cell? ⟨X,q,none⟩ = some v:=by
 simp [World.cell?,h,hv]
end Go.Proofs.YtokabkhnidlcnacGreatDoor
namespace Go.Proofs.YtokabkhnidlcnacGreatDoor
set_option linter.unusedSimpArgs false
set_option linter.unusedVariables false
set_option maxHeartbeats 16000000
set_option maxRecDepth 100000
theorem zBe.hit {n k:Nat} {B P:Nat -> Prop} {R:Prop} (h:zBe n B P R) (hk:k < n) (hB:B k) (hb:∀ i,i < k -> ¬ B i):P k:=by
 rcases h with ⟨i,hi,h1,h2,h3⟩ | ⟨h1,_⟩
 ·rcases Nat.lt_trichotomy i k with e | e | e
  ·exact absurd h1 (hb i e)
  ·rw [<- e]; exact h3
  ·exact absurd hB (h2 k e)
 ·exact absurd hB (h1 k hk)
theorem zBe.miss {n:Nat} {B P:Nat -> Prop} {R:Prop} (h:zBe n B P R) (hb:∀ i,i < n -> ¬ B i):R:=by
 rcases h with ⟨i,hi,h1,_⟩ | ⟨_,h1⟩
 ·exact absurd h1 (hb i hi)
 ·exact h1
theorem zDN {ms:List zJ} {U U0:List UnR} (h:PUk ms U ms.length) (h0:zAL ms U0) (i:Nat) (hi:i < ms.length):(atU U i).os = (atU U0 i).os /\ (atU U i).us = dst (atU U0 i).us:=by
 obtain ⟨us,h1,h2⟩:=h.2 i hi
 obtain ⟨e1,e2,_⟩:=zq.one h1 (h0.2 i hi)
 exact ⟨e2,by rw [h2,e1]⟩
theorem zIk {u:ByteArray} {us:List ByteArray}:u ∈ dst us ↔ u ∈ us:=by
 unfold dst
 rw [zAK]
 simp
theorem zJ4 {ms:List zJ} {U U0:List UnR} (h:PUk ms U ms.length) (h0:zAL ms U0) (i:Nat) (hi:i < ms.length):B4 ms U i ↔ B4 ms U0 i:=by
 unfold B4
 rw [(zDN h h0 i hi).2]
 simp only [zIk]
theorem zKs {ms:List zJ} {U U0:List UnR} (h:PUk ms U ms.length) (h0:zAL ms U0):Edg ms U = Edg ms U0:=by
 funext i j
 apply propext
 unfold Edg
 constructor
 ·rintro ⟨h1,h2,h3⟩
  rw [(zDN h h0 i h1).2,zIk] at h3
  exact ⟨h1,h2,h3⟩
 ·rintro ⟨h1,h2,h3⟩
  refine ⟨h1,h2,?_⟩
  rw [(zDN h h0 i h1).2,zIk]
  exact h3
theorem zPX (xs:List OpR):∃ c,zL xs c:=by
 unfold zL
 by_cases h1:500 < xs.length
 ·exact ⟨1,Or.inl ⟨rfl,h1⟩⟩
 ·have h1':xs.length <= 500:=by omega
  by_cases h2:zBx xs xs.length
  ·by_cases h3:Pr 3 xs
   ·exact ⟨3,Or.inr ⟨h1',Or.inr ⟨h2,Or.inl ⟨rfl,h3⟩⟩⟩⟩
   ·by_cases h4:Pr 4 xs
    ·exact ⟨4,Or.inr ⟨h1',Or.inr ⟨h2,Or.inr ⟨h3,Or.inl ⟨rfl,h4⟩⟩⟩⟩⟩
    ·exact ⟨0,Or.inr ⟨h1',Or.inr ⟨h2,Or.inr ⟨h3,Or.inr ⟨rfl,h4⟩⟩⟩⟩⟩
  ·exact ⟨2,Or.inr ⟨h1',Or.inl ⟨rfl,h2⟩⟩⟩
theorem zE0 {S T:List OpR} (h:zMh S T):zL T 0 ↔ ¬ ∃ c,zL S c /\ c ≠ 0:=by
 by_cases hs:S.length <= 500
 ·rw [h.1 hs]
  constructor
  ·rintro h1 ⟨c,h2,h3⟩
   exact h3 (zAV h2 h1)
  ·intro h1
   obtain ⟨c,hc⟩:=zPX S
   by_cases e:c = 0
   ·rw [<- e]; exact hc
   ·exact absurd ⟨c,hc,e⟩ h1
 ·have ht:=h.2 (by omega)
  constructor
  ·intro h1
   rcases h1 with ⟨h1,_⟩ | ⟨h1,_⟩
   ·cases h1
   ·omega
  ·intro h1
   exact absurd ⟨1,Or.inl ⟨rfl,by omega⟩,by decide⟩ h1
theorem zPY {ms:List zJ} {out:List (List OpR)} {c who:Int} (h:zAj ms out c who) (hn:ms.length <= 100) {s k:Nat} (hs:s < 5) (hk:k < ms.length) (hf:Fl ms s k):out = [] /\ c = (s:Int) + 2 /\ who = (k:Int):=by
 rcases h with ⟨h,_⟩ | ⟨_,h⟩
 ·omega
 rcases (by omega:s = 0 \/ s = 1 \/ s = 2 \/ s = 3 \/ s = 4) with rfl | rfl | rfl | rfl | rfl
 ·obtain ⟨h1,h2⟩:=hf
  exact h.hit hk h2 h1
 ·obtain ⟨h1,h2,h3⟩:=hf
  exact (h.miss h1).hit hk h3 h2
 ·obtain ⟨h1,h2,U,hU,h4,h4k⟩:=hf
  obtain ⟨U0,hU0,h'⟩:=(h.miss h1).miss h2
  exact h'.hit hk ((zJ4 hU hU0 k hk).1 h4k) (fun i hi=>fun x=>h4 i hi ((zJ4 hU hU0 i (by omega)).2 x))
 ·obtain ⟨h1,h2,U,hU,h4,h5,h5k⟩:=hf
  obtain ⟨U0,hU0,h'⟩:=(h.miss h1).miss h2
  rw [zKs hU hU0] at h5 h5k
  exact (h'.miss (fun i hi x=>h4 i hi ((zJ4 hU hU0 i hi).2 x))).hit hk h5k h5
 ·obtain ⟨h1,h2,U,T,rk,hU,h4,h5,hR,hT,h6,h6k⟩:=hf
  obtain ⟨U0,hU0,h'⟩:=(h.miss h1).miss h2
  rw [zKs hU hU0] at h5
  obtain ⟨S,hS,h''⟩:=(h'.miss (fun i hi x=>h4 i hi ((zJ4 hU hU0 i hi).2 x))).miss h5
  have hnear:=fun i (hi:i < ms.length)=>BrE.near hT hR hS (fun i hi=>zDN hU hU0 i hi) (rk i + 1) i hi (by omega)
  refine h''.hit hk ?_ (fun i hi x=>((zE0 (hnear i (by omega))).1 (h6 i hi)) x)
  by_cases hx:B6 S k
  ·exact hx
  ·exact absurd ((zE0 (hnear k hk)).2 hx) h6k
theorem zPZ {ms:List zJ} {out:List (List OpR)} {c who:Int} (h:zAj ms out c who) (hn:ms.length <= 100) {U:List UnR} {T:Nat -> List OpR} {rk:Nat -> Nat} (h1:∀ i,i < ms.length -> ¬ B2 ms i) (h2:∀ i,i < ms.length -> ¬ B3 ms i) (hU:PUk ms U ms.length) (h4:∀ i,i < ms.length -> ¬ B4 ms U i) (h5:∀ i,i < ms.length -> ¬ TC (Edg ms U) i i) (hR:RkE ms.length (nmF ms) U rk) (hT:BrE ms.length (nmF ms) U T) (h6:∀ i,i < ms.length -> zL (T i) 0):out = (List.range ms.length).map T /\ c = 0 /\ who = 0:=by
 rcases h with ⟨h,_⟩ | ⟨_,h⟩
 ·omega
 obtain ⟨U0,hU0,h'⟩:=(h.miss h1).miss h2
 rw [zKs hU hU0] at h5
 obtain ⟨S,hS,h''⟩:=(h'.miss (fun i hi x=>h4 i hi ((zJ4 hU hU0 i hi).2 x))).miss h5
 have hnear:=fun i (hi:i < ms.length)=>BrE.near hT hR hS (fun i hi=>zDN hU hU0 i hi) (rk i + 1) i hi (by omega)
 obtain ⟨e1,e2,e3⟩:=h''.miss (fun i hi x=>((zE0 (hnear i hi)).1 (h6 i hi)) x)
 refine ⟨?_,e2,e3⟩
 rw [e1]
 refine List.map_congr_left (fun i hi=>?_)
 have hi':i < ms.length:=List.mem_range.1 hi
 have hl:(S i).length <= 500:=by
  by_cases hx:(S i).length <= 500
  ·exact hx
  ·have:=(hnear i hi').2 (by omega)
   rcases h6 i hi' with ⟨e,_⟩ | ⟨e,_⟩
   ·cases e
   ·omega
 exact ((hnear i hi').1 hl).symm
end Go.Proofs.YtokabkhnidlcnacGreatDoor
