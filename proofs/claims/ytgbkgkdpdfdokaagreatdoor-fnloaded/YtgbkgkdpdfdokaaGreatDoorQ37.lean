import Derived.Test.YtgbkgkdpdfdokaaGreatDoorQ36
namespace Go.Proofs.YtgbkgkdpdfdokaaGreatDoor
set_option linter.all false
set_option maxHeartbeats 16000000
set_option maxRecDepth 100000
open Go.RowKit Go.Maps
variable {U U0:List UnR} {W w' w0 wr:World} {X cm k:Nat} {am:Option Addr} {ks us:List ByteArray} {ms:List zF} {ob:Obj} {out:List (List OpR)}
def PUk (ms:List zF) (U:List UnR) (k:Nat):Prop:=U.length=k/\∀ i,i<k->∃ us,zy (atM ms i).t us (atU U i).os (atU U i).b 0 0/\(atU U i).us=dst us
theorem PUk.step {os:List OpR} {b:JZ} (h:PUk ms U k) (hu:zy (atM ms k).t us os b 0 0):PUk ms (U++[⟨dst us,os,b⟩]) (k+1):=by
 obtain ⟨h1,h2⟩:=h
 refine ⟨by simp [h1],fun i hi=>?_⟩
 by_cases e:i<k
 ·rw [zHB (by omega)]
  exact h2 i e
 ·have e1:i=k:=by omega
  subst e1
  rw [<- h1,zHC,h1]
  exact ⟨us,hu,rfl⟩
theorem PUk.small (h:PUk ms U ms.length) (hn:ms.length<=100):(ZS U).length<=400000/\(∀ o∈ZS U,zC6 o)/\∀ i,i<ms.length->(atU U i).us.length<=20001/\∀ u∈(atU U i).us,u.size<=maxLen:=by
 obtain ⟨h1,h2⟩:=h
 refine ⟨?_,?_,?_⟩
 ·have:=zEK U (fun u hu=>by
   obtain ⟨i,hi,e⟩:=zGI hu
   obtain ⟨us,h3,_⟩:=h2 i (by omega)
   rw [<- e]; exact (zEp h3).1)
  omega
 ·intro o ho
  obtain ⟨u,hu,H⟩:=List.mem_flatMap.1 ho
  obtain ⟨i,hi,e⟩:=zGI hu
  obtain ⟨us,h3,_⟩:=h2 i (by omega)
  obtain ⟨a,b,c,d⟩:=zHD h3 o (by rw [e]; exact H)
  have wf:∀ x:Int,0<=x->x<1000000->(Lit.int .i64 x).wf=true:=fun x h1 h2=>by
   show (decide (IntKind.i64.min<=x)&&decide (x<=IntKind.i64.max))=true
   have e1:IntKind.i64.min = -9223372036854775808:=by decide
   have e2:IntKind.i64.max=9223372036854775807:=by decide
   rw [e1,e2]
   simp
   omega
  exact ⟨by unfold maxLen; omega,wf _ (by omega) (by omega),wf _ (by omega) (by omega),wf _ (by omega) (by omega)⟩
 ·intro i hi
  obtain ⟨us,h3,h4⟩:=h2 i hi
  obtain ⟨a,b⟩:=zCc h3
  have hl:=zFN us []
  simp at hl
  rw [h4]
  refine ⟨by unfold dst; omega,fun u hu=>?_⟩
  rcases (zAo us []).1 hu with hu | hu
  ·cases hu
  ·have:=b u hu; unfold maxLen; omega
structure NmK (ms:List zF) (ks:List JZ) (k:Nat):Prop where
 ln:ks.length=k
 at':∀ i,i<k->ks[i]?=some (atM ms i).n
 nd:ks.Nodup
 sz:∀ x∈ks,x.size<=maxLen
theorem NmK.all (h:NmK ms ks ms.length):zBR ms ks:=⟨h.ln,h.at',h.nd,h.sz⟩
theorem NmK.b3 (h:NmK ms ks k):(atM ms k).n ∉ ks↔¬ B3 ms k:=by
 constructor
 ·rintro h1 ⟨j,hj,e⟩
  exact h1 (by rw [<- e]; exact yy (h.at' j hj))
 ·intro h1 h2
  obtain ⟨j,hj,e⟩:=List.getElem_of_mem h2
  have hl:=h.ln
  have:=h.at' j (by omega)
  rw [yn hj,e] at this
  injection this with this
  exact h1 ⟨j,by omega,this.symm⟩
theorem NmK.step (h:NmK ms ks k) (hn:(atM ms k).n ∉ ks) (hs:(atM ms k).n.size<=maxLen):NmK ms (ks++[(atM ms k).n]) (k+1):=by
 refine ⟨by simp [h.ln],fun i hi=>?_,?_,fun x hx=>?_⟩
 ·by_cases e:i<k
  ·rw [yB (by rw [h.ln]; exact e)]
   exact h.at' i e
  ·have e1:i=k:=by omega
   subst e1
   rw [<- h.ln,List.getElem?_concat_length,h.ln]
 ·rw [List.nodup_append]
  exact ⟨h.nd,by simp,fun a ha b hb e=>by simp at hb; rw [e,hb] at ha; exact hn ha⟩
 ·rcases List.mem_append.1 hx with hx | hx
  ·exact h.sz x hx
  ·simp at hx; rw [hx]; exact hs
structure LdK (w0 W:JY) (X:Nat) (ob:Obj) (wr:JY):Prop where
 box:wr.heap[X]?=some ob
 hX:w0.heap.size+2<=X
 bel:Below w0.heap.size w0 wr
 row:wr.heap[w0.heap.size+2]?=W.heap[w0.heap.size+2]?
 siz:w0.heap.size+3<=wr.heap.size
 c5:wr.cell? ⟨w0.heap.size+1,5,none⟩=some (.slice none 0 0)/\wr.frozen? ⟨w0.heap.size+1,5,none⟩=false
def StN (w0 wr:JY) (X:Nat) (am:Option Addr) (cm:Nat) (ms:List zF) (U:List UnR) (ks:List JZ) (C:Nat) (k:Nat):Prop:=
 ∃ v1 vs kv pv,kv.ownBlock≠some X/\pv≠some X/\PUk ms U ms.length/\(∀ i,i<ms.length->¬ B2 ms i)/\NmK ms ks k/\ScH wr (w0.heap.size+3) C (w0.heap.size+1) w0.heap.size am cm ms v1 vs U kv pv ks
def St (w0 W:JY) (X:Nat) (ob:Obj) (am:Option Addr) (cm:Nat) (ms:List zF):Nat->Nat->World->Prop
 | 0,k,wr=>LdK w0 W X ob wr/\(∀ i,i<k->¬ B2 ms i)/\∃ v1 vs U,vs.length=k/\PgA wr (w0.heap.size+3) (w0.heap.size+1) w0.heap.size am cm ms.length v1 vs U/\PUk ms U k/\v1.ownBlock≠some X
 | 1,k,wr=>LdK w0 W X ob wr/\(∀ i,i<k->¬ B3 ms i)/\∃ U ks C,StN w0 wr X am cm ms U ks C k/\zAI wr w0.heap.size 0 (fun _=>none)
 | 2,k,wr=>LdK w0 W X ob wr/\(∀ i,i<ms.length->¬ B3 ms i)/\∃ U ks C,StN w0 wr X am cm ms U ks C ms.length/\zAI wr w0.heap.size 0 (fun _=>none)/\∀ i,i<k->¬ B4 ms U i
 | 3,k,wr=>LdK w0 W X ob wr/\(∀ i,i<ms.length->¬ B3 ms i)/\∃ U ks C,StN w0 wr X am cm ms U ks C ms.length/\zAI wr w0.heap.size 0 (fun _=>none)/\(∀ i,i<ms.length->¬ B4 ms U i)/\∀ i,i<k->¬ TC (Edg ms U) i i
 | _,k,wr=>LdK w0 W X ob wr/\(∀ i,i<ms.length->¬ B3 ms i)/\∃ U ks C T rk G,StN w0 wr X am cm ms U ks C ms.length/\(∀ i,i<ms.length->¬ B4 ms U i)/\(∀ i,i<ms.length->¬ TC (Edg ms U) i i)/\RkE ms.length (nmF ms) U rk/\BrE ms.length (nmF ms) U T/\ScM wr C w0.heap.size ms T G/\∀ i,i<k->zR (T i) 0
def Fl (ms:List zF):Nat->Nat->Prop
 | 0,k=>(∀ i,i<k->¬ B2 ms i)/\B2 ms k
 | 1,k=>(∀ i,i<ms.length->¬ B2 ms i)/\(∀ i,i<k->¬ B3 ms i)/\B3 ms k
 | 2,k=>(∀ i,i<ms.length->¬ B2 ms i)/\(∀ i,i<ms.length->¬ B3 ms i)/\∃ U,PUk ms U ms.length/\(∀ i,i<k->¬ B4 ms U i)/\B4 ms U k
 | 3,k=>(∀ i,i<ms.length->¬ B2 ms i)/\(∀ i,i<ms.length->¬ B3 ms i)/\∃ U,PUk ms U ms.length/\(∀ i,i<ms.length->¬ B4 ms U i)/\(∀ i,i<k->¬ TC (Edg ms U) i i)/\TC (Edg ms U) k k
 | _,k=>(∀ i,i<ms.length->¬ B2 ms i)/\(∀ i,i<ms.length->¬ B3 ms i)/\∃ U T rk,PUk ms U ms.length/\(∀ i,i<ms.length->¬ B4 ms U i)/\(∀ i,i<ms.length->¬ TC (Edg ms U) i i)/\RkE ms.length (nmF ms) U rk/\BrE ms.length (nmF ms) U T/\(∀ i,i<k->zR (T i) 0)/\¬ zR (T k) 0
def zHi (w0 W:JY) (X:Nat) (ob:Obj) (am:Option Addr) (cm:Nat) (ms:List zF) (s k:Nat) (e:Ending) (w':JY):Prop:=
 ∃ b,e = .returned (.bool b)/\(b=true->St w0 W X ob am cm ms s (k+1) w')/\(b=false->Fl ms s k/\LdK w0 W X ob w')
theorem zDe {p:Nat->Prop} (h:∀ i,i<k->p i) (hk:p k):∀ i,i<k+1->p i:=fun i hi=>by
 by_cases e:i=k
 ·rw [e]; exact hk
 ·exact h i (by omega)
theorem LdK.xl (h:LdK w0 W X ob wr):X<wr.heap.size:=by
 by_cases e:X<wr.heap.size
 ·exact e
 ·have:=h.box
  rw [Array.getElem?_eq_none (by omega)] at this
  cases this
theorem LdK.kpp {v1:Value} (h:LdK w0 W X ob wr) (hl:∀ g,v1.ownBlock=some g->w0.heap.size+3<=g) (hv:v1.ownBlock≠some X) (hk:KpP (w0.heap.size+1) v1 wr w'):LdK w0 W X ob w':=by
 have hz:=h.siz
 have H:=hk.size
 have hX:=h.hX
 have nv:∀ q,q<w0.heap.size+3->v1.ownBlock≠some q:=fun q hq e=>by have:=hl q e; omega
 exact ⟨(hk.blk X h.xl (by omega) hv).trans h.box,hX,⟨hk.os.trans h.bel.os,hk.tape.trans h.bel.tape,hk.output.trans h.bel.output,by omega,fun q hq=>(hk.blk q (by omega) (by omega) (nv q (by omega))).trans (h.bel.block q hq)⟩,(hk.blk _ (by omega) (by omega) (nv _ (by omega))).trans h.row,by omega,⟨(hk.cel 5 (by decide)).1.trans h.c5.1,(hk.cel 5 (by decide)).2.trans h.c5.2⟩⟩
theorem LdK.below (h:LdK w0 W X ob wr) (hb:Below wr.heap.size wr w'):LdK w0 W X ob w':=by
 have hz:=h.siz
 have H:=hb.size
 exact ⟨(hb.block X h.xl).trans h.box,h.hX,h.bel.trans (hb.mono (by omega)),(hb.block _ (by omega)).trans h.row,by omega,⟨(hb.cell (p:=⟨w0.heap.size+1,5,none⟩) (show w0.heap.size+1<_ by omega)).trans h.c5.1,(hb.frozen (p:=⟨w0.heap.size+1,5,none⟩) (show w0.heap.size+1<_ by omega)).trans h.c5.2⟩⟩
theorem LdK.eff {kv:Value} {pv:Option Nat} {C:Nat} (h:LdK w0 W X ob wr) (hC:w0.heap.size+3<=C) (he:Eff wr w' (w0.heap.size+1) 2 kv pv) (hk:∀ g,kv.ownBlock=some g->C<=g) (hp:∀ g,pv=some g->C<=g) (k:kv.ownBlock≠some X) (H:pv≠some X):LdK w0 W X ob w':=by
 have K:=h.hX
 have hz:=h.siz
 have Q:=he.size
 have sm:∀ q,q<w0.heap.size+3->q≠w0.heap.size+1->w'.heap[q]?=wr.heap[q]?:=fun q h1 h2=>he.blk q (by omega) h2 (fun e=>by have:=hk q e; omega) (fun e=>by have:=hp q e; omega)
 exact ⟨(he.blk X h.xl (by omega) k H).trans h.box,K,⟨he.os.trans h.bel.os,he.tape.trans h.bel.tape,he.output.trans h.bel.output,by omega,fun q hq=>(sm q (by omega) (by omega)).trans (h.bel.block q hq)⟩,(sm _ (by omega) (by omega)).trans h.row,by omega,⟨(he.cel 5 (by decide) (by decide)).1.trans h.c5.1,(he.cel 5 (by decide) (by decide)).2.trans h.c5.2⟩⟩
theorem LdK.grown (h:LdK w0 W X ob wr) (hg:wr.grownBy w' (some w0.heap.size)):LdK w0 W X ob w':=by
 have hz:=h.siz
 have k:=hg.size
 have H:=h.hX
 exact ⟨(hg.block X h.xl (fun e=>by injection e with e; omega)).trans h.box,H,⟨hg.os.trans h.bel.os,hg.tape.trans h.bel.tape,hg.output.trans h.bel.output,by omega,fun q hq=>(hg.block q (by omega) (fun e=>by injection e with e; omega)).trans (h.bel.block q hq)⟩,(hg.block _ (by omega) (fun e=>by injection e with e; omega)).trans h.row,by omega,⟨(yp (w:=wr) (hg.block (w0.heap.size+1) (by omega) (fun e=>by injection e with e; omega))).trans h.c5.1,(yA (w:=wr) (hg.block (w0.heap.size+1) (by omega) (fun e=>by injection e with e; omega))).trans h.c5.2⟩⟩
structure LdG (w0:JY) (am:Option Addr) (ms:List zF):Prop where
 hn:ms.length<=100
 arg:zEJ w0 am ms
 sz:∀ i,i<ms.length->(atM ms i).n.size<=maxLen/\(atM ms i).t.size<=maxLen
 mx:zFa w0
theorem zQh (g:LdG w0 am ms) (hk:k<ms.length) (h:St w0 W X ob am cm ms 0 k wr) :
  Calls Tryz.prog 32 #[.pointer (some ⟨w0.heap.size+1,0,none⟩),.int .i64 (k:Int)] wr (zHi w0 W X ob am cm ms 0 k):=by
 obtain ⟨hK,hg,v1,vs,U,hl,hP,hU,H⟩:=h
 have hn:=g.hn
 refine (zHv w0.heap.size _ _ _ am cm ms v1 vs U k wr hP hK.siz (by omega) (g.arg.below hK.bel) hk (by omega) (g.sz k hk).2 (g.sz k hk).1 (g.mx.below hK.bel)).mono ?_
 rintro e w' ⟨⟨b,rfl,hb⟩,hkp,x,us,os,bb,c,l,v4,hui,hP4,hsn⟩
 have K:=hK.kpp (fun g e=>(hP.row.lt g e).1) H hkp
 refine ⟨b,rfl,fun e=>?_,fun e=>⟨⟨hg,?_⟩,K⟩⟩
 ·have q:=hb.1 e
  obtain ⟨rfl,rfl,_,_⟩:=zOB q hui
  exact ⟨K,zDe hg q,v4,_,_,by simp [hl],hP4,hU.step hui,hsn.ne H hK.xl⟩
 ·by_cases hx:B2 ms k
  ·exact hx
  ·have:=hb.2 hx; rw [e] at this; cases this
theorem zPI (h:St w0 W X ob am cm ms 0 ms.length wr):St w0 W X ob am cm ms 1 0 wr:=by
 obtain ⟨hK,hg,v1,vs,U,hl,hP,hU,H⟩:=h
 refine ⟨hK,fun i hi=>by omega,U,[],wr.heap.size,⟨v1,vs,.slice none 0 0,none,by simp [Value.ownBlock],by simp,hU,hg,⟨rfl,fun i hi=>by omega,by simp,fun x hx=>by cases hx⟩,?_⟩,hP.sm⟩
 exact ⟨⟨hP.c0,hP.c1,hP.row,fun g e=>(hP.row.lt g e).2,hP.uns.at,hP.lo,by omega⟩,⟨hP.c2,hP.c3,hP.fz 2,hP.fz 3,World.ownsRow_nil _ _ _ _,yQ ⟨rfl,rfl⟩,by simp [Value.ownBlock],by simp,fun g e=>by simp [Value.ownBlock] at e⟩,hP.c4,yh _,hP.hP,hP.hbs,hK.siz,hP.hne⟩
theorem zQi (g:LdG w0 am ms) (hk:k<ms.length) (h:St w0 W X ob am cm ms 1 k wr) :
  Calls Tryz.prog 33 #[.pointer (some ⟨w0.heap.size+1,0,none⟩),.int .i64 (k:Int)] wr (zHi w0 W X ob am cm ms 1 k):=by
 obtain ⟨hK,hg,U,ks,C,⟨v1,vs,kv,pv,x,Q,hU,q,hN,hH⟩,hm⟩:=h
 have hn:=g.hn
 have Y:=hN.ln
 have y:=hH.hBC
 have hC:=hH.hC
 refine (zHt _ C am cm ms kv pv ks k wr hH.pg.c0 (g.arg.below hK.bel) hk hH.nm hC (by omega) (g.sz k hk).1).mono ?_
 rintro e w' ⟨⟨b,rfl,hb⟩,kv',pv',hS,hE,hk',hp'⟩
 have kl:∀ g,kv.ownBlock=some g->C<=g:=fun g e=>(hH.nm.row.lt g e).1
 have pl:∀ g,pv=some g->C<=g:=fun g e=>(hH.nm.plt g e).1
 have K:=hK.eff y hE kl pl x Q
 refine ⟨b,rfl,fun e=>?_,fun e=>⟨⟨q,hg,?_⟩,K⟩⟩
 ·have H:=hb.1 e
  rw [zBZ H] at hS
  refine ⟨K,zDe hg (hN.b3.1 H),U,_,C,⟨v1,vs,kv',pv',hk'.ne x hK.xl,hp'.ne Q hK.xl,hU,q,hN.step H (g.sz k hk).1,?_⟩,hm.same (hE.blk _ hm.lt (by omega) (fun e=>by have:=kl _ e; omega) (fun e=>by have:=pl _ e; omega))⟩
  exact ⟨hH.pg.eff (by omega) hC hE kl pl,hS,(hE.cel 4 (by omega) (by omega)).1.trans hH.c4,yr hC hE.size,hH.hP,hH.hbs,hH.hBC,hH.hne⟩
 ·by_cases hx:B3 ms k
  ·exact hx
  ·have:=hb.2 (hN.b3.2 hx); rw [e] at this; cases this
theorem zPJ (h:St w0 W X ob am cm ms 1 ms.length wr):St w0 W X ob am cm ms 2 0 wr:=by
 obtain ⟨hK,hg,U,ks,C,hS,hm⟩:=h
 exact ⟨hK,hg,U,ks,C,hS,hm,fun i hi=>by omega⟩
theorem zBR.b4 (h:zBR ms ks) (k:Nat):(∀ u∈(atU U k).us,u∈ks)↔¬ B4 ms U k:=by
 constructor
 ·rintro h1 ⟨u,hu,h2⟩
  obtain ⟨i,hi,e⟩:=h.mem (h1 u hu)
  exact h2 i hi e
 ·intro h1 u hu
  by_cases hx:u∈ks
  ·exact hx
  ·exact yP ⟨u,hu,fun j hj e=>hx (by rw [<- e]; exact yy (h.at' j hj))⟩ h1
theorem zQj (g:LdG w0 am ms) (hk:k<ms.length) (h:St w0 W X ob am cm ms 2 k wr) :
  Calls Tryz.prog 34 #[.pointer (some ⟨w0.heap.size+1,0,none⟩),.int .i64 (k:Int)] wr (zHi w0 W X ob am cm ms 2 k):=by
 obtain ⟨hK,hg,U,ks,C,⟨v1,vs,kv,pv,K,q,hU,H,hN,hH⟩,hm,h4⟩:=h
 have hn:=g.hn
 obtain ⟨q1,q2⟩:=(hU.small hn).2.2 k hk
 refine (zHu _ _ C am cm ms.length v1 vs U kv pv ks k wr hH.pg hk hH.nm q2 (by omega) (by omega)).mono ?_
 rintro e w' ⟨⟨b,rfl,hb⟩,hx⟩
 obtain rfl:=hx.symm
 refine ⟨b,rfl,fun e=>?_,fun e=>⟨⟨H,hg,U,hU,h4,?_⟩,hK⟩⟩
 ·exact ⟨hK,hg,U,ks,C,⟨v1,vs,kv,pv,K,q,hU,H,hN,hH⟩,hm,zDe h4 ((hN.all.b4 k).1 (hb.1 e))⟩
 ·by_cases hx:B4 ms U k
  ·exact hx
  ·have:=hb.2 ((hN.all.b4 k).2 hx); rw [e] at this; cases this
theorem zPK (h:St w0 W X ob am cm ms 2 ms.length wr):St w0 W X ob am cm ms 3 0 wr:=by
 obtain ⟨hK,hg,U,ks,C,hS,hm,h4⟩:=h
 exact ⟨hK,hg,U,ks,C,hS,hm,h4,fun i hi=>by omega⟩
theorem ScH.below {w:JY} {B C P bs:Nat} {v1:Value} {vs:List UvR} {kv:Value} {pv:Option Nat} (h:ScH w B C P bs am cm ms v1 vs U kv pv ks) (hb:Below w.heap.size w w'):ScH w' B C P bs am cm ms v1 vs U kv pv ks:=h.keep (zH hb _)
theorem zQk (g:LdG w0 am ms) (hk:k<ms.length) (h:St w0 W X ob am cm ms 3 k wr) :
  Calls Tryz.prog 35 #[.pointer (some ⟨w0.heap.size+1,0,none⟩),.int .i64 (k:Int)] wr (zHi w0 W X ob am cm ms 3 k):=by
 obtain ⟨hK,hg,U,ks,C,⟨v1,vs,kv,pv,q,Q,hU,K,hN,hH⟩,hm,h4,h5⟩:=h
 have hn:=g.hn
 refine (zJT _ _ C am cm ms v1 vs U kv pv ks k wr hH.pg (g.arg.below hK.bel) hk hH.nm hH.hC hn hN.all (fun i hi=>(hN.all.b4 i).2 (h4 i hi)) (fun i hi=>((hU.small hn).2.2 i hi).1)).mono ?_
 rintro e w' ⟨⟨b,rfl,hb⟩,hbl⟩
 have H:=hK.below hbl
 refine ⟨b,rfl,fun e=>?_,fun e=>⟨⟨K,hg,U,hU,h4,h5,?_⟩,H⟩⟩
 ·exact ⟨H,hg,U,ks,C,⟨v1,vs,kv,pv,q,Q,hU,K,hN,hH.below hbl⟩,hm.same (hbl.block _ hm.lt),h4,zDe h5 (hb.1 e)⟩
 ·by_cases hx:TC (Edg ms U) k k
  ·exact hx
  ·have:=hb.2 hx; rw [e] at this; cases this
theorem zPL (h:St w0 W X ob am cm ms 3 ms.length wr):St w0 W X ob am cm ms 4 0 wr:=by
 obtain ⟨hK,hg,U,ks,C,hS,hm,h4,h5⟩:=h
 obtain ⟨rk,r1,r2⟩:=zOO hg h4 h5
 have hR:RkE ms.length (nmF ms) U rk:=⟨fun i hi u hu=>⟨(zGJ hi (h4 i hi) hu).1,r1 i hi u hu⟩,r2⟩
 obtain ⟨T,hT⟩:=zR8 hR
 exact ⟨hK,hg,U,ks,C,T,rk,_,hS,h4,h5,hR,hT,⟨⟨0,[],hm,yh _,by simp,fun j hj=>by cases hj⟩,fun j _ x hx=>(by cases hx),fun _ _ _ _ _ _ _ hx=>(by cases hx)⟩,fun i hi=>by omega⟩
theorem zQl (g:LdG w0 am ms) (hk:k<ms.length) (h:St w0 W X ob am cm ms 4 k wr) :
  Calls Tryz.prog 36 #[.pointer (some ⟨w0.heap.size+1,0,none⟩),.int .i64 (k:Int)] wr (zHi w0 W X ob am cm ms 4 k):=by
 obtain ⟨hK,hg,U,ks,C,T,rk,G,⟨v1,vs,kv,pv,q,Q,hU,K,hN,hH⟩,h4,h5,hR,hT,hG,h6⟩:=h
 have hn:=g.hn
 obtain ⟨p1,p2,p3⟩:=hU.small hn
 refine (zJV _ C _ _ am cm ms v1 vs U kv pv ks T rk hn hN.all hR hT p1 p2 (fun i hi=>(p3 i hi).1) k hk wr G (g.arg.below hK.bel) hH hG).mono ?_
 rintro e w' ⟨⟨b,rfl,hb⟩,hgr,G',hG'⟩
 have H:=hK.grown hgr
 refine ⟨b,rfl,fun e=>?_,fun e=>⟨⟨K,hg,U,T,rk,hU,h4,h5,hR,hT,h6,?_⟩,H⟩⟩
 ·exact ⟨H,hg,U,ks,C,T,rk,G',⟨v1,vs,kv,pv,q,Q,hU,K,hN,hH.keep hgr⟩,h4,h5,hR,hT,hG',zDe h6 (hb.1 e)⟩
 ·intro hx
  have:=hb.2 hx; rw [e] at this; cases this
theorem StN.below {w0 wr w':JY} {X:Nat} {am:Option Addr} {cm:Nat} {ms:List zF} {U:List UnR} {ks:List JZ} {C k:Nat} (h:StN w0 wr X am cm ms U ks C k) (hb:Below wr.heap.size wr w'):StN w0 w' wr.heap.size am cm ms U ks C k:=by
 obtain ⟨v1,vs,kv,pv,_,_,hU,H,hN,hH⟩:=h
 exact ⟨v1,vs,kv,pv,fun e=>by have:=(hH.nm.row.lt _ e).2; omega,fun e=>by have:=(hH.nm.plt _ e).2; omega,hU,H,hN,hH.below hb⟩
theorem zHj (w:JY) (o:Obj):(w.alloc o).heap[w.heap.size]?=some o:=by
 show (w.heap.push o)[w.heap.size]?=some o
 simp
theorem St.alloc {w0 W:JY} {X:Nat} {ob:Obj} {am:Option Addr} {cm:Nat} {ms:List zF} {s k:Nat} {wr:JY} (h:St w0 W X ob am cm ms s k wr) (o:Obj):St w0 W wr.heap.size o am cm ms s k (wr.alloc o):=by
 have hb:Below wr.heap.size wr (wr.alloc o):=zC _ _
 have H:∀ {X ob},LdK w0 W X ob wr->LdK w0 W wr.heap.size o (wr.alloc o):=fun hK=>by
  have hz:=hK.siz
  exact ⟨zHj wr o,by omega,hK.bel.trans (hb.mono (by omega)),(hb.block _ (by omega)).trans hK.row,by simp; omega,⟨(hb.cell (p:=⟨w0.heap.size+1,5,none⟩) (show w0.heap.size+1<_ by omega)).trans hK.c5.1,(hb.frozen (p:=⟨w0.heap.size+1,5,none⟩) (show w0.heap.size+1<_ by omega)).trans hK.c5.2⟩⟩
 match s,h with
 | 0,⟨hK,hg,v1,vs,U,hl,hP,hU,hvX⟩=>exact ⟨H hK,hg,v1,vs,U,hl,hP.below hb,hU,fun e=>by have:=(hP.row.lt _ e).2; omega⟩
 | 1,⟨hK,hg,U,ks,C,hS,hm⟩=>exact ⟨H hK,hg,U,ks,C,hS.below hb,hm.same (hb.block _ hm.lt)⟩
 | 2,⟨hK,hg,U,ks,C,hS,hm,h4⟩=>exact ⟨H hK,hg,U,ks,C,hS.below hb,hm.same (hb.block _ hm.lt),h4⟩
 | 3,⟨hK,hg,U,ks,C,hS,hm,h4,h5⟩=>exact ⟨H hK,hg,U,ks,C,hS.below hb,hm.same (hb.block _ hm.lt),h4,h5⟩
 | s+4,⟨hK,hg,U,ks,C,T,rk,G,hS,h4,h5,hR,hT,hG,h6⟩=>exact ⟨H hK,hg,U,ks,C,T,rk,G,hS.below hb,h4,h5,hR,hT,hG.below hb,h6⟩
theorem St.ldk {s:Nat} (h:St w0 W X ob am cm ms s k wr):LdK w0 W X ob wr:=by
 match s,h with
 | 0,h=>exact h.1
 | 1,h=>exact h.1
 | 2,h=>exact h.1
 | 3,h=>exact h.1
 | s+4,h=>exact h.1
theorem zl {w:JY} {q:Nat} {cs:Array Value} {t:TypeId} {v:Value} (h:w.heap[X]?=some (.cells cs t)) (hv:cs[q]?=some v):w.cell? ⟨X,q,none⟩=some v:=by
 simp [World.cell?,h,hv]
def zFc (w:JY) (am:Option Addr) (cm:Nat) (ms:List zF) (e:Ending) (w':JY):Prop:=
 (∃ (s k:Nat) (c:Int),s<5/\k<ms.length/\c=(s:Int)+2/\e = .returned (.tuple #[.pointer none,.int .i64 c,.int .i64 (k:Int)])/\Fl ms s k/\Below w.heap.size w w') \/
 (e = .returned (.tuple #[.pointer (some ⟨w.heap.size+1,0,none⟩),.int .i64 0,.int .i64 0])/\∃ W X ob,St w W X ob am cm ms 4 ms.length w')
def Sx (w W:JY) (am:Option Addr) (cm:Nat) (ms:List zF) (s:Nat) (wr:JY):Prop:=(s<5/\∃ X ob,St w W X ob am cm ms s 0 wr)\/(s=5/\∃ X ob,St w W X ob am cm ms 4 ms.length wr)
theorem Sx.start (w:JY) (am:Option Addr) (cm:Nat) (ms:List zF):Sx w (((w.alloc (.map #[] 0)).alloc (.cells #[.slice am ms.length cm,.slice none 0 0,.slice none 0 0,.map none,.map (some w.heap.size),.slice none 0 0] 85)).alloc (.cells #[.int .i64 2,.func (.func 32) #[.pointer (some ⟨w.heap.size+1,0,none⟩)] #[],.int .i64 3,.func (.func 33) #[.pointer (some ⟨w.heap.size+1,0,none⟩)] #[],.int .i64 4,.func (.func 34) #[.pointer (some ⟨w.heap.size+1,0,none⟩)] #[],.int .i64 5,.func (.func 35) #[.pointer (some ⟨w.heap.size+1,0,none⟩)] #[],.int .i64 6,.func (.func 36) #[.pointer (some ⟨w.heap.size+1,0,none⟩)] #[]] 88)) am cm ms 0 (((w.alloc (.map #[] 0)).alloc (.cells #[.slice am ms.length cm,.slice none 0 0,.slice none 0 0,.map none,.map (some w.heap.size),.slice none 0 0] 85)).alloc (.cells #[.int .i64 2,.func (.func 32) #[.pointer (some ⟨w.heap.size+1,0,none⟩)] #[],.int .i64 3,.func (.func 33) #[.pointer (some ⟨w.heap.size+1,0,none⟩)] #[],.int .i64 4,.func (.func 34) #[.pointer (some ⟨w.heap.size+1,0,none⟩)] #[],.int .i64 5,.func (.func 35) #[.pointer (some ⟨w.heap.size+1,0,none⟩)] #[],.int .i64 6,.func (.func 36) #[.pointer (some ⟨w.heap.size+1,0,none⟩)] #[]] 88)):=by
 obtain ⟨W1,h⟩:∃ W1,W1=w.alloc (.map #[] 0):=⟨_,rfl⟩
 have z1:W1.heap.size=w.heap.size+1:=by rw [h]; simp
 have s1:zAI W1 w.heap.size 0 (fun _=>none):=by rw [h]; exact zAI.made w
 rw [<- h]
 refine yQ ⟨by omega,w.heap.size+2,.cells #[.int .i64 2,.func (.func 32) #[.pointer (some ⟨w.heap.size+1,0,none⟩)] #[],.int .i64 3,.func (.func 33) #[.pointer (some ⟨w.heap.size+1,0,none⟩)] #[],.int .i64 4,.func (.func 34) #[.pointer (some ⟨w.heap.size+1,0,none⟩)] #[],.int .i64 5,.func (.func 35) #[.pointer (some ⟨w.heap.size+1,0,none⟩)] #[],.int .i64 6,.func (.func 36) #[.pointer (some ⟨w.heap.size+1,0,none⟩)] #[]] 88,⟨⟨?_,yh _,?_,rfl,by simp; omega,?_⟩,fun i hi=>by omega,.slice none 0 0,[],[],rfl,?_,⟨rfl,fun i hi=>by omega⟩,by simp [Value.ownBlock]⟩⟩
 ·have:w.heap.size+2=(W1.alloc (.cells #[.slice am ms.length cm,.slice none 0 0,.slice none 0 0,.map none,.map (some w.heap.size),.slice none 0 0] 85)).heap.size:=by simp [z1]
  rw [this]
  exact zHj _ _
 ·rw [h]
  exact ((zC _ _).alloc (by simp) _).alloc (by simp; omega) _
 ·have hz:w.heap.size+1=W1.heap.size:=z1.symm
  exact ⟨by rw [hz]; simp [go_sem],by rw [hz]; simp [go_sem]⟩
 ·have hz:w.heap.size+1=W1.heap.size:=z1.symm
  refine ⟨by omega,by omega,by omega,?_,?_,?_,?_,?_,?_,World.ownsRow_nil _ _ _ _,⟨rfl,fun i hi=>by simp at hi⟩,fun i hi=>by simp at hi,?_⟩
  ·rw [hz]; simp [go_sem]
  ·rw [hz]; simp [go_sem]
  ·rw [hz]; simp [go_sem]
  ·rw [hz]; simp [go_sem]
  ·rw [hz]; simp [go_sem]
  ·intro o; rw [hz]; simp [go_sem]
  ·exact (s1.kept (zH (zC _ _) none) (by simp)).kept (zH (zC _ _) none) (by simp)
theorem zGA (am:Option Addr) (cm:Nat) (ms:List zF) (w:JY) (g:LdG w am ms) :
  Calls Tryz.prog 18 #[.slice am ms.length cm] w (zFc w am cm ms):=by
 have A:=@run_makeMap Tryz.prog
 have u:∀ (w:JY) (a:Addr) (fn:Fn) (x y:Array Value),(store a (.func fn x y)).run Tryz.prog w=stored Tryz.prog w a (.func fn x y) .plain:=fun w a fn x y=>run_store Tryz.prog w a _ .plain rfl
 have hn:=g.hn
 have U:¬ (100:Int)<(ms.length:Int):=by omega
 have HG:=zB g
 have HS:=zB (Sx.start w am cm ms)
 obtain ⟨W0,P⟩:∃ W0,W0=((w.alloc (.map #[] 0)).alloc (.cells #[.slice am ms.length cm,.slice none 0 0,.slice none 0 0,.map none,.map (some w.heap.size),.slice none 0 0] 85)).alloc (.cells #[.int .i64 2,.func (.func 32) #[.pointer (some ⟨w.heap.size+1,0,none⟩)] #[],.int .i64 3,.func (.func 33) #[.pointer (some ⟨w.heap.size+1,0,none⟩)] #[],.int .i64 4,.func (.func 34) #[.pointer (some ⟨w.heap.size+1,0,none⟩)] #[],.int .i64 5,.func (.func 35) #[.pointer (some ⟨w.heap.size+1,0,none⟩)] #[],.int .i64 6,.func (.func 36) #[.pointer (some ⟨w.heap.size+1,0,none⟩)] #[]] 88):=⟨_,rfl⟩
 rw [<- P] at HS
 have V:=zB P
 have p:=zB (show W0.heap[w.heap.size+2]?=some (.cells #[.int .i64 2,.func (.func 32) #[.pointer (some ⟨w.heap.size+1,0,none⟩)] #[],.int .i64 3,.func (.func 33) #[.pointer (some ⟨w.heap.size+1,0,none⟩)] #[],.int .i64 4,.func (.func 34) #[.pointer (some ⟨w.heap.size+1,0,none⟩)] #[],.int .i64 5,.func (.func 35) #[.pointer (some ⟨w.heap.size+1,0,none⟩)] #[],.int .i64 6,.func (.func 36) #[.pointer (some ⟨w.heap.size+1,0,none⟩)] #[]] 88) by
  rw [P]
  have:w.heap.size+2=((w.alloc (.map #[] 0)).alloc (.cells #[.slice am ms.length cm,.slice none 0 0,.slice none 0 0,.map none,.map (some w.heap.size),.slice none 0 0] 85)).heap.size:=by simp
  rw [this]
  exact zHj _ _)
 clear g P
 go_enter Tryz.func18,Tryz.ntmps18
 go_wp2_with fail
 rw [<- zA V]
 go_loopw [33] (fun x wr=>∃ s:Nat,s<=5/\x = .int .i64 (s:Int)/\Hid (Sx w W0 am cm ms s wr)) (fun x _=>5-(intOf x).toNat)
 case atStart=>exact ⟨0,by omega,rfl,HS⟩
 case round=>
  clear HS
  obtain ⟨s,hs,hx,HS⟩:=hrel
  rcases (by omega:s=5\/s=0\/s=1\/s=2\/s=3\/s=4) with rfl | rfl | rfl | rfl | rfl | rfl
  ·have J:_=Value.int .i64 5:=hx
   subst J
   clear hx
   have HF:=zB (show ∃ W X ob,St w W X ob am cm ms 4 ms.length wr by
    rcases zA HS with ⟨h,_⟩ | ⟨_,h⟩
    ·omega
    ·exact ⟨W0,h⟩)
   go_wp2_with fail
   go_ret3
   exact yR ⟨rfl,zA HF⟩
  ·have J:_=Value.int .i64 0:=hx
   subst J
   clear hx
   obtain ⟨X0,ob0,K⟩:∃ X ob,St w W0 X ob am cm ms 0 0 wr:=by
    rcases zA HS with ⟨_,h⟩ | ⟨h,_⟩
    ·exact h
    ·omega
   have H:=K.ldk.row.trans (zA p)
   have q0:wr.cell? ⟨w.heap.size+1+1,0,none⟩=some (.int .i64 2):=zl H rfl
   have q1:wr.cell? ⟨w.heap.size+1+1,1,none⟩=some (.func (.func 32) #[.pointer (some ⟨w.heap.size+1,0,none⟩)] #[]):=zl H rfl
   have v:w.heap.size+1+1<wr.heap.size:=K.ldk.siz
   have HA:=zB (K.alloc (.cells #[.int .i64 2,.func (.func 32) #[.pointer (some ⟨w.heap.size+1,0,none⟩)] #[]] 88))
   clear K H HS
   go_wp2_with fail
   obtain ⟨wo,rfl⟩:∃ wo,wo=wr:=⟨_,rfl⟩
   go_loopw [39] (fun y wi=>∃ k:Nat,k<=ms.length/\y = .int .i64 (k:Int)/\Hid (St w W0 wo.heap.size (.cells #[.int .i64 2,.func (.func 32) #[.pointer (some ⟨w.heap.size+1,0,none⟩)] #[]] 88) am cm ms 0 k wi)) (fun y _=>ms.length-(intOf y).toNat)
   case atStart=>exact ⟨0,yj _,rfl,HA⟩
   case round=>
    clear HA q0 q1
    obtain ⟨k,hk,rfl,HK⟩:=hrel
    by_cases Q:k<ms.length
    ·have Y:(k:Int)<(ms.length:Int):=by omega
     have b0:wr.cell? ⟨wo.heap.size,0,none⟩=some (.int .i64 2):=zl (zA HK).ldk.box rfl
     have b1:wr.cell? ⟨wo.heap.size,1,none⟩=some (.func (.func 32) #[.pointer (some ⟨w.heap.size+1,0,none⟩)] #[]):=zl (zA HK).ldk.box rfl
     have HX:=zB (zQh (zA HG) Q (zA HK))
     clear HK
     go_wp2_with fail
     (with_reducible refine (zA HX).mono ?_)
     rintro e w1 ⟨b,rfl,ht,hf⟩
     cases b
     ·obtain ⟨j,q⟩:=hf rfl
      have d0:w1.cell? ⟨wo.heap.size,0,none⟩=some (.int .i64 2):=zl q.box rfl
      have HR:=zB (show zFc w am cm ms (.returned (.tuple #[.pointer none,.int .i64 2,.int .i64 (k:Int)])) w1.drew from yQ ⟨0,k,2,by omega,Q,rfl,rfl,j,q.bel.drew⟩)
      clear ht hf j q b0 b1
      go_wp2_with fail
      go_region
      go_wp2_with fail
      go_ret3
      exact zA HR
     ·have HN:=zB (ht rfl)
      clear ht hf b0 b1
      go_wp2_with fail
      exact ⟨⟨k+1,by omega,by go_num,HN⟩,by simp [intOf]; omega⟩
    ·have Y:¬ (k:Int)<(ms.length:Int):=by omega
     obtain rfl:k=ms.length:=by omega
     have HN:=zB (show Sx w W0 am cm ms 1 wr from (by have h:=zA HK; exact yQ ⟨by omega,_,_,zPI h⟩))
     clear HK
     go_wp2_with fail
     exact ⟨⟨1,by omega,by first | rfl | go_num,HN⟩,by simp [intOf]⟩
  ·have J:_=Value.int .i64 1:=hx
   subst J
   clear hx
   obtain ⟨X0,ob0,K⟩:∃ X ob,St w W0 X ob am cm ms 1 0 wr:=by
    rcases zA HS with ⟨_,h⟩ | ⟨h,_⟩
    ·exact h
    ·omega
   have H:=K.ldk.row.trans (zA p)
   have q0:wr.cell? ⟨w.heap.size+1+1,2,none⟩=some (.int .i64 3):=zl H rfl
   have q1:wr.cell? ⟨w.heap.size+1+1,3,none⟩=some (.func (.func 33) #[.pointer (some ⟨w.heap.size+1,0,none⟩)] #[]):=zl H rfl
   have v:w.heap.size+1+1<wr.heap.size:=K.ldk.siz
   have HA:=zB (K.alloc (.cells #[.int .i64 3,.func (.func 33) #[.pointer (some ⟨w.heap.size+1,0,none⟩)] #[]] 88))
   clear K H HS
   go_wp2_with fail
   obtain ⟨wo,rfl⟩:∃ wo,wo=wr:=⟨_,rfl⟩
   go_loopw [39] (fun y wi=>∃ k:Nat,k<=ms.length/\y = .int .i64 (k:Int)/\Hid (St w W0 wo.heap.size (.cells #[.int .i64 3,.func (.func 33) #[.pointer (some ⟨w.heap.size+1,0,none⟩)] #[]] 88) am cm ms 1 k wi)) (fun y _=>ms.length-(intOf y).toNat)
   case atStart=>exact ⟨0,yj _,rfl,HA⟩
   case round=>
    clear HA q0 q1
    obtain ⟨k,hk,rfl,HK⟩:=hrel
    by_cases Q:k<ms.length
    ·have Y:(k:Int)<(ms.length:Int):=by omega
     have b0:wr.cell? ⟨wo.heap.size,0,none⟩=some (.int .i64 3):=zl (zA HK).ldk.box rfl
     have b1:wr.cell? ⟨wo.heap.size,1,none⟩=some (.func (.func 33) #[.pointer (some ⟨w.heap.size+1,0,none⟩)] #[]):=zl (zA HK).ldk.box rfl
     have HX:=zB (zQi (zA HG) Q (zA HK))
     clear HK
     go_wp2_with fail
     (with_reducible refine (zA HX).mono ?_)
     rintro e w1 ⟨b,rfl,ht,hf⟩
     cases b
     ·obtain ⟨j,q⟩:=hf rfl
      have d0:w1.cell? ⟨wo.heap.size,0,none⟩=some (.int .i64 3):=zl q.box rfl
      have HR:=zB (show zFc w am cm ms (.returned (.tuple #[.pointer none,.int .i64 3,.int .i64 (k:Int)])) w1.drew from yQ ⟨1,k,3,by omega,Q,rfl,rfl,j,q.bel.drew⟩)
      clear ht hf j q b0 b1
      go_wp2_with fail
      go_region
      go_wp2_with fail
      go_ret3
      exact zA HR
     ·have HN:=zB (ht rfl)
      clear ht hf b0 b1
      go_wp2_with fail
      exact ⟨⟨k+1,by omega,by go_num,HN⟩,by simp [intOf]; omega⟩
    ·have Y:¬ (k:Int)<(ms.length:Int):=by omega
     obtain rfl:k=ms.length:=by omega
     have HN:=zB (show Sx w W0 am cm ms 2 wr from (by have h:=zA HK; exact yQ ⟨by omega,_,_,zPJ h⟩))
     clear HK
     go_wp2_with fail
     exact ⟨⟨2,by omega,by first | rfl | go_num,HN⟩,by simp [intOf]⟩
  ·have J:_=Value.int .i64 2:=hx
   subst J
   clear hx
   obtain ⟨X0,ob0,K⟩:∃ X ob,St w W0 X ob am cm ms 2 0 wr:=by
    rcases zA HS with ⟨_,h⟩ | ⟨h,_⟩
    ·exact h
    ·omega
   have H:=K.ldk.row.trans (zA p)
   have q0:wr.cell? ⟨w.heap.size+1+1,4,none⟩=some (.int .i64 4):=zl H rfl
   have q1:wr.cell? ⟨w.heap.size+1+1,5,none⟩=some (.func (.func 34) #[.pointer (some ⟨w.heap.size+1,0,none⟩)] #[]):=zl H rfl
   have v:w.heap.size+1+1<wr.heap.size:=K.ldk.siz
   have HA:=zB (K.alloc (.cells #[.int .i64 4,.func (.func 34) #[.pointer (some ⟨w.heap.size+1,0,none⟩)] #[]] 88))
   clear K H HS
   go_wp2_with fail
   obtain ⟨wo,rfl⟩:∃ wo,wo=wr:=⟨_,rfl⟩
   go_loopw [39] (fun y wi=>∃ k:Nat,k<=ms.length/\y = .int .i64 (k:Int)/\Hid (St w W0 wo.heap.size (.cells #[.int .i64 4,.func (.func 34) #[.pointer (some ⟨w.heap.size+1,0,none⟩)] #[]] 88) am cm ms 2 k wi)) (fun y _=>ms.length-(intOf y).toNat)
   case atStart=>exact ⟨0,yj _,rfl,HA⟩
   case round=>
    clear HA q0 q1
    obtain ⟨k,hk,rfl,HK⟩:=hrel
    by_cases Q:k<ms.length
    ·have Y:(k:Int)<(ms.length:Int):=by omega
     have b0:wr.cell? ⟨wo.heap.size,0,none⟩=some (.int .i64 4):=zl (zA HK).ldk.box rfl
     have b1:wr.cell? ⟨wo.heap.size,1,none⟩=some (.func (.func 34) #[.pointer (some ⟨w.heap.size+1,0,none⟩)] #[]):=zl (zA HK).ldk.box rfl
     have HX:=zB (zQj (zA HG) Q (zA HK))
     clear HK
     go_wp2_with fail
     (with_reducible refine (zA HX).mono ?_)
     rintro e w1 ⟨b,rfl,ht,hf⟩
     cases b
     ·obtain ⟨j,q⟩:=hf rfl
      have d0:w1.cell? ⟨wo.heap.size,0,none⟩=some (.int .i64 4):=zl q.box rfl
      have HR:=zB (show zFc w am cm ms (.returned (.tuple #[.pointer none,.int .i64 4,.int .i64 (k:Int)])) w1.drew from yQ ⟨2,k,4,by omega,Q,rfl,rfl,j,q.bel.drew⟩)
      clear ht hf j q b0 b1
      go_wp2_with fail
      go_region
      go_wp2_with fail
      go_ret3
      exact zA HR
     ·have HN:=zB (ht rfl)
      clear ht hf b0 b1
      go_wp2_with fail
      exact ⟨⟨k+1,by omega,by go_num,HN⟩,by simp [intOf]; omega⟩
    ·have Y:¬ (k:Int)<(ms.length:Int):=by omega
     obtain rfl:k=ms.length:=by omega
     have HN:=zB (show Sx w W0 am cm ms 3 wr from (by have h:=zA HK; exact yQ ⟨by omega,_,_,zPK h⟩))
     clear HK
     go_wp2_with fail
     exact ⟨⟨3,by omega,by first | rfl | go_num,HN⟩,by simp [intOf]⟩
  ·have J:_=Value.int .i64 3:=hx
   subst J
   clear hx
   obtain ⟨X0,ob0,K⟩:∃ X ob,St w W0 X ob am cm ms 3 0 wr:=by
    rcases zA HS with ⟨_,h⟩ | ⟨h,_⟩
    ·exact h
    ·omega
   have H:=K.ldk.row.trans (zA p)
   have q0:wr.cell? ⟨w.heap.size+1+1,6,none⟩=some (.int .i64 5):=zl H rfl
   have q1:wr.cell? ⟨w.heap.size+1+1,7,none⟩=some (.func (.func 35) #[.pointer (some ⟨w.heap.size+1,0,none⟩)] #[]):=zl H rfl
   have v:w.heap.size+1+1<wr.heap.size:=K.ldk.siz
   have HA:=zB (K.alloc (.cells #[.int .i64 5,.func (.func 35) #[.pointer (some ⟨w.heap.size+1,0,none⟩)] #[]] 88))
   clear K H HS
   go_wp2_with fail
   obtain ⟨wo,rfl⟩:∃ wo,wo=wr:=⟨_,rfl⟩
   go_loopw [39] (fun y wi=>∃ k:Nat,k<=ms.length/\y = .int .i64 (k:Int)/\Hid (St w W0 wo.heap.size (.cells #[.int .i64 5,.func (.func 35) #[.pointer (some ⟨w.heap.size+1,0,none⟩)] #[]] 88) am cm ms 3 k wi)) (fun y _=>ms.length-(intOf y).toNat)
   case atStart=>exact ⟨0,yj _,rfl,HA⟩
   case round=>
    clear HA q0 q1
    obtain ⟨k,hk,rfl,HK⟩:=hrel
    by_cases Q:k<ms.length
    ·have Y:(k:Int)<(ms.length:Int):=by omega
     have b0:wr.cell? ⟨wo.heap.size,0,none⟩=some (.int .i64 5):=zl (zA HK).ldk.box rfl
     have b1:wr.cell? ⟨wo.heap.size,1,none⟩=some (.func (.func 35) #[.pointer (some ⟨w.heap.size+1,0,none⟩)] #[]):=zl (zA HK).ldk.box rfl
     have HX:=zB (zQk (zA HG) Q (zA HK))
     clear HK
     go_wp2_with fail
     (with_reducible refine (zA HX).mono ?_)
     rintro e w1 ⟨b,rfl,ht,hf⟩
     cases b
     ·obtain ⟨j,q⟩:=hf rfl
      have d0:w1.cell? ⟨wo.heap.size,0,none⟩=some (.int .i64 5):=zl q.box rfl
      have HR:=zB (show zFc w am cm ms (.returned (.tuple #[.pointer none,.int .i64 5,.int .i64 (k:Int)])) w1.drew from yQ ⟨3,k,5,by omega,Q,rfl,rfl,j,q.bel.drew⟩)
      clear ht hf j q b0 b1
      go_wp2_with fail
      go_region
      go_wp2_with fail
      go_ret3
      exact zA HR
     ·have HN:=zB (ht rfl)
      clear ht hf b0 b1
      go_wp2_with fail
      exact ⟨⟨k+1,by omega,by go_num,HN⟩,by simp [intOf]; omega⟩
    ·have Y:¬ (k:Int)<(ms.length:Int):=by omega
     obtain rfl:k=ms.length:=by omega
     have HN:=zB (show Sx w W0 am cm ms 4 wr from (by have h:=zA HK; exact yQ ⟨by omega,_,_,zPL h⟩))
     clear HK
     go_wp2_with fail
     exact ⟨⟨4,by omega,by first | rfl | go_num,HN⟩,by simp [intOf]⟩
  ·have J:_=Value.int .i64 4:=hx
   subst J
   clear hx
   obtain ⟨X0,ob0,K⟩:∃ X ob,St w W0 X ob am cm ms 4 0 wr:=by
    rcases zA HS with ⟨_,h⟩ | ⟨h,_⟩
    ·exact h
    ·omega
   have H:=K.ldk.row.trans (zA p)
   have q0:wr.cell? ⟨w.heap.size+1+1,8,none⟩=some (.int .i64 6):=zl H rfl
   have q1:wr.cell? ⟨w.heap.size+1+1,9,none⟩=some (.func (.func 36) #[.pointer (some ⟨w.heap.size+1,0,none⟩)] #[]):=zl H rfl
   have v:w.heap.size+1+1<wr.heap.size:=K.ldk.siz
   have HA:=zB (K.alloc (.cells #[.int .i64 6,.func (.func 36) #[.pointer (some ⟨w.heap.size+1,0,none⟩)] #[]] 88))
   clear K H HS
   go_wp2_with fail
   obtain ⟨wo,rfl⟩:∃ wo,wo=wr:=⟨_,rfl⟩
   go_loopw [39] (fun y wi=>∃ k:Nat,k<=ms.length/\y = .int .i64 (k:Int)/\Hid (St w W0 wo.heap.size (.cells #[.int .i64 6,.func (.func 36) #[.pointer (some ⟨w.heap.size+1,0,none⟩)] #[]] 88) am cm ms 4 k wi)) (fun y _=>ms.length-(intOf y).toNat)
   case atStart=>exact ⟨0,yj _,rfl,HA⟩
   case round=>
    clear HA q0 q1
    obtain ⟨k,hk,rfl,HK⟩:=hrel
    by_cases Q:k<ms.length
    ·have Y:(k:Int)<(ms.length:Int):=by omega
     have b0:wr.cell? ⟨wo.heap.size,0,none⟩=some (.int .i64 6):=zl (zA HK).ldk.box rfl
     have b1:wr.cell? ⟨wo.heap.size,1,none⟩=some (.func (.func 36) #[.pointer (some ⟨w.heap.size+1,0,none⟩)] #[]):=zl (zA HK).ldk.box rfl
     have HX:=zB (zQl (zA HG) Q (zA HK))
     clear HK
     go_wp2_with fail
     (with_reducible refine (zA HX).mono ?_)
     rintro e w1 ⟨b,rfl,ht,hf⟩
     cases b
     ·obtain ⟨j,q⟩:=hf rfl
      have d0:w1.cell? ⟨wo.heap.size,0,none⟩=some (.int .i64 6):=zl q.box rfl
      have HR:=zB (show zFc w am cm ms (.returned (.tuple #[.pointer none,.int .i64 6,.int .i64 (k:Int)])) w1.drew from yQ ⟨4,k,6,by omega,Q,rfl,rfl,j,q.bel.drew⟩)
      clear ht hf j q b0 b1
      go_wp2_with fail
      go_region
      go_wp2_with fail
      go_ret3
      exact zA HR
     ·have HN:=zB (ht rfl)
      clear ht hf b0 b1
      go_wp2_with fail
      exact ⟨⟨k+1,by omega,by go_num,HN⟩,by simp [intOf]; omega⟩
    ·have Y:¬ (k:Int)<(ms.length:Int):=by omega
     obtain rfl:k=ms.length:=by omega
     have HN:=zB (show Sx w W0 am cm ms 5 wr from (by have h:=zA HK; exact yR ⟨rfl,_,_,h⟩))
     clear HK
     go_wp2_with fail
     exact ⟨⟨5,by omega,by first | rfl | go_num,HN⟩,by simp [intOf]⟩
theorem zAg.hit {n:Nat} {B P:Nat->Prop} {R:Prop} (h:zAg n B P R) (hk:k<n) (hB:B k) (hb:∀ i,i<k->¬ B i):P k:=by
 rcases h with ⟨i,hi,h1,h2,h3⟩ | ⟨h1,_⟩
 ·rcases Nat.lt_trichotomy i k with e | e | e
  ·exact yP h1 (hb i e)
  ·rw [<- e]; exact h3
  ·exact yP hB (h2 k e)
 ·exact yP hB (h1 k hk)
theorem zAg.miss {n:Nat} {B P:Nat->Prop} {R:Prop} (h:zAg n B P R) (hb:∀ i,i<n->¬ B i):R:=by
 rcases h with ⟨i,hi,h1,_⟩ | ⟨_,h1⟩
 ·exact yP h1 (hb i hi)
 ·exact h1
theorem zDf (h:PUk ms U ms.length) (h0:Zd ms U0) (i:Nat) (hi:i<ms.length):(atU U i).os=(atU U0 i).os/\(atU U i).us=dst (atU U0 i).us:=by
 obtain ⟨us,h1,h2⟩:=h.2 i hi
 obtain ⟨e1,e2,_⟩:=zy.one h1 (h0.2 i hi)
 exact ⟨e2,by rw [h2,e1]⟩
theorem zJW {u:JZ}:u∈dst us↔u∈us:=by
 unfold dst
 rw [zAo]
 simp
theorem zKx (h:PUk ms U ms.length) (h0:Zd ms U0) (i:Nat) (hi:i<ms.length):B4 ms U i↔B4 ms U0 i:=by
 unfold B4
 rw [(zDf h h0 i hi).2]
 simp only [zJW]
theorem zLv (h:PUk ms U ms.length) (h0:Zd ms U0):Edg ms U=Edg ms U0:=by
 funext i j
 apply propext
 unfold Edg
 constructor
 ·rintro ⟨h1,h2,h3⟩
  rw [(zDf h h0 i h1).2,zJW] at h3
  exact ⟨h1,h2,h3⟩
 ·rintro ⟨h1,h2,h3⟩
  refine ⟨h1,h2,?_⟩
  rw [(zDf h h0 i h1).2,zJW]
  exact h3
theorem zQm (xs:List OpR):∃ c,zR xs c:=by
 unfold zR
 by_cases h1:500<xs.length
 ·exact ⟨1,yQ ⟨rfl,h1⟩⟩
 ·have h:xs.length<=500:=by omega
  by_cases h2:zB1 xs xs.length
  ·by_cases h3:Pr 3 xs
   ·exact ⟨3,yR ⟨h,yR ⟨h2,yQ ⟨rfl,h3⟩⟩⟩⟩
   ·by_cases h4:Pr 4 xs
    ·exact ⟨4,yR ⟨h,yR ⟨h2,yR ⟨h3,yQ ⟨rfl,h4⟩⟩⟩⟩⟩
    ·exact ⟨0,yR ⟨h,yR ⟨h2,yR ⟨h3,yR ⟨rfl,h4⟩⟩⟩⟩⟩
  ·exact ⟨2,yR ⟨h,yQ ⟨rfl,h2⟩⟩⟩
theorem zFd {S T:List OpR} (h:zN7 S T):zR T 0↔¬ ∃ c,zR S c/\c≠0:=by
 by_cases hs:S.length<=500
 ·rw [h.1 hs]
  constructor
  ·rintro h1 ⟨c,h2,h3⟩
   exact h3 (zAD h2 h1)
  ·intro h1
   obtain ⟨c,hc⟩:=zQm S
   by_cases e:c=0
   ·rw [<- e]; exact hc
   ·exact yP ⟨c,hc,e⟩ h1
 ·have ht:=h.2 (by omega)
  constructor
  ·intro h1
   rcases h1 with ⟨h1,_⟩ | ⟨h1,_⟩
   ·cases h1
   ·omega
  ·intro h1
   exact yP ⟨1,yQ ⟨rfl,by omega⟩,by decide⟩ h1
theorem zQn {c q:Int} (h:zz ms out c q) (hn:ms.length<=100) {s:Nat} (hs:s<5) (hk:k<ms.length) (hf:Fl ms s k):out=[]/\c=(s:Int)+2/\q=(k:Int):=by
 rcases h with ⟨h,_⟩ | ⟨_,h⟩
 ·omega
 rcases (by omega:s=0\/s=1\/s=2\/s=3\/s=4) with rfl | rfl | rfl | rfl | rfl
 ·obtain ⟨h1,h2⟩:=hf
  exact h.hit hk h2 h1
 ·obtain ⟨h1,h2,h3⟩:=hf
  exact (h.miss h1).hit hk h3 h2
 ·obtain ⟨h1,h2,U,hU,h4,y⟩:=hf
  obtain ⟨U0,H,h'⟩:=(h.miss h1).miss h2
  exact h'.hit hk ((zKx hU H k hk).1 y) (fun i hi=>fun x=>h4 i hi ((zKx hU H i (by omega)).2 x))
 ·obtain ⟨h1,h2,U,hU,h4,h5,Q⟩:=hf
  obtain ⟨U0,H,h'⟩:=(h.miss h1).miss h2
  rw [zLv hU H] at h5 Q
  exact (h'.miss (fun i hi x=>h4 i hi ((zKx hU H i hi).2 x))).hit hk Q h5
 ·obtain ⟨h1,h2,U,T,rk,hU,h4,h5,hR,hT,h6,Y⟩:=hf
  obtain ⟨U0,H,h'⟩:=(h.miss h1).miss h2
  rw [zLv hU H] at h5
  obtain ⟨S,hS,X⟩:=(h'.miss (fun i hi x=>h4 i hi ((zKx hU H i hi).2 x))).miss h5
  have K:=fun i (hi:i<ms.length)=>BrE.near hT hR hS (fun i hi=>zDf hU H i hi) (rk i+1) i hi (by omega)
  refine X.hit hk ?_ (fun i hi x=>((zFd (K i (by omega))).1 (h6 i hi)) x)
  by_cases hx:B6 S k
  ·exact hx
  ·exact yP ((zFd (K k hk)).2 hx) Y
theorem zQo {c q:Int} (h:zz ms out c q) (hn:ms.length<=100) {T:Nat->List OpR} {rk:Nat->Nat} (h1:∀ i,i<ms.length->¬ B2 ms i) (h2:∀ i,i<ms.length->¬ B3 ms i) (hU:PUk ms U ms.length) (h4:∀ i,i<ms.length->¬ B4 ms U i) (h5:∀ i,i<ms.length->¬ TC (Edg ms U) i i) (hR:RkE ms.length (nmF ms) U rk) (hT:BrE ms.length (nmF ms) U T) (h6:∀ i,i<ms.length->zR (T i) 0):out=(List.range ms.length).map T/\c=0/\q=0:=by
 rcases h with ⟨h,_⟩ | ⟨_,h⟩
 ·omega
 obtain ⟨U0,k,h'⟩:=(h.miss h1).miss h2
 rw [zLv hU k] at h5
 obtain ⟨S,hS,Q⟩:=(h'.miss (fun i hi x=>h4 i hi ((zKx hU k i hi).2 x))).miss h5
 have H:=fun i (hi:i<ms.length)=>BrE.near hT hR hS (fun i hi=>zDf hU k i hi) (rk i+1) i hi (by omega)
 obtain ⟨e1,e2,e3⟩:=Q.miss (fun i hi x=>((zFd (H i hi)).1 (h6 i hi)) x)
 refine ⟨?_,e2,e3⟩
 rw [e1]
 refine List.map_congr_left (fun i hi=>?_)
 have K:i<ms.length:=List.mem_range.1 hi
 have hl:(S i).length<=500:=by
  by_cases hx:(S i).length<=500
  ·exact hx
  ·have:=(H i K).2 (by omega)
   rcases h6 i K with ⟨e,_⟩ | ⟨e,_⟩
   ·cases e
   ·omega
 exact ((H i K).1 hl).symm
structure zQx (w:JY) (B g:Nat) (tf:Nat->Value) (out:List (List OpR)):Prop where
 hg:g<w.heap.size
 ce:∀ i,i<out.length->w.cell? ⟨g,i,none⟩=some (tf i)
 ro:∀ i,i<out.length->Zw w B (tf i) (zBQ out i)
 ng:∀ i,i<out.length->(tf i).ownBlock≠some g
 ap:∀ i j,i<out.length->j<out.length->i≠j->∀ q,(tf i).ownBlock=some q->(tf j).ownBlock≠some q
end Go.Proofs.YtgbkgkdpdfdokaaGreatDoor
