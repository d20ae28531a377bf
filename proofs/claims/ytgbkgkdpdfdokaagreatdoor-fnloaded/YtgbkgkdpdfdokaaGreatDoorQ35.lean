import Derived.Test.YtgbkgkdpdfdokaaGreatDoorQ34
namespace Go.Proofs.YtgbkgkdpdfdokaaGreatDoor
set_option linter.all false
set_option maxHeartbeats 16000000
set_option maxRecDepth 100000
open Go.RowKit Go.Maps
variable {B C P R b bs cm i j k n:Nat} {G G':ByteArray -> Option Value} {T:Nat -> List OpR} {U:List UnR} {acc:List OpR} {am:Option Addr} {ks rs:List ByteArray} {kv v v1:Value} {ms:List zF} {nm:ByteArray -> Nat} {pv:Option Nat} {rk:Nat -> Nat} {vs:List UvR} {w w' wr:World}
theorem zAu {e s:Nat} {xs:List Value} (h:w.ownsRow B e s v n xs) (hs:∀ g,v.ownBlock=some g->w'.heap[g]?=w.heap[g]?):w'.ownsRow B e s v n xs:=by
 obtain ⟨a,h1 | ⟨g,cap,H,h1,h2,h3,h4⟩⟩:=h
 ·exact ⟨a,yQ h1⟩
 ·exact ⟨a,yR ⟨g,cap,H,h1,h2,(hs g (by rw [h1]; rfl)).trans h3,h4⟩⟩
theorem zq.same {us:List JZ} (h:zq w v us) (hz:w.heap.size<=w'.heap.size) (hs:∀ g,v.ownBlock=some g->w'.heap[g]?=w.heap[g]?):zq w' v us:=by
 obtain ⟨a,c,rfl,h0 | ⟨g,rfl,hg,hc⟩⟩:=h
 ·exact ⟨a,c,rfl,yQ h0⟩
 ·exact ⟨_,c,rfl,yR ⟨g,rfl,yi hg hz,fun j x hj=>(yp (hs g rfl)).trans (hc j x hj)⟩⟩
theorem zt.same {us:List OpR} (h:zt w v us) (hz:w.heap.size<=w'.heap.size) (hs:∀ g,v.ownBlock=some g->w'.heap[g]?=w.heap[g]?):zt w' v us:=by
 obtain ⟨a,c,rfl,h0 | ⟨g,rfl,hg,hc⟩⟩:=h
 ·exact ⟨a,c,rfl,yQ h0⟩
 ·refine ⟨_,c,rfl,yR ⟨g,rfl,yi hg hz,fun i hi=>?_⟩⟩
  have hk:=fun q=>(yp (w:=w) (w':=w') (a:=⟨g,q,none⟩) (hs g rfl))
  obtain ⟨h1,h2,h3,h4⟩:=hc i hi
  exact ⟨(hk _).trans h1,(hk _).trans h2,(hk _).trans h3,(hk _).trans h4⟩
structure PgC (w:JY) (B C P:Nat) (am:Option Addr) (cm n:Nat) (v1:Value) (vs:List UvR) (U:List UnR):Prop where
 c0:w.cell? ⟨P,0,none⟩=some (.slice am n cm)
 c1:w.cell? ⟨P,1,none⟩=some v1
 row:zA9 w B v1 vs
 hv:∀ g,v1.ownBlock=some g->g<C
 uns:zCB w C vs U
 lo:zPG B vs
 ln:vs.length<=n/\n<=vs.length
theorem PgC.lt (h:PgC w B C P am cm n v1 vs U):P<w.heap.size:=World.block_lt_of_cell? _ _ h.c0
theorem PgC.keep (h:PgC w B C P am cm n v1 vs U) (hz:w.heap.size<=w'.heap.size) (hs:∀ i,B<=i->i<C->w'.heap[i]?=w.heap[i]?) (h0:w'.cell? ⟨P,0,none⟩=w.cell? ⟨P,0,none⟩) (h1:w'.cell? ⟨P,1,none⟩=w.cell? ⟨P,1,none⟩):PgC w' B C P am cm n v1 vs U:=by
 refine ⟨h0.trans h.c0,h1.trans h.c1,zAu h.row (fun g e=>hs g (h.row.lt g e).1 (h.hv g e)),h.hv,⟨h.uns.1,fun i hi=>?_⟩,h.lo,h.ln⟩
 obtain ⟨⟨q1,q2,q3⟩,q4,q5⟩:=h.uns.2 i hi
 exact ⟨⟨q1.same hz (fun g e=>hs g ((h.lo i hi).1 g e) (q4 g e)),q2.same hz (fun g e=>hs g ((h.lo i hi).2 g e) (q5 g e)),q3⟩,q4,q5⟩
theorem PgC.below (h:PgC w B C P am cm n v1 vs U) (hC:C<=w.heap.size) (hb:Below w.heap.size w w'):PgC w' B C P am cm n v1 vs U:=
 h.keep hb.size (fun i _ hi=>hb.block i (by omega)) (hb.cell (p:=⟨P,0,none⟩) h.lt) (hb.cell (p:=⟨P,1,none⟩) h.lt)
theorem PgC.eff (h:PgC w B C P am cm n v1 vs U) (hP:P<B) (hC:C<=w.heap.size) (he:Eff w w' P 2 kv pv) (hk:∀ g,kv.ownBlock=some g->C<=g) (hp:∀ g,pv=some g->C<=g):PgC w' B C P am cm n v1 vs U:=
 h.keep he.size (fun i hB hi=>he.blk i (by omega) (by omega) (fun e=>by have:=hk i e; omega) (fun e=>by have:=hp i e; omega)) (he.cel 0 (by omega) (by omega)).1 (he.cel 1 (by omega) (by omega)).1
theorem PgC.at (h:PgC w B C P am cm n v1 vs U) (hi:i<n) :
  ∃ g c,v1 = .slice (some ⟨g,0,none⟩) vs.length c/\w.cell? ⟨g,i*3,none⟩=some (atV vs i).vu/\w.cell? ⟨g,i*3+1,none⟩=some (atV vs i).vo/\w.cell? ⟨g,i*3+2,none⟩=some (.string (atV vs i).b):=by
 have hl:=h.ln
 have hr:=h.row
 obtain ⟨a,h1 | ⟨g,cap,H,h1,h2,h3,h4⟩⟩:=h.row
 ·have:=h1.2; simp at this; omega
 ·subst h1
  obtain ⟨x,y,z⟩:=hr.ops i (by omega)
  exact ⟨g,cap,rfl,x,y,z⟩
theorem Zf.undrew {o:Nat} (h:Zf w.drew b o B kv pv ks w'):Zf w b o B kv pv ks w':=by
 obtain ⟨kv',pv',h1,h2,h3,h4⟩:=h
 exact ⟨kv',pv',h1,⟨h2.os,h2.tape,h2.output,h2.size,h2.blk,h2.cel⟩,h3,h4⟩
theorem zAI.get {ty e:TypeId} (h:zAI w b n G) (ht:Tryz.prog.underlying ty=some (.map 9 e)) {z:Value} (hz:(zeroValue e).run Tryz.prog w = .ok z w) {t:JZ} (hs:t.size<=maxLen) :
  (Instr.lookup ty (.map (some b)) (.string t) false).run Tryz.prog w = .ok ((G t).getD z) w:=by
 obtain ⟨D,hD,h⟩:=h
 obtain ⟨v,ps,H,hv⟩:=hD.lookup (string_keyed Tryz.underlying9) ht hz (zd:=.held z) (zp:=[]) rfl (zNy hs)
 have e:v=(G t).getD z:=by
  cases hg:G t with
  | none=>
   rw [(h t hs).2.2 hg] at hv
   simp only [zBX,Option.some.injEq,Prod.mk.injEq,DataW.held.injEq] at hv
   exact hv.1
  | some u=>
   rw [(h t hs).2.1 u hg] at hv
   simp only [zBX,Option.some.injEq,Prod.mk.injEq,DataW.held.injEq] at hv
   exact hv.1
 rw [<- e]
 exact H
theorem zHt (P C:Nat) (am:Option Addr) (cm:Nat) (ms:List zF) (kv:Value) (pv:Option Nat) (ks:List JZ) (k:Nat) (w:JY) (q:w.cell? ⟨P,0,none⟩=some (.slice am ms.length cm)) (hM:zEJ w am ms) (hk:k<ms.length) (hS:zBm w P 2 C kv pv ks) (hC:C<=w.heap.size) (hl:ks.length<=1048576) (H:(atM ms k).n.size<=maxLen) :
  Calls Tryz.prog 33 #[.pointer (some ⟨P,0,none⟩),.int .i64 (k:Int)] w fun e w'=>zBs e ((atM ms k).n ∉ ks)/\Zf w P 2 C kv pv (zAO ks (atM ms k).n) w':=by
 have x:(k:Int)<(ms.length:Int):=by omega
 rcases hM with hM | ⟨bA,Q,rfl,h,K⟩
 ·omega
 obtain ⟨m0,m1⟩:=h k hk
 have HX:=zB (zKl P 2 C kv pv ks (atM ms k).n w.drew (hS.below (yG _ _).drew) H hl hC)
 clear hS h
 go_enter Tryz.func33,Tryz.ntmps33
 go_wp2_with fail
 go_region_with (first | (go_at_call 63; (with_reducible refine (zA HX).mono ?_); rintro e w1 ⟨⟨v,rfl,hv⟩,hpo⟩; have HV:=zB hv; have HP:=zB hpo.undrew; clear hv hpo))
 go_wp2_with fail
 go_ret
 exact ⟨⟨v,rfl,zA HV⟩,zA HP⟩
theorem zHu (P B C:Nat) (am:Option Addr) (cm n:Nat) (v1:Value) (vs:List UvR) (U:List UnR) (kv:Value) (pv:Option Nat) (ks:List JZ) (k:Nat) (w:JY) (h:PgC w B C P am cm n v1 vs U) (hk:k<n) (hS:zBm w P 2 C kv pv ks) (hs:∀ u∈(atU U k).us,u.size<=maxLen) (hn:n<=1048576) (E:(atU U k).us.length<=1048576) :
  Calls Tryz.prog 34 #[.pointer (some ⟨P,0,none⟩),.int .i64 (k:Int)] w fun e w'=>zBs e (∀ u∈(atU U k).us,u∈ks)/\w'=w:=by
 obtain ⟨g,c,rfl,q0,q1,q2⟩:=h.at hk
 have D:k<vs.length:=by have:=h.ln; omega
 have F:(k:Int)<(vs.length:Int):=by omega
 have d1:=h.c1
 obtain ⟨⟨Y,_,_⟩,_,_⟩:=h.uns.2 k D
 obtain ⟨us,A⟩:∃ us,us=(atU U k).us:=⟨_,rfl⟩
 rw [<- A] at Y hs E ⊢
 have V:=zB Y
 have HH:=zB (fun t (ht:t.size<=maxLen)=>zHb P 2 C kv pv ks t w hS ht)
 have HS:=zB hs
 obtain ⟨a,cc,hv,_⟩:=Y
 rw [hv] at q0 V
 clear h hS hs A hv
 go_enter Tryz.func34,Tryz.ntmps34
 go_wp2_with fail
 go_loop [16] (fun i=>∃ j:Nat,j<=us.length/\i = .int .i64 (j:Int)/\Hid (∀ q u,q<j->us[q]?=some u->u∈ks)) (fun i=>us.length-(intOf i).toNat)
 case atStart=>exact ⟨0,yj _,rfl,zB (fun q u h=>by omega)⟩
 case round=>
  obtain ⟨j,hj,rfl,HJ⟩:=hrel
  by_cases d:j<us.length
  ·have f:(j:Int)<(us.length:Int):=by omega
   obtain ⟨p,hp⟩:∃ p,us[j]?=some p:=⟨_,yn d⟩
   obtain ⟨g',c',Q,G,K⟩:=(zA V).lt (by omega)
   obtain ⟨rfl,rfl⟩:a=some ⟨g',0,none⟩/\cc=c':=by injection Q with x _ y; exact ⟨x,y⟩
   have hc:=K j p hp
   have HX:=zB ((zA HH) p ((zA HS) p (yy hp)))
   by_cases H:p∈ks
   ·have HN:=zB (show ∀ q u,q<j+1->us[q]?=some u->u∈ks from fun q u hq hu=>by
     by_cases e:q=j
     ·subst e; rw [hp] at hu; injection hu with hu; rw [<- hu]; exact H
     ·exact (zA HJ) q u (by omega) hu)
    have X:=zB H
    clear Q hp K H
    go_wp2_with (first | (go_at_call 64; (with_reducible refine (zA HX).mono ?_); rintro e w1 ⟨⟨v,rfl,hv⟩,hx⟩; obtain rfl:=hx.symm; obtain rfl:v=true:=hv.2 (zA X); clear hv hx))
    exact ⟨⟨j+1,by omega,by go_num,HN⟩,by simp [intOf]; omega⟩
   ·have b:=zB (show ¬ ∀ u∈us,u∈ks from fun h=>H (h p (yy hp)))
    have X:=zB H
    clear Q hp K H
    go_wp2_with (first | (go_at_call 64; (with_reducible refine (zA HX).mono ?_); rintro e w1 ⟨⟨v,rfl,hv⟩,hx⟩; obtain rfl:=hx.symm; obtain rfl:v=false:=(by cases v; rfl; exact yP (hv.1 rfl) (zA X)); clear hv hx))
    go_ret
    exact ⟨⟨false,rfl,zc (zA b)⟩,rfl⟩
  ·have J:=zB (show ∀ u∈us,u∈ks from fun u hu=>by
    obtain ⟨q,hq,e⟩:=List.getElem_of_mem hu
    exact (zA HJ) q u (by omega) (by rw [yn hq,e]))
   go_wp2
   go_ret
   exact ⟨⟨true,rfl,zAJ (zA J)⟩,rfl⟩
theorem zHe (P B C:Nat) (am:Option Addr) (cm n:Nat) (v1:Value) (vs:List UvR) (U:List UnR) (kv:Value) (pv:Option Nat) (ks:List JZ) (t:JZ) (k:Nat) (w:JY) (h:PgC w B C P am cm n v1 vs U) (hk:k<n) (hS:zBm w P 2 C kv pv ks) (ht:t.size<=maxLen) (hi:zEU ks t=some k) :
  Calls Tryz.prog 37 #[.pointer (some ⟨P,0,none⟩),.string t] w fun e w'=>e = .returned (.agg #[(atV vs k).vu,(atV vs k).vo,.string (atV vs k).b])/\Below w.heap.size w w':=by
 obtain ⟨g,c,rfl,q0,q1,q2⟩:=h.at hk
 have y:k<vs.length:=by have:=h.ln; omega
 have J:(k:Int)<(vs.length:Int):=by omega
 have d1:=h.c1
 have s1:=hS.c1
 have q:=h.lt
 obtain ⟨bm,rfl,j,hm⟩:∃ bm,pv=some bm/\C<=bm/\zAI w bm ks.length (gSS ks):=by
  rcases hS.mp with ⟨_,e⟩ | h
  ·rw [e] at hi; cases hi
  ·exact h
 obtain ⟨W,hW⟩:∃ W,W=w.alloc (.cells #[.slice none 0 0,.slice none 0 0,.string ⟨#[]⟩] 41):=⟨_,rfl⟩
 have hb:Below w.heap.size w W:=by rw [hW]; exact zC _ _
 have H:=((hm.kept (zH hb none) (by simp)).kept (zH (show Below W.heap.size W W.drew from (yG _ _).drew) none) (by simp)).get (ty:=80) Tryz.underlying80 (zKk W.drew) ht
 rw [show gSS ks t=some (.int .i64 (k:Int)) by unfold gSS; rw [hi]; rfl] at H
 have Y:(Instr.lookup 80 (.map (some bm)) (.string t) false).run Tryz.prog W.drew = .ok (.int .i64 (k:Int)) W.drew:=H
 have K:g<w.heap.size:=World.block_lt_of_cell? _ _ q0
 have e1:=(hb.cell (p:=⟨P,1,none⟩) q).trans d1
 have e3:=(hb.cell (p:=⟨P,2+1,none⟩) q).trans s1
 have x0:=(hb.cell (p:=⟨g,k*3,none⟩) K).trans q0
 have x1:=(hb.cell (p:=⟨g,k*3+1,none⟩) K).trans q1
 have x2:=(hb.cell (p:=⟨g,k*3+2,none⟩) K).trans q2
 obtain ⟨⟨⟨a,c',x,_⟩,⟨a2,c2,Q,_⟩,X⟩,_,_⟩:=h.uns.2 k y
 clear X
 rw [x] at x0 ⊢
 rw [Q] at x1 ⊢
 have z0:W.cell? ⟨w.heap.size,0,none⟩=some (.slice none 0 0):=by rw [hW]; simp [go_sem]
 have z1:W.cell? ⟨w.heap.size,1,none⟩=some (.slice none 0 0):=by rw [hW]; simp [go_sem]
 have z2:W.cell? ⟨w.heap.size,2,none⟩=some (.string ⟨#[]⟩):=by rw [hW]; simp [go_sem]
 have zf0:W.frozen? ⟨w.heap.size,0,none⟩=false:=by rw [hW]; simp [go_sem]
 have zf1:W.frozen? ⟨w.heap.size,1,none⟩=false:=by rw [hW]; simp [go_sem]
 have zf2:W.frozen? ⟨w.heap.size,2,none⟩=false:=by rw [hW]; simp [go_sem]
 have HB:=zB hb
 have HW:=zB hW
 clear hW hb H hm hS h q0 q1 q2 x Q
 go_enter Tryz.func37,Tryz.ntmps37
 go_wp2_with fail
 rw [<- zA HW]
 go_region
 go_wp2_with fail
 refine yK (v:=.agg #[.slice a (atU U k).us.length c',.slice a2 (atU U k).os.length c2,.string (atV vs k).b]) ?res rfl ?_
 case res=>simp [results,Tryz.results37,go_sem,z0,z1,z2]
 exact ⟨rfl,((((zA HB).setCell (p:=⟨w.heap.size,0,none⟩) (yh _) _).setCell (p:=⟨w.heap.size,1,none⟩) (yh _) _).setCell (p:=⟨w.heap.size,2,none⟩) (yh _) _).drew⟩
structure zBR (ms:List zF) (ks:List JZ):Prop where
 ln:ks.length=ms.length
 at':∀ i,i<ms.length->ks[i]?=some (atM ms i).n
 nd:ks.Nodup
 sz:∀ x∈ks,x.size<=maxLen
theorem zQf (h:ks.Nodup):∀ {i:Nat} {t:JZ},ks[i]?=some t->zEU ks t=some i:=by
 induction ks with
 | nil=>intro i t h; simp at h
 | cons x r ih=>
  intro i t hi
  rw [List.nodup_cons] at h
  cases i with
  | zero=>
   simp at hi
   unfold zEU
   rw [yO hi]
  | succ i=>
   have H:r[i]?=some t:=by simpa using hi
   have hx:x≠t:=fun e=>h.1 (by rw [e]; exact yy H)
   unfold zEU
   rw [yN hx,ih h.2 H]
   rfl
theorem zBR.idx (h:zBR ms ks) (hi:i<ms.length):zEU ks (atM ms i).n=some i:=zQf h.nd (h.at' i hi)
theorem zBR.mem (h:zBR ms ks) {u:JZ} (hu:u∈ks):∃ i,i<ms.length/\(atM ms i).n=u:=by
 obtain ⟨i,hi,e⟩:=List.getElem_of_mem hu
 have hl:=h.ln
 have:=h.at' i (by omega)
 rw [yn hi,e] at this
 injection this with this
 exact ⟨i,by omega,this.symm⟩
theorem zBR.inj (h:zBR ms ks) (hi:i<ms.length) (hj:j<ms.length) (e:(atM ms i).n=(atM ms j).n):i=j:=by
 have h1:=h.idx hi
 rw [e,h.idx hj] at h1
 injection h1 with h1
 exact h1.symm
structure Rch (ms:List zF) (U:List UnR) (k:Nat) (rs:List JZ) (j:Nat):Prop where
 nd:rs.Nodup
 reach:∀ u∈rs,∃ i,i<ms.length/\(atM ms i).n=u/\TC (Edg ms U) k i
 first:∀ u∈(atU U k).us,u∈rs
 done:∀ q u i,q<j->rs[q]?=some u->i<ms.length->(atM ms i).n=u->∀ x∈(atU U i).us,x∈rs
theorem Rch.start (hN:zBR ms ks) (hk:k<ms.length) (hu:∀ i,i<ms.length->∀ u∈(atU U i).us,u∈ks):Rch ms U k ((atU U k).us.foldl zAO []) 0:=
 ⟨zG1 _ _ (by simp),fun u h=>by
  rcases (zAo _ _).1 h with h | h
  ·cases h
  ·obtain ⟨i,hi,e⟩:=hN.mem (hu k hk u h)
   exact ⟨i,hi,e,TC.one ⟨hk,hi,by rw [e]; exact h⟩⟩,fun u h=>(zAo _ _).2 (yR h),fun q u i hq=>by omega⟩
theorem Rch.step (hN:zBR ms ks) (hu:∀ i,i<ms.length->∀ u∈(atU U i).us,u∈ks) (h:Rch ms U k rs j) (hi:i<ms.length) (hj:rs[j]?=some (atM ms i).n):Rch ms U k ((atU U i).us.foldl zAO rs) (j+1):=by
 have P:j<rs.length:=(yX.1 hj).1
 have Y:∀ q x,q<rs.length->((atU U i).us.foldl zAO rs)[q]?=some x->rs[q]?=some x:=by
  have:∀ (l H:List JZ) q x,q<H.length->(l.foldl zAO H)[q]?=some x->H[q]?=some x:=by
   intro l
   induction l with
   | nil=>intro H q x _ h; exact h
   | cons a r ih=>
    intro H q x hq h
    have p:H.length<=(zAO H a).length:=by
     by_cases e:a∈H
     ·rw [zBh e]; exact yh _
     ·rw [zBZ e]; simp
    have h1:=ih (zAO H a) q x (by omega) h
    by_cases e:a∈H
    ·rw [zBh e] at h1; exact h1
    ·rw [zBZ e,yB hq] at h1; exact h1
  exact this _ _
 obtain ⟨i0,J,e0,ht⟩:=h.reach _ (yy hj)
 have e1:=hN.inj J hi e0
 subst e1
 refine ⟨zG1 _ _ h.nd,fun u hm=>?_,fun u hm=>(zAo _ _).2 (yQ (h.first u hm)),fun q u i' hq hx y e x X=>?_⟩
 ·rcases (zAo _ _).1 hm with hm | hm
  ·exact h.reach u hm
  ·obtain ⟨m,Q,e⟩:=hN.mem (hu _ hi u hm)
   exact ⟨m,Q,e,ht.trans (TC.one ⟨hi,Q,by rw [e]; exact hm⟩)⟩
 ·have K:=Y q u (by omega) hx
  by_cases e2:q=j
  ·subst e2
   rw [hj] at K
   injection K with K
   have:=hN.inj hi y (K.trans e.symm)
   subst this
   exact (zAo _ _).2 (yR X)
  ·exact (zAo _ _).2 (yQ (h.done q u i' (by omega) K y e x X))
theorem Rch.len (hN:zBR ms ks) (h:Rch ms U k rs j):rs.length<=ms.length:=by
 rw [<- hN.ln]
 exact zAv rs ks h.nd (fun u hu=>by
  obtain ⟨i,hi,e,_⟩:=h.reach u hu
  rw [<- e]
  exact yy (hN.at' i hi))
theorem Rch.fin (hN:zBR ms ks) (h:Rch ms U k rs j) (hj:rs.length<=j) (hk:k<ms.length):(atM ms k).n∈rs↔TC (Edg ms U) k k:=by
 constructor
 ·intro hm
  obtain ⟨i,hi,e,ht⟩:=h.reach _ hm
  have:=hN.inj hi hk e
  subst this
  exact ht
 ·rintro ⟨q,hp⟩
  refine TC.closed (P:=fun i=>(atM ms i).n∈rs) (fun a b ha H=>?_) hp (fun m hm=>h.first _ hm.2.2)
  obtain ⟨q,hq,e⟩:=List.getElem_of_mem ha
  exact h.done q _ a (by omega) (by rw [yn hq,e]) H.1 rfl _ H.2.2
theorem zLr (x y z:Value) (w:JY):(Instr.field 41 (.agg #[x,y,z]) 0).run Tryz.prog w = .ok x w:=by kernel_rfl
theorem zPH (h:List JZ) (u:JZ):h.length<=(zAO h u).length:=by
 by_cases e:u∈h
 ·rw [zBh e]; exact yh _
 ·rw [zBZ e]; simp
theorem zKt:∀ (us h:List JZ),h.length<=(us.foldl zAO h).length
 | [],h=>yh _
 | u::r,h=>yr (zPH h u) (zKt r (zAO h u))
theorem zLs (rs us:List JZ) (h:j+1<=rs.length):j+1<=(us.foldl zAO rs).length:=yr h (zKt us rs)
theorem zJT (P B C:Nat) (am:Option Addr) (cm:Nat) (ms:List zF) (v1:Value) (vs:List UvR) (U:List UnR) (kv:Value) (pv:Option Nat) (ks:List JZ) (k:Nat) (w:JY) (h:PgC w B C P am cm ms.length v1 vs U) (hM:zEJ w am ms) (hk:k<ms.length) (hS:zBm w P 2 C kv pv ks) (hC:C<=w.heap.size) (hn:ms.length<=100) (hN:zBR ms ks) (hu:∀ i,i<ms.length->∀ u∈(atU U i).us,u∈ks) (G:∀ i,i<ms.length->(atU U i).us.length<=20001) :
  Calls Tryz.prog 35 #[.pointer (some ⟨P,0,none⟩),.int .i64 (k:Int)] w fun e w'=>zBs e (¬ TC (Edg ms U) k k)/\Below w.heap.size w w':=by
 obtain ⟨g,c,rfl,q0,q1,q2⟩:=h.at hk
 have ho:k<vs.length:=by have:=h.ln; omega
 have hq:(k:Int)<(vs.length:Int):=by omega
 have hg:=h.lt
 have d0:=h.c0
 have d1:=h.c1
 have hr:g<w.heap.size:=World.block_lt_of_cell? _ _ q0
 have hy:(k:Int)<(ms.length:Int):=by omega
 obtain ⟨⟨Q,_,F⟩,q,_⟩:=h.uns.2 k ho
 obtain ⟨au,cu,Y,_⟩:=id Q
 have I:=zB (show Calls Tryz.prog 65 #[.pointer (some ⟨w.heap.size,0,none⟩),(atV vs k).vu] (w.alloc (.cells #[.slice none 0 0,.map none] 82)) fun e w'=>e = .returned (.tuple #[])/\Zf (w.alloc (.cells #[.slice none 0 0,.map none] 82)) w.heap.size 0 w.heap.size (.slice none 0 0) none ((atU U k).us.foldl zAO []) w' from
  zDd w.heap.size 0 w.heap.size _ none [] (atV vs k).vu (atU U k).us _ (zBm.new w _ _) (fun x hx=>hN.sz x (hu k hk x hx)) (by have:=G k hk; simp; omega) (by simp) (Q.below (zC _ _)) (fun g e=>⟨by have:=q g e; omega,by simp [Value.ownBlock],by simp⟩))
 rw [Y] at I q0
 have r:=zB (Rch.start hN hk hu)
 have HN:=zB hN
 have HU:=zB hu
 have ha:=zB G
 have HM:=zB hM
 have hm:=zB h
 have hl:=zB hS
 clear h hM hS hN hu G Q q F Y q1 q2
 go_enter Tryz.func35,Tryz.ntmps35
 go_wp2_with (first | (go_at_call 65; (with_reducible refine (zA I).mono ?_); rintro e w1 ⟨rfl,kv0,pv0,hs1,he1,hk1,hp1⟩; have s:=zB hs1; have N:Below w.heap.size w w1:=((zC _ _).trans (he1.below (B:=w.heap.size) (by simp) (yh _) (fun g e=>by simp [Value.ownBlock] at e) (fun g e=>by simp at e))); clear hs1 he1 hk1 hp1 I))
 go_loopw [6] (fun i wr=>∃ (j:Nat) (rs:List JZ) (kv':Value) (pv':Option Nat),i = .int .i64 (j:Int)/\j<=rs.length/\Hid (zBm wr w.heap.size 0 w.heap.size kv' pv' rs)/\Hid (Rch ms U k rs j)/\Below w.heap.size w wr) (fun i _=>ms.length-(intOf i).toNat)
 case atStart=>exact ⟨0,_,_,_,rfl,yj _,s,r,N⟩
 case round=>
  clear s r N
  obtain ⟨j,rs,kv',pv',rfl,hj,K,V,H⟩:=hrel
  obtain ⟨ar,cr,rfl⟩:∃ a c,kv' = .slice a rs.length c:=zO (zA K).row
  have r0:=(zA K).c0
  have hs:=H.size
  have hw:=(zA V).len (zA HN)
  by_cases he:j<rs.length
  ·have M:(j:Int)<(rs.length:Int):=by omega
   obtain ⟨p,hp⟩:∃ p,rs[j]?=some p:=⟨_,yn he⟩
   obtain ⟨i,hi,A,_⟩:=(zA V).reach p (yy hp)
   obtain ⟨gk,ck,R,ht,l⟩:=(zA K).row.strs.lt (by omega)
   obtain ⟨rfl,rfl⟩:ar=some ⟨gk,0,none⟩/\cr=ck:=by injection R with x _ y; exact ⟨x,y⟩
   have hc:=l j p hp
   have E:=(zA hm).below hC H
   have O:=(zA hl).below H
   have Z:i<vs.length:=by have:=E.ln; omega
   have D:=zB (zHe P B C am cm ms.length _ vs U kv pv ks p i wr E hi O ((zA HN).sz p (by rw [<- A]; exact yy ((zA HN).at' i hi))) (by rw [<- A]; exact (zA HN).idx hi))
   obtain ⟨⟨Q,hd,F⟩,q,_⟩:=E.uns.2 i Z
   clear F
   have J:=zB ((zA V).step (zA HN) (zA HU) hi (by rw [hp,A]))
   have X:=zB (fun (w1:JY) (hb:Below wr.heap.size wr w1)=>zDd w.heap.size 0 w.heap.size _ pv' rs (atV vs i).vu (atU U i).us w1 ((zA K).below hb) (fun x hx=>(zA HN).sz x ((zA HU) i hi x hx)) (by have:=(zA ha) i hi; omega) (by have:=hb.size; omega) (Q.below hb) (fun g e=>⟨by have:=q g e; omega,fun e2=>by have:=q g e; have:=((zA K).row.lt g e2).1; omega,fun e2=>by have:=q g e; have:=((zA K).plt g e2).1; omega⟩))
   obtain ⟨a5,c5,Y,_⟩:=Q
   obtain ⟨a6,c6,t,_⟩:=hd
   rw [Y] at D X
   rw [t] at D
   have T:=zB (yH (fun g e=>((zA K).row.lt g e).1) (fun g e=>((zA K).plt g e).1))
   clear R hp A l E O q Y t
   go_wp2_with (first | (go_at_call 37; (with_reducible refine (zA D).mono ?_); rintro e w2 ⟨rfl,hb2⟩; have L:=zB hb2; have o:=zB ((zA X) w2 hb2); clear hb2 D X))
   rw [zLr]
   go_wp2_with (first | (go_at_call 65; (with_reducible refine (zA o).mono ?_); rintro e w3 ⟨rfl,kv3,pv3,hs3,he3,hk3,hp3⟩; have W:=zB hs3; have hh:Below w.heap.size w w3:=((H.trans ((zA L).mono (by omega))).trans (he3.below (B:=w.heap.size) (by have:=(zA L).size; omega) (yh _) (zA T).1 (zA T).2)); clear hs3 he3 hk3 hp3 o))
   exact ⟨⟨j+1,_,_,_,by go_num,by have:=(zA J).nd; exact zLs rs _ (by omega),W,J,hh⟩,by simp [intOf]; omega⟩
  ·have S:=zB ((zA V).fin (zA HN) (by omega) hk)
   have M:¬ (j:Int)<(rs.length:Int):=by omega
   have m:=zB (zHb w.heap.size 0 w.heap.size _ pv' rs (atM ms k).n wr (zA K) ((zA HN).sz _ (yy ((zA HN).at' k hk))))
   obtain ⟨bA,d,rfl,f,z⟩:∃ b d,am=some ⟨b,d,none⟩/\zJ9 w b d ms/\b<w.heap.size:=by
    rcases zA HM with h | h
    ·omega
    ·exact h
   obtain ⟨m0,m1⟩:=f k hk
   have e0:=(H.cell (p:=⟨bA,d+k*2,none⟩) z).trans m0
   have f0:=(H.cell (p:=⟨P,0,none⟩) hg).trans d0
   clear m0 m1 f
   go_wp2_with (first | (go_at_call 64; (with_reducible refine (zA m).mono ?_); rintro e w2 ⟨⟨v,rfl,hv⟩,hx⟩; obtain rfl:=hx.symm; have HV:=zB hv; clear hv hx))
   go_ret
   refine ⟨⟨!v,rfl,?_⟩,H⟩
   have hv:=zA HV
   have hf:=zA S
   unfold zDx at hv ⊢
   cases v <;> simp_all
theorem zHf {nm:ByteArray->Nat} {T T':Nat->List OpR}:∀ (us:List JZ) (H:List OpR),(∀ u∈us,T (nm u)=T' (nm u))->zCF nm T H us=zCF nm T' H us
 | [],_,_=>rfl
 | u::r,H,h=>by
  simp only [zCF]
  rw [h u (by simp),zHf r _ (fun x hx=>h x (by simp [hx]))]
theorem zKu {nm:ByteArray->Nat} {T:Nat->List OpR} {x:OpR}:∀ (us:List JZ) (H:List OpR),x∈zCF nm T H us->x∈H\/∃ u∈us,x∈T (nm u)
 | [],_,h=>yQ h
 | u::r,H,h=>by
  simp only [zCF] at h
  split at h
  ·exact yQ h
  ·rcases zKu r _ h with h | ⟨u',h1,h2⟩
   ·rcases (ZZ _ _).1 h with h | h
    ·exact yQ h
    ·exact yR ⟨u,by simp,h⟩
   ·exact yR ⟨u',by simp [h1],h2⟩
def BrE (n:Nat) (nm:ByteArray->Nat) (U:List UnR) (T:Nat->List OpR):Prop:=∀ i,i<n->T i=zCF nm T (zV [] (atU U i).os) (atU U i).us
def RkE (n:Nat) (nm:ByteArray->Nat) (U:List UnR) (rk:Nat->Nat):Prop:=(∀ i,i<n->∀ u∈(atU U i).us,nm u<n/\rk (nm u)<rk i)/\∀ i,i<n->rk i<n
def brN (nm:ByteArray->Nat) (U:List UnR):Nat->Nat->List OpR
 | 0,_=>[]
 | r+1,i=>zCF nm (brN nm U r) (zV [] (atU U i).os) (atU U i).us
theorem zKv {n:Nat} {nm:ByteArray->Nat} {U:List UnR} {rk:Nat->Nat} (h:RkE n nm U rk):∀ r i,i<n->rk i<r->brN nm U r i=brN nm U (r+1) i
 | 0,i,_,hr=>by omega
 | r+1,i,hi,hr=>by
  show zCF nm (brN nm U r) _ _=zCF nm (brN nm U (r+1)) _ _
  refine zHf _ _ (fun u hu=>?_)
  obtain ⟨h1,h2⟩:=h.1 i hi u hu
  exact zKv h r (nm u) h1 (by omega)
theorem zR8 (h:RkE n nm U rk):∃ T,BrE n nm U T:=
 ⟨brN nm U n,fun i hi=>zKv h n i hi (h.2 i hi)⟩
theorem BrE.nd (h:BrE n nm U T) (hi:i<n):(T i).Nodup:=by
 rw [h i hi]
 exact zMM _ _ _ _ (zAK _ _ (by simp))
theorem BrE.sub {n:Nat} {nm:ByteArray->Nat} {U:List UnR} {T:Nat->List OpR} {rk:Nat->Nat} (h:BrE n nm U T) (hr:RkE n nm U rk) (hU:n<=U.length):∀ r i,i<n->rk i<r->∀ o∈T i,o∈ZS U
 | 0,i,_,hr'=>by omega
 | r+1,i,hi,hr'=>fun o ho=>by
  rw [h i hi] at ho
  rcases zKu _ _ ho with ho | ⟨u,hu,ho⟩
  ·rcases (ZZ _ _).1 ho with ho | ho
   ·cases ho
   ·exact List.mem_flatMap.2 ⟨_,zEq (by omega),ho⟩
  ·obtain ⟨h1,h2⟩:=hr.1 i hi u hu
   exact BrE.sub h hr hU r (nm u) h1 (by omega) o ho
theorem BrE.near {n:Nat} {nm:ByteArray->Nat} {U U':List UnR} {S T:Nat->List OpR} {rk:Nat->Nat} (h:BrE n nm U' T) (hr:RkE n nm U' rk) (hS:∀ i,i<n->S i=Za nm S (zV [] (atU U i).os) (atU U i).us) (hU:∀ i,i<n->(atU U' i).os=(atU U i).os/\(atU U' i).us=dst (atU U i).us):∀ r i,i<n->rk i<r->zN7 (S i) (T i)
 | 0,i,_,hr'=>by omega
 | r+1,i,hi,hr'=>by
  have e1:S i=Za nm S (zV [] (atU U' i).os) (atU U' i).us:=by
   rw [(hU i hi).1,(hU i hi).2,zLH]
   exact hS i hi
  rw [e1,h i hi]
  refine zIO _ _ _ (fun u hu=>?_) ⟨fun _=>rfl,fun x=>x⟩
  obtain ⟨h1,h2⟩:=hr.1 i hi u hu
  refine ⟨BrE.near h hr hS hU r (nm u) h1 (by omega),?_,h.nd h1⟩
  rw [hS _ h1]
  exact zDU _ _ _ _ (zAK _ _ (by simp))
structure ScM (w:JY) (C bs:Nat) (ms:List zF) (T:Nat->List OpR) (G:ByteArray->Option Value):Prop where
 mp:∃ (m:Nat) (M:List Nat),zAI w bs m G/\m<=M.length/\M.Nodup/\∀ j∈M,j<ms.length/\(G (atM ms j).n).isSome=true
 at':∀ j,j<ms.length->∀ x,G (atM ms j).n=some x->∃ v,x = .agg #[v]/\Zw w C v (T j)/\∀ g,v.ownBlock=some g->C<=g/\g<w.heap.size
 apt:∀ i j,i<ms.length->j<ms.length->i≠j->∀ v v',G (atM ms i).n=some (.agg #[v])->G (atM ms j).n=some (.agg #[v'])->∀ g,v.ownBlock=some g->v'.ownBlock≠some g
theorem zAI.same (h:zAI w b n G) (hs:w'.heap[b]?=w.heap[b]?):zAI w' b n G:=by
 obtain ⟨D,⟨es,clock,hb,F,h1,h2⟩,h⟩:=h
 exact ⟨D,⟨es,clock,hs.trans hb,F,h1,h2⟩,h⟩
def Dj (ms:List zF) (G:ByteArray->Option Value) (b:Nat) (kv:Value) (pv:Option Nat):Prop:=∀ j,j<ms.length->∀ v,G (atM ms j).n=some (.agg #[v])->Apt v b kv pv
theorem ScM.eff {o:Nat} (h:ScM w C bs ms T G) (hd:Dj ms G b kv pv) (he:Eff w w' b o kv pv) (H:bs<w.heap.size) (h1:bs≠b) (h2:kv.ownBlock≠some bs) (h3:pv≠some bs):ScM w' C bs ms T G:=by
 refine ⟨?_,fun j hj x hx=>?_,h.apt⟩
 ·obtain ⟨m,M,hm,hM⟩:=h.mp
  exact ⟨m,M,hm.same (he.blk bs H h1 h2 h3),hM⟩
 ·obtain ⟨v,rfl,hv,hb⟩:=h.at' j hj x hx
  have ha:=hd j hj v hx
  have hz:=he.size
  exact ⟨v,rfl,zAu hv (fun g e=>he.blk g (hb g e).2 (ha g e).1 (ha g e).2.1 (ha g e).2.2),fun g e=>⟨(hb g e).1,by have:=(hb g e).2; omega⟩⟩
theorem ScM.below {w w':JY} {C bs:Nat} {ms:List zF} {T:Nat->List OpR} {G:ByteArray->Option Value} (h:ScM w C bs ms T G) (hb:Below w.heap.size w w'):ScM w' C bs ms T G:=by
 refine ⟨?_,fun j hj x hx=>?_,h.apt⟩
 ·obtain ⟨m,M,hm,hM⟩:=h.mp
  exact ⟨m,M,hm.same (hb.block bs hm.lt),hM⟩
 ·obtain ⟨v,rfl,hv,hg⟩:=h.at' j hj x hx
  exact ⟨v,rfl,hv.below hb,fun g e=>⟨(hg g e).1,by have:=(hg g e).2; have:=hb.size; omega⟩⟩
theorem ScM.lt {w:JY} {C bs:Nat} {ms:List zF} {T:Nat->List OpR} {G:ByteArray->Option Value} (h:ScM w C bs ms T G):bs<w.heap.size:=by
 obtain ⟨m,M,hm,_⟩:=h.mp
 exact hm.lt
theorem ScM.cnt (h:ScM w C bs ms T G):∃ m,zAI w bs m G/\m<=ms.length:=by
 obtain ⟨m,M,hm,h1,h2,h3⟩:=h.mp
 have:=zAv M (List.range ms.length) h2 (fun j hj=>List.mem_range.2 (h3 j hj).1)
 rw [List.length_range] at this
 exact ⟨m,hm,by omega⟩
theorem ScM.put {w3:JY} (hN:zBR ms ks) (h:ScM w C bs ms T G) (hi:i<ms.length) (hg:G (atM ms i).n=none) (hC:bs<C) (hv:Zw w C v (T i)) (hd:∀ j,j<ms.length->∀ v',G (atM ms j).n=some (.agg #[v'])->∀ g,v.ownBlock=some g->v'.ownBlock≠some g) (q:∀ g,v.ownBlock=some g->C<=g/\g<w.heap.size) (hk:zG w w3 bs)
  (hm:∀ m,zAI w bs m G->m<=ms.length->zAI w3 bs (m+1) (fun t'=>if t'.data=(atM ms i).n.data then some (.agg #[v]) else G t')) :
  ScM w3 C bs ms T (fun t'=>if t'.data=(atM ms i).n.data then some (.agg #[v]) else G t'):=by
 have dat:∀ {a b:JZ},a.data=b.data->a=b:=fun {a b} e=>by cases a; cases b; simp at e; rw [e]
 have hz:=hk.size
 have same:∀ g,C<=g/\g<w.heap.size->w3.heap[g]?=w.heap[g]?:=fun g hg=>hk.block g hg.2 (by omega)
 refine ⟨?_,fun j hj x hx=>?_,fun a b ha hb Q x y hx hy g e=>?_⟩
 ·obtain ⟨m,M,J,h1,h2,h3⟩:=h.mp
  have Y:=zAv M (List.range ms.length) h2 (fun j hj=>List.mem_range.2 (h3 j hj).1)
  rw [List.length_range] at Y
  refine ⟨m+1,i::M,hm m J (by omega),by simp; omega,?_,fun j hj=>?_⟩
  ·rw [List.nodup_cons]
   exact ⟨fun X=>(by have:=(h3 i X).2; rw [hg] at this; simp at this),h2⟩
  ·rcases List.mem_cons.1 hj with rfl | hj
   ·exact ⟨hi,by simp⟩
   ·refine ⟨(h3 j hj).1,?_⟩
    show (if _ then _ else _:Option Value).isSome=true
    split
    ·rfl
    ·exact (h3 j hj).2
 ·have H:(if (atM ms j).n.data=(atM ms i).n.data then some (.agg #[v]) else G (atM ms j).n)=some x:=hx
  by_cases e:(atM ms j).n.data=(atM ms i).n.data
  ·rw [yO e] at H
   have p:=hN.inj hj hi (dat e)
   subst p
   injection H with H
   exact ⟨v,H.symm,zAu hv (fun g e=>same g (q g e)),fun g e=>⟨(q g e).1,by have:=(q g e).2; omega⟩⟩
  ·rw [yN e] at H
   obtain ⟨v',rfl,P,K⟩:=h.at' j hj x H
   exact ⟨v',rfl,zAu P (fun g e=>same g (K g e)),fun g e=>⟨(K g e).1,by have:=(K g e).2; omega⟩⟩
 ·have H:(if (atM ms a).n.data=(atM ms i).n.data then some (.agg #[v]) else G (atM ms a).n)=some (.agg #[x]):=hx
  have k:(if (atM ms b).n.data=(atM ms i).n.data then some (.agg #[v]) else G (atM ms b).n)=some (.agg #[y]):=hy
  by_cases e1:(atM ms a).n.data=(atM ms i).n.data
  ·have i1:=hN.inj ha hi (dat e1)
   by_cases e2:(atM ms b).n.data=(atM ms i).n.data
   ·exact yP (i1.trans (hN.inj hb hi (dat e2)).symm) Q
   ·rw [yO e1] at H
    rw [yN e2] at k
    have ex:v=x:=by simpa using H
    subst ex
    exact hd b hb y k g e
  ·rw [yN e1] at H
   by_cases e2:(atM ms b).n.data=(atM ms i).n.data
   ·rw [yO e2] at k
    have ey:v=y:=by simpa using k
    subst ey
    exact fun e3=>hd a ha x H g e3 e
   ·rw [yN e2] at k
    exact h.apt a b ha hb Q x y H k g e
theorem zR9 (w:JY):(zeroValue 33).run Tryz.prog w = .ok (.agg #[.slice none 0 0]) w:=by kernel_rfl
theorem zNF (x:Value) (w:JY):(Instr.field 33 (.agg #[x]) 0).run Tryz.prog w = .ok x w:=by kernel_rfl
theorem zBm.same {w w':JY} {b o B:Nat} {kv:Value} {pv:Option Nat} {ks:List JZ} (h:zBm w b o B kv pv ks) (hs:∀ i,i=b\/kv.ownBlock=some i\/pv=some i->w'.heap[i]?=w.heap[i]?):zBm w' b o B kv pv ks:=by
 have hc:=fun q=>yp (w:=w) (w':=w') (a:=⟨b,q,none⟩) (hs b (yQ rfl))
 have hf:=fun q=>yA (w:=w) (w':=w') (a:=⟨b,q,none⟩) (hs b (yQ rfl))
 exact ⟨(hc o).trans h.c0,(hc _).trans h.c1,(hf o).trans h.f0,(hf _).trans h.f1,zAu h.row (fun g e=>hs g (yR (yQ e))),h.mp.imp id (fun ⟨bm,h1,h2,h3⟩=>⟨bm,h1,h2,h3.same (hs bm (yR (yR h1)))⟩),h.nk,h.np,h.nn⟩
theorem zBV.same {G:OpR->Option Value} (h:zBV w b n G) (hs:w'.heap[b]?=w.heap[b]?):zBV w' b n G:=by
 obtain ⟨D,⟨es,clock,hb,F,h1,h2⟩,h⟩:=h
 exact ⟨D,⟨es,clock,hs.trans hb,F,h1,h2⟩,h⟩
theorem zCW.same {w w':JY} {b o B:Nat} {kv:Value} {pv:Option Nat} {ks:List OpR} (h:zCW w b o B kv pv ks) (hs:∀ i,i=b\/kv.ownBlock=some i\/pv=some i->w'.heap[i]?=w.heap[i]?):zCW w' b o B kv pv ks:=by
 have hc:=fun q=>yp (w:=w) (w':=w') (a:=⟨b,q,none⟩) (hs b (yQ rfl))
 have hf:=fun q=>yA (w:=w) (w':=w') (a:=⟨b,q,none⟩) (hs b (yQ rfl))
 exact ⟨(hc o).trans h.c0,(hc _).trans h.c1,(hf o).trans h.f0,(hf _).trans h.f1,zAu h.row (fun g e=>hs g (yR (yQ e))),h.mp.imp id (fun ⟨bm,h1,h2,h3⟩=>⟨bm,h1,h2,h3.same (hs bm (yR (yR h1)))⟩),h.nk,h.np,h.nn⟩
def zLt (w:JY) (C bs:Nat) (ms:List zF) (T:Nat->List OpR) (rk:Nat->Nat) (G:ByteArray->Option Value) (i:Nat) (e:Ending) (w':JY):Prop:=
 ∃ v G',e = .returned (.agg #[v])/\G' (atM ms i).n=some (.agg #[v])/\ScM w' C bs ms T G'/\w.grownBy w' (some bs)/\(∀ j,j<ms.length->∀ x,G (atM ms j).n=some x->G' (atM ms j).n=some x)/\(∀ j,j<ms.length->rk i<rk j->G' (atM ms j).n=G (atM ms j).n)/\∀ j,j<ms.length->∀ x,G' (atM ms j).n=some (.agg #[x])->G (atM ms j).n=some (.agg #[x])\/∀ g,x.ownBlock=some g->w.heap.size<=g
structure ScH (w:JY) (B C P bs:Nat) (am:Option Addr) (cm:Nat) (ms:List zF) (v1:Value) (vs:List UvR) (U:List UnR) (kv:Value) (pv:Option Nat) (ks:List JZ):Prop where
 pg:PgC w B C P am cm ms.length v1 vs U
 nm:zBm w P 2 C kv pv ks
 c4:w.cell? ⟨P,4,none⟩=some (.map (some bs))
 hC:C<=w.heap.size
 hP:P<B
 hbs:bs<B
 hBC:B<=C
 hne:bs≠P
theorem ScH.keep {w w':JY} {B C P bs:Nat} {am:Option Addr} {cm:Nat} {ms:List zF} {v1:Value} {vs:List UvR} {U:List UnR} {kv:Value} {pv:Option Nat} {ks:List JZ} (h:ScH w B C P bs am cm ms v1 vs U kv pv ks) (hg:w.grownBy w' (some bs)):ScH w' B C P bs am cm ms v1 vs U kv pv ks:=by
 have hC:=h.hC
 have k:=h.hbs
 have K:=h.hBC
 have H:=h.pg.lt
 have hz:=hg.size
 have sm:∀ i,i<w.heap.size->i≠bs->w'.heap[i]?=w.heap[i]?:=fun i h1 h2=>hg.block i h1 (fun e=>h2 (by injection e))
 have kc:=fun q=>yp (w:=w) (w':=w') (a:=⟨P,q,none⟩) (sm P H (Ne.symm h.hne))
 exact ⟨h.pg.keep hz (fun i h1 h2=>sm i (by omega) (by omega)) (kc 0) (kc 1),h.nm.same (fun i hi=>by
  rcases hi with rfl | hi | hi
  ·exact sm _ H (Ne.symm h.hne)
  ·have:=h.nm.row.lt i hi; exact sm i this.2 (by omega)
  ·have:=h.nm.plt i hi; exact sm i this.2 (by omega)),(kc 4).trans h.c4,by omega,h.hP,h.hbs,h.hBC,h.hne⟩
structure ScI (w wr:JY) (R C bs:Nat) (ms:List zF) (T:Nat->List OpR) (rk:Nat->Nat) (G:ByteArray->Option Value) (i:Nat) (U:List UnR) (acc:List OpR) (kv:Value) (pv:Option Nat) (G':ByteArray->Option Value):Prop where
 qs:zCW wr R 0 R kv pv acc
 sc:ScM wr C bs ms T G'
 gr:w.grownBy wr (some bs)
 dj:Dj ms G' R kv pv
 hi:∀ j,j<ms.length->rk i<=rk j->G' (atM ms j).n=G (atM ms j).n
 ol:∀ j,j<ms.length->∀ x,G' (atM ms j).n=some (.agg #[x])->G (atM ms j).n=some (.agg #[x])\/∀ g,x.ownBlock=some g->w.heap.size<g
 ps:∀ j,j<ms.length->∀ x,G (atM ms j).n=some x->G' (atM ms j).n=some x
 rb:wr.cell? ⟨w.heap.size,0,none⟩=some (.slice none 0 0)/\wr.frozen? ⟨w.heap.size,0,none⟩=false
 su:∀ o∈acc,o∈ZS U
 nd:acc.Nodup
 hR:w.heap.size<R
 hb:bs<w.heap.size
theorem ScI.dj' {w6:JY} {G'':ByteArray->Option Value} (h:ScI w wr R C bs ms T rk G i U acc kv pv G')
  (h6:∀ j,j<ms.length->∀ x,G'' (atM ms j).n=some (.agg #[x])->G' (atM ms j).n=some (.agg #[x])\/∀ g,x.ownBlock=some g->wr.heap.size<=g):Dj ms G'' R kv pv:=fun j hj v hv g e=>by
 rcases h6 j hj v hv with h1 | h1
 ·exact h.dj j hj v h1 g e
 ·have hg:=h1 g e
  refine ⟨?_,fun e2=>?_,fun e2=>?_⟩
  ·have:=h.qs.lt; omega
  ·have:=(h.qs.row.lt g e2).2; omega
  ·have:=(h.qs.plt g e2).2; omega
theorem ScI.q6 {w6:JY} (h:ScI w wr R C bs ms T rk G i U acc kv pv G') (hg:wr.grownBy w6 (some bs)):zCW w6 R 0 R kv pv acc:=by
 have hR:=h.hR
 have hb:=h.hb
 refine h.qs.same (fun q hq=>?_)
 rcases hq with rfl | hq | hq
 ·exact hg.block _ h.qs.lt (fun e=>by injection e with e; omega)
 ·have:=h.qs.row.lt q hq; exact hg.block q this.2 (fun e=>by injection e with e; omega)
 ·have:=h.qs.plt q hq; exact hg.block q this.2 (fun e=>by injection e with e; omega)
theorem ScI.step {w wr w6 w7:JY} {R C bs:Nat} {ms:List zF} {T:Nat->List OpR} {rk:Nat->Nat} {G:ByteArray->Option Value} {i j:Nat} {U:List UnR} {H:List OpR} {kv:Value} {pv:Option Nat} {G' G'':ByteArray->Option Value} (h:ScI w wr R C bs ms T rk G i U H kv pv G') (hj:rk j<rk i)
  (h3:ScM w6 C bs ms T G'') (hg:wr.grownBy w6 (some bs)) (h5:∀ q,q<ms.length->rk j<rk q->G'' (atM ms q).n=G' (atM ms q).n) (h6:∀ q,q<ms.length->∀ x,G'' (atM ms q).n=some (.agg #[x])->G' (atM ms q).n=some (.agg #[x])\/∀ g,x.ownBlock=some g->wr.heap.size<=g)
  (X:∀ q,q<ms.length->∀ x,G' (atM ms q).n=some x->G'' (atM ms q).n=some x) (hT:∀ o∈T j,o∈ZS U) (hp:zx w6 R 0 R kv pv (zV H (T j)) w7):∃ kv7 pv7,ScI w w7 R C bs ms T rk G i U (zV H (T j)) kv7 pv7 G'':=by
 obtain ⟨kv7,pv7,q7,e7,k7,p7⟩:=hp
 have hR:=h.hR
 have hb:=h.hb
 have y:=h.qs.lt
 have J:=hg.size
 have Y:=h.gr.size
 have hd:=h.dj' (w6:=w6) h6
 have nkb:∀ q,q<R->kv.ownBlock≠some q:=fun q hq e=>by have:=(h.qs.row.lt q e).1; omega
 have npb:∀ q,q<R->pv≠some q:=fun q hq e=>by have:=(h.qs.plt q e).1; omega
 refine ⟨kv7,pv7,q7,h3.eff hd e7 (by omega) (by omega) (nkb bs (by omega)) (npb bs (by omega)),?_,?_,?_,?_,fun q hq x hx=>X q hq x (h.ps q hq x hx),?_,?_,zAK _ _ h.nd,hR,hb⟩
 ·exact ⟨e7.os.trans (hg.os.trans h.gr.os),e7.tape.trans (hg.tape.trans h.gr.tape),e7.output.trans (hg.output.trans h.gr.output),by have:=e7.size; omega,fun q hq k=>(e7.blk q (by omega) (by omega) (nkb q (by omega)) (npb q (by omega))).trans ((hg.block q (by omega) k).trans (h.gr.block q hq k))⟩
 ·intro q hq v hv
  obtain ⟨v',e1,_,Q⟩:=h3.at' q hq _ hv
  have e2:v=v':=by simpa using e1
  subst e2
  exact Apt.step (hd q hq v hv) (fun g e=>(Q g e).2) k7 p7
 ·exact fun q hq hr=>(h5 q hq (by omega)).trans (h.hi q hq hr)
 ·intro q hq x hx
  rcases h6 q hq x hx with h1 | h1
  ·exact h.ol q hq x h1
  ·exact yR (fun g e=>by have:=h1 g e; omega)
 ·have K:w7.heap[w.heap.size]?=wr.heap[w.heap.size]?:=(e7.blk w.heap.size (by omega) (by omega) (nkb _ hR) (npb _ hR)).trans (hg.block _ (by omega) (fun e=>by injection e with e; omega))
  exact ⟨(yp (w:=wr) (w':=w7) (a:=⟨w.heap.size,0,none⟩) K).trans h.rb.1,(yA (w:=wr) (w':=w7) (a:=⟨w.heap.size,0,none⟩) K).trans h.rb.2⟩
 ·intro o ho
  rcases (ZZ _ _).1 ho with ho | ho
  ·exact h.su o ho
  ·exact hT o ho
theorem ScI.len (h:ScI w wr R C bs ms T rk G i U acc kv pv G') (hA:(ZS U).length<=400000):acc.length<=400000:=
 yr (zAv acc _ h.nd h.su) hA
theorem ScM.set {X:Nat} (h:ScM w C bs ms T G) (hX:bs≠X) (hd:∀ j,j<ms.length->∀ v,G (atM ms j).n=some (.agg #[v])->v.ownBlock≠some X) (V:Value):ScM (w.setCell ⟨X,0,none⟩ V) C bs ms T G:=by
 have hz:(w.setCell ⟨X,0,none⟩ V).heap.size=w.heap.size:=by simp [World.setCell]
 have sm:∀ g,g≠X->(w.setCell ⟨X,0,none⟩ V).heap[g]?=w.heap[g]?:=fun g hg=>yZ _ _ _ _ (by simpa using hg)
 refine ⟨?_,fun j hj x hx=>?_,h.apt⟩
 ·obtain ⟨m,M,hm,hM⟩:=h.mp
  exact ⟨m,M,hm.same (sm bs hX),hM⟩
 ·obtain ⟨v,rfl,hv,hb⟩:=h.at' j hj x hx
  exact ⟨v,rfl,zAu hv (fun g e=>sm g (fun e2=>hd j hj v hx (by rw [e,e2]))),fun g e=>⟨(hb g e).1,by rw [hz]; exact (hb g e).2⟩⟩
theorem ScI.fin (hN:zBR ms ks) (h:ScI w wr R C bs ms T rk G i U (T i) kv pv G') (hi:i<ms.length) (hn:ms.length<=100) (hg:G (atM ms i).n=none) (hG:ScM w C bs ms T G) (E:bs<C) (hC:C<=w.heap.size) :
  ∃ w9,(Instr.mapUpdate 79 (.map (some bs)) (.string (atM ms i).n) (.agg #[kv])).run Tryz.prog (wr.alloc (.cells #[kv] 33)).drew = .ok () w9/\w9.cell? ⟨w.heap.size,0,none⟩=some (.slice none 0 0)/\w9.frozen? ⟨w.heap.size,0,none⟩=false/\w9.cell? ⟨wr.heap.size,0,none⟩=some kv/\w.heap.size<wr.heap.size /\
   zLt w C bs ms T rk G i (.returned (.agg #[kv])) (w9.setCell ⟨w.heap.size,0,none⟩ kv):=by
 have hR:=h.hR
 have hb:=h.hb
 have F:=h.qs.lt
 have I:=h.gr.size
 have V:w.heap.size<wr.heap.size:=by omega
 have u:(atM ms i).n.size<=maxLen:=hN.sz _ (yy (hN.at' i hi))
 obtain ⟨W8,Y⟩:∃ W8,W8=(wr.alloc (.cells #[kv] 33)).drew:=⟨_,rfl⟩
 have H:Below wr.heap.size wr W8:=by rw [Y]; exact (zC _ _).drew
 have l:W8.heap.size=wr.heap.size+1:=by rw [Y]; simp
 have k8:W8.cell? ⟨wr.heap.size,0,none⟩=some kv:=by rw [Y]; show (wr.alloc (.cells #[kv] 33)).cell? ⟨wr.heap.size,0,none⟩=some kv; simp [go_sem]
 rw [<- Y]
 have A:=h.sc.below H
 obtain ⟨m,hm,L⟩:=A.cnt
 obtain ⟨w9,J,_,k⟩:=hm.update (ty:=79) Tryz.underlying79 (by unfold maxLen; omega) (t:=(atM ms i).n) u (.agg #[kv])
 have M:=k.size
 have D:G' (atM ms i).n=none:=(h.hi i hi (yh _)).trans hg
 have P:∀ g,kv.ownBlock=some g->R<=g/\g<wr.heap.size:=h.qs.row.lt
 have B:=ScM.put (v:=kv) hN A hi D E ((h.qs.row.base (by omega)).below H) (fun j hj v' K g e e2=>(h.dj j hj v' K g e2).2.1 e) (fun g e=>by have:=P g e; omega) k (fun m' d f=>by
  obtain ⟨w9',Q,h1,_⟩:=d.update (ty:=79) Tryz.underlying79 (by unfold maxLen; omega) (t:=(atM ms i).n) u (.agg #[kv])
  rw [J] at Q
  injection Q with _ e
  rw [e]; exact h1)
 have c9:=fun (b:Nat) (hb:b<W8.heap.size) (y:b≠bs) (q:Nat)=>k.cell hb y q
 have c8:=fun q=>H.cell (p:=⟨w.heap.size,q,none⟩) V
 have dat:∀ {a b:JZ},a.data=b.data->a=b:=fun {a b} e=>by cases a; cases b; simp at e; rw [e]
 refine ⟨w9,J,(c9 _ (by omega) (by omega) 0).trans ((c8 0).trans h.rb.1),(k.frozen (by omega) (by omega) 0).trans ((H.frozen (p:=⟨w.heap.size,0,none⟩) V).trans h.rb.2),(c9 _ (by omega) (by omega) 0).trans k8,V,?_⟩
 refine ⟨kv,_,rfl,?_,B.set (by omega) ?_ kv,?_,?_,?_,?_⟩
 ·exact yO rfl
 ·intro j hj v hv e
  have K:(if (atM ms j).n.data=(atM ms i).n.data then some (.agg #[kv]) else G' (atM ms j).n)=some (.agg #[v]):=hv
  by_cases e1:(atM ms j).n.data=(atM ms i).n.data
  ·rw [yO e1] at K
   have e2:kv=v:=by simpa using K
   rw [<- e2] at e
   have:=(P _ e).1
   omega
  ·rw [yN e1] at K
   rcases h.ol j hj v K with h1 | h1
   ·obtain ⟨v',e3,_,c⟩:=hG.at' j hj _ h1
    have e4:v=v':=by simpa using e3
    subst e4
    have:=(c _ e).2
    omega
   ·have:=h1 _ e; omega
 ·refine ⟨k.os.trans (H.os.trans h.gr.os),k.tape.trans (H.tape.trans h.gr.tape),k.output.trans (H.output.trans h.gr.output),by simp [World.setCell]; omega,fun q hq y=>?_⟩
  rw [yZ _ _ _ _ (by simp; omega)]
  exact (k.block q (by omega) (fun e=>y (by rw [e]))).trans ((H.block q (by omega)).trans (h.gr.block q hq y))
 ·intro j hj x hx
  show (if (atM ms j).n.data=(atM ms i).n.data then some (.agg #[kv]) else G' (atM ms j).n)=_
  rw [yN (fun e=>by have:=hN.inj hj hi (dat e); subst this; rw [hg] at hx; cases hx)]
  exact h.ps j hj x hx
 ·intro j hj hr
  show (if (atM ms j).n.data=(atM ms i).n.data then some (.agg #[kv]) else G' (atM ms j).n)=_
  rw [yN (fun e=>by have:=hN.inj hj hi (dat e); subst this; omega)]
  exact h.hi j hj (by omega)
 ·intro j hj x hx
  have X:(if (atM ms j).n.data=(atM ms i).n.data then some (.agg #[kv]) else G' (atM ms j).n)=some (.agg #[x]):=hx
  by_cases e1:(atM ms j).n.data=(atM ms i).n.data
  ·rw [yO e1] at X
   have e2:kv=x:=by simpa using X
   subst e2
   exact yR (fun g e=>by have:=(P g e).1; omega)
  ·rw [yN e1] at X
   rcases h.ol j hj x X with h1 | h1
   ·exact yQ h1
   ·exact yR (fun g e=>by have:=h1 g e; omega)
theorem ScI.start {W3 w5:JY} {os:List OpR} {t:TypeId} (hG:ScM w C bs ms T G) (hb:Below w.heap.size w W3) (hz:w.heap.size<W3.heap.size) (k:W3.cell? ⟨w.heap.size,0,none⟩=some (.slice none 0 0)/\W3.frozen? ⟨w.heap.size,0,none⟩=false) (hu:∀ o∈os,o∈ZS U)
  (hp:zx (W3.alloc (.cells #[.slice none 0 0,.map none] t)) W3.heap.size 0 W3.heap.size (.slice none 0 0) none (zV [] os) w5):∃ kv pv,ScI w w5 W3.heap.size C bs ms T rk G i U (zV [] os) kv pv G/\Below w.heap.size w w5:=by
 obtain ⟨kv7,pv7,q7,e7,k7,p7⟩:=hp
 have q:=hG.lt
 have h:Below W3.heap.size W3 w5:=(zC _ _).trans (e7.below (B:=W3.heap.size) (by simp) (yh _) (fun g e=>by simp [Value.ownBlock] at e) (fun g e=>by simp at e))
 have H:Below w.heap.size w w5:=hb.trans (h.mono (by omega))
 refine ⟨kv7,pv7,⟨q7,hG.below H,zH H _,?_,fun _ _ _=>rfl,fun _ _ x hx=>yQ hx,fun _ _ x hx=>hx,⟨(h.cell (p:=⟨w.heap.size,0,none⟩) hz).trans k.1,(h.frozen (p:=⟨w.heap.size,0,none⟩) hz).trans k.2⟩,?_,zAK _ _ (by simp),hz,q⟩,H⟩
 ·intro j hj v hv g e
  obtain ⟨v',e1,_,K⟩:=hG.at' j hj _ hv
  have e2:v=v':=by simpa using e1
  subst e2
  have:=(K g e).2
  exact ⟨by omega,fun e2=>by have:=(q7.row.lt g e2).1; omega,fun e2=>by have:=(q7.plt g e2).1; omega⟩
 ·intro o ho
  rcases (ZZ _ _).1 ho with ho | ho
  ·cases ho
  ·exact hu o ho
end Go.Proofs.YtgbkgkdpdfdokaaGreatDoor
