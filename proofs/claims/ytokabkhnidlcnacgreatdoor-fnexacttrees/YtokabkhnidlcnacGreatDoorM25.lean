import Derived.Test.YtokabkhnidlcnacGreatDoorM24
namespace Go.Proofs.YtokabkhnidlcnacGreatDoor
set_option linter.unusedSimpArgs false
set_option linter.unusedVariables false
set_option maxHeartbeats 16000000
set_option maxRecDepth 100000
open Go.RowKit Go.Maps
def zNc (w:World) (p:Nat) (ns:List OpR) (G:ByteArray -> Option Value):Prop:=
 G opn = some (.func (.func 152) #[.pointer (some ⟨p,0,none⟩)] #[]) /\
 ∀ t,t ≠ opn -> (zZ ns t 1 = false -> G t = none) /\ (zZ ns t 1 = true -> ∃ ba bp bh,G t = some (.func (.func 191) #[] #[.pointer (some ⟨ba,0,none⟩),.pointer (some ⟨bp,0,none⟩),.pointer (some ⟨bh,0,none⟩)]) /\
  ba ≠ p /\ bp ≠ p /\ bh ≠ p /\ OpC w ba (opA ns (rt 3 t)) /\ w.cell? ⟨bp,0,none⟩ = some (.pointer (some ⟨p,0,none⟩)) /\ w.cell? ⟨bh,0,none⟩ = some (.int .i64 (sH ns (3,t) false)))
def zNd (w:World) (p:Nat) (ns:List OpR) (G:ByteArray -> Option Value):Prop:=
 ∀ t,(¬ opT ns t -> G t = none) /\
 (zZ ns t 2 = true -> ∃ ba bp bh bs,G t = some (.func (.func 192) #[] #[.pointer (some ⟨ba,0,none⟩),.pointer (some ⟨bp,0,none⟩),.pointer (some ⟨bh,0,none⟩),.pointer (some ⟨bs,0,none⟩)]) /\
  ba ≠ p /\ bp ≠ p /\ bh ≠ p /\ bs ≠ p /\ OpC w ba (opA ns (rt 4 t)) /\ w.cell? ⟨bp,0,none⟩ = some (.pointer (some ⟨p,0,none⟩)) /\ w.cell? ⟨bh,0,none⟩ = some (.int .i64 (sH ns (4,t) false)) /\ w.cell? ⟨bs,0,none⟩ = some (.int .i64 (sH ns (4,t) true))) /\
 (zZ ns t 3 = true -> ∃ ba bp bh,G t = some (.func (.func 194) #[] #[.pointer (some ⟨ba,0,none⟩),.pointer (some ⟨bp,0,none⟩),.pointer (some ⟨bh,0,none⟩)]) /\
  ba ≠ p /\ bp ≠ p /\ bh ≠ p /\ OpC w ba (opA ns (rt 5 t)) /\ w.cell? ⟨bp,0,none⟩ = some (.pointer (some ⟨p,0,none⟩)) /\ w.cell? ⟨bh,0,none⟩ = some (.int .i64 (sH ns (5,t) false)))
theorem zNc.kept {w w':World} {p:Nat} {ns:List OpR} {G:ByteArray -> Option Value} (h:zNc w p ns G) (hk:zI w w' p):zNc w' p ns G:=by
 refine ⟨h.1,fun t ht=>⟨(h.2 t ht).1,fun hb=>?_⟩⟩
 obtain ⟨ba,bp,bh,h0,n1,n2,n3,h1,h2,h3⟩:=(h.2 t ht).2 hb
 exact ⟨ba,bp,bh,h0,n1,n2,n3,h1.kept hk n1,(hk.cell (block_lt_of_cell h2) n2 0).trans h2,(hk.cell (block_lt_of_cell h3) n3 0).trans h3⟩
theorem zNd.kept {w w':World} {p:Nat} {ns:List OpR} {G:ByteArray -> Option Value} (h:zNd w p ns G) (hk:zI w w' p):zNd w' p ns G:=by
 refine fun t=>⟨(h t).1,fun hb=>?_,fun hb=>?_⟩
 ·obtain ⟨ba,bp,bh,bs,h0,n1,n2,n3,n4,h1,h2,h3,h4⟩:=(h t).2.1 hb
  exact ⟨ba,bp,bh,bs,h0,n1,n2,n3,n4,h1.kept hk n1,(hk.cell (block_lt_of_cell h2) n2 0).trans h2,(hk.cell (block_lt_of_cell h3) n3 0).trans h3,(hk.cell (block_lt_of_cell h4) n4 0).trans h4⟩
 ·obtain ⟨ba,bp,bh,h0,n1,n2,n3,h1,h2,h3⟩:=(h t).2.2 hb
  exact ⟨ba,bp,bh,h0,n1,n2,n3,h1.kept hk n1,(hk.cell (block_lt_of_cell h2) n2 0).trans h2,(hk.cell (block_lt_of_cell h3) n3 0).trans h3⟩
theorem zI.grown {w w':World} {p:Nat} (h:zI w w' p):w.grownBy w' (some p):=⟨h.os,h.tape,h.output,h.size,fun i hi hne=>h.block i hi (fun e=>hne (by rw [e]))⟩
def PC (w:World) (p g o bf bb:Nat) (ns:List OpR) (ts:List zK):Prop:=
 g ≠ p /\ bf ≠ p /\ bb ≠ p /\ zB2 w g o ts /\ (∃ m G,ZQ w bf m G /\ zNc w p ns G) /\ (∃ m G,ZQ w bb m G /\ zNd w p ns G)
theorem PC.kept {w w':World} {p g o bf bb:Nat} {ns:List OpR} {ts:List zK} (h:PC w p g o bf bb ns ts) (hk:zI w w' p):PC w' p g o bf bb ns ts:=by
 obtain ⟨n1,n2,n3,ht,⟨m,G,hG,hB⟩,⟨m',G',hG',hB'⟩⟩:=h
 refine ⟨n1,n2,n3,fun i hi=>?_,⟨m,G,hG.kept hk.grown (fun e=>n2 (by injection e)),hB.kept hk⟩,⟨m',G',hG'.kept hk.grown (fun e=>n3 (by injection e)),hB'.kept hk⟩⟩
 obtain ⟨c0,c1,c2⟩:=ht i hi
 exact ⟨(hk.cell (block_lt_of_cell c0) n1 _).trans c0,(hk.cell (block_lt_of_cell c1) n1 _).trans c1,(hk.cell (block_lt_of_cell c2) n1 _).trans c2⟩
theorem zKZ {ns:List OpR} {ts:List zK} (p g o c bf bb i:Nat) (least:Int) (w:World) (hpc:PC w p g o bf bb ns ts) (hp:ZX w p g o ts.length c i bf bb) (hi:i < ts.length) (hn:ts.length <= 100000) (hz:(atT ts i).t.size <= maxLen)
  (hk:(atT ts i).k = 1 \/ (atT ts i).k = 2) (hno:¬ opT ns (atT ts i).t) (hne:(atT ts i).t ≠ opn) :
  Calls Tryz.prog 195 #[.pointer (some ⟨p,0,none⟩),.int .i64 least] w (zER ns w p g o ts.length c bf bb (some (.node (atT ts i).k.toNat 0 (atT ts i).t .nil .nil,sgs ns ts (i + 1) (ts.length - (i + 1))))):=by
 obtain ⟨n1,n2,n3,ht,⟨m,G,hG,hB⟩,_⟩:=hpc
 obtain ⟨t0,t1,t2⟩:=ht i hi
 have HG:=zB hG
 have HP:=zB hp
 obtain ⟨q0,q1,q2,q3,q4⟩:=hp
 have hpl:=block_lt_of_cell q0
 have hgl:=block_lt_of_cell t0
 simp only at hpl hgl
 have hpn:p ≠ w.heap.size:=by omega
 have hgn:g ≠ w.heap.size:=by omega
 have HNO:=zB (show G (atT ts i).t = none from (hB.2 _ hne).1 (by
  cases h:zZ ns (atT ts i).t 1 with
  | false=>rfl
  | true=>
   obtain ⟨j,hj,e1,_⟩:=(ZD _ _ _).1 h
   exact absurd ⟨j,hj,e1⟩ hno))
 clear hG hB
 go_enter Tryz.func195,Tryz.ntmps195
 go_wp2_with fail
 go_region
 go_wp2_with fail
 have HKW:=zB (show zI w (((w.setCell ⟨p,1,none⟩ (.int .i64 ((i:Int) + 1))).alloc (.cells #[.int .i64 (atT ts i).k,.string (atT ts i).g,.string (atT ts i).t] 112)).drew).drew p from (zI.setP _).trans (zI.of_below (((zC _ _).drew).drew)))
 have e1:((i + 1:Nat):Int) = (i:Int) + 1:=by omega
 have HPW:=(zA HP).set (i + 1)
 rw [e1] at HPW
 replace HPW:=zB (HPW.below (((zC _ (.cells #[.int .i64 (atT ts i).k,.string (atT ts i).g,.string (atT ts i).t] 112)).drew).drew))
 have hlk:=((zA HG).kept (zA HKW).grown (fun e=>n2 (by injection e))).look (ty:=211) (e:=216) (z:=.nilFunc) Tryz.underlying211 (by kernel_rfl) hz
 rw [zA HNO] at hlk
 simp only [Option.getD,Option.isSome] at hlk
 clear HG HP q0 q1 q2 q3 q4 ht t0 t1 t2
 obtain ⟨w0,w1,w2,w3,w4⟩:=zA HPW
 have HEND:=zB (show ts.length - (sgs ns ts (i + 1) (ts.length - (i + 1))).length = i + 1 by rw [Zt]; omega)
 rcases hk with hk1 | hk1
 ·have hb:((atT ts i).k == 1) = true:=by rw [hk1]; rfl
  have HN:=zB (show (atT ts i).k.toNat = 1 by rw [hk1]; rfl)
  clear hk1
  go_region
  go_wp2_with fail
  go_ret
  refine ⟨HKW,Or.inr ⟨_,_,rfl,?_,?_,?_⟩⟩
  ·rw [zA HN]; rfl
  ·rw [zA HN]; exact zB ⟨rfl,Or.inl ⟨Or.inl rfl,rfl,rfl⟩⟩
  ·rw [zA HEND]; exact HPW
 ·have hb:((atT ts i).k == 1) = false:=by rw [hk1]; rfl
  have HN:=zB (show (atT ts i).k.toNat = 2 by rw [hk1]; rfl)
  clear hk1
  go_region
  go_wp2_with fail
  go_ret
  refine ⟨HKW,Or.inr ⟨_,_,rfl,?_,?_,?_⟩⟩
  ·rw [zA HN]; rfl
  ·rw [zA HN]; exact zB ⟨rfl,Or.inl ⟨Or.inr rfl,rfl,rfl⟩⟩
  ·rw [zA HEND]; exact HPW
theorem zKa {ns:List OpR} {ts:List zK} (hv:zL ns 0) (p g o c bf bb i d:Nat) (least:Int) (w:World) (hpc:PC w p g o bf bb ns ts) (hp:ZX w p g o ts.length c i bf bb) (hi:i < ts.length) (hn:ts.length <= 100000) (hz:(atT ts i).t.size <= maxLen)
  (hop:(atT ts i).t = opn) (hf:Zg ns (false,d + 1) (sgs ns ts (i + 1) (ts.length - (i + 1)))) (hr:zHj ns w p g o ts.length c bf bb (i + 1) 0 (sgs ns ts (i + 1) (ts.length - (i + 1))))
  (res:Option (ET × List SyR)) (hres:res = (match RD ns 0 none (sgs ns ts (i + 1) (ts.length - (i + 1))) with
   | none=>none
   | some x=>some (.node 6 0 ByteArray.empty x.1 .nil,x.2.tail))) :
  Calls Tryz.prog 195 #[.pointer (some ⟨p,0,none⟩),.int .i64 least] w (zER ns w p g o ts.length c bf bb res):=by
 obtain ⟨n1,n2,n3,ht,⟨m,G,hG,hB⟩,_⟩:=hpc
 obtain ⟨t0,t1,t2⟩:=ht i hi
 have HG:=zB hG
 have HP:=zB hp
 obtain ⟨q0,q1,q2,q3,q4⟩:=hp
 have hpl:=block_lt_of_cell q0
 have hgl:=block_lt_of_cell t0
 simp only at hpl hgl
 have hpn:p ≠ w.heap.size:=by omega
 have hgn:g ≠ w.heap.size:=by omega
 have HNO:=zB (show G (atT ts i).t = some (.func (.func 152) #[.pointer (some ⟨p,0,none⟩)] #[]) by rw [hop]; exact hB.1)
 have HF:=zB hf
 have HRD:=zB hr
 have HRES:=zB hres
 clear hf hr hres hop
 clear hG hB
 go_enter Tryz.func195,Tryz.ntmps195
 go_wp2_with fail
 go_region
 go_wp2_with fail
 have HKW:=zB (show zI w (((w.setCell ⟨p,1,none⟩ (.int .i64 ((i:Int) + 1))).alloc (.cells #[.int .i64 (atT ts i).k,.string (atT ts i).g,.string (atT ts i).t] 112)).drew).drew p from (zI.setP _).trans (zI.of_below (((zC _ _).drew).drew)))
 have e1:((i + 1:Nat):Int) = (i:Int) + 1:=by omega
 have HPW:=(zA HP).set (i + 1)
 rw [e1] at HPW
 replace HPW:=zB (HPW.below (((zC _ (.cells #[.int .i64 (atT ts i).k,.string (atT ts i).g,.string (atT ts i).t] 112)).drew).drew))
 have hlk:=((zA HG).kept (zA HKW).grown (fun e=>n2 (by injection e))).look (ty:=211) (e:=216) (z:=.nilFunc) Tryz.underlying211 (by kernel_rfl) hz
 rw [zA HNO] at hlk
 simp only [Option.getD,Option.isSome] at hlk
 clear HG HP q0 q1 q2 q3 q4 ht t0 t1 t2
 obtain ⟨w0,w1,w2,w3,w4⟩:=zA HPW
 have HX:=zKY hv p g o ts.length c bf bb (i + 1) d (sgs ns ts (i + 1) (ts.length - (i + 1))) least _ (fun w' hk' hp'=>(zA HRD) w' ((zA HKW).trans hk') hp') (zA HPW) hn (by rw [Zt]; omega) (zA HF) res (zA HRES)
 go_region
 go_wp2_with fail
 refine HX.mono ?_
 rintro x w5 ⟨HK5,⟨h0,rfl⟩ | ⟨T,r,h1,rfl,HG5,HP5⟩⟩
 ·exact ⟨rfl,zB ((zA HKW).trans (zA HK5)),Or.inl ⟨h0,rfl⟩⟩
 ·have HR5:=zB h1
  have HK6:=zB ((zA HKW).trans (zA HK5))
  clear h1 HX HRES HRD HF
  go_wp2_with fail
  go_ret
  exact ⟨HK6,Or.inr ⟨_,_,zA HR5,rfl,HG5,HP5⟩⟩
theorem zL5 {ns:List OpR} {ts:List zK} (p g o c bf bb i:Nat) (least:Int) (w:World) (hpc:PC w p g o bf bb ns ts) (hp:ZX w p g o ts.length c i bf bb) (hi:i < ts.length) (hn:ts.length <= 100000) (hz:(atT ts i).t.size <= maxLen)
  (hha:zZ ns (atT ts i).t 1 = true) (hne:(atT ts i).t ≠ opn) (hr:zHj ns w p g o ts.length c bf bb (i + 1) (sH ns (3,(atT ts i).t) false) (sgs ns ts (i + 1) (ts.length - (i + 1))))
  (res:Option (ET × List SyR)) (hres:res = (if sLv ns (3,(atT ts i).t) < least then none else (match RD ns (sH ns (3,(atT ts i).t) false) none (sgs ns ts (i + 1) (ts.length - (i + 1))) with
   | none=>none
   | some x=>some (.node 3 0 (atT ts i).t x.1 .nil,x.2)))) (hgd:∀ T r,res = some (T,r) -> zX ns T) :
  Calls Tryz.prog 195 #[.pointer (some ⟨p,0,none⟩),.int .i64 least] w (zER ns w p g o ts.length c bf bb res):=by
 obtain ⟨n1,n2,n3,ht,⟨m,G,hG,hB⟩,_⟩:=hpc
 obtain ⟨t0,t1,t2⟩:=ht i hi
 have HG:=zB hG
 have HP:=zB hp
 obtain ⟨q0,q1,q2,q3,q4⟩:=hp
 have hpl:=block_lt_of_cell q0
 have hgl:=block_lt_of_cell t0
 simp only at hpl hgl
 have hpn:p ≠ w.heap.size:=by omega
 have hgn:g ≠ w.heap.size:=by omega
 obtain ⟨ba,bp,bh,hg0,m1,m2,m3,k1,k2,k3⟩:=(hB.2 _ hne).2 hha
 have HNO:=zB hg0
 have HCE:=zB (And.intro k1 (And.intro k2 k3))
 have HRD:=zB hr
 have HRES:=zB hres
 have HGD:=zB hgd
 clear hr hres hgd k1 k2 k3 hg0
 clear hG hB
 go_enter Tryz.func195,Tryz.ntmps195
 go_wp2_with fail
 go_region
 go_wp2_with fail
 have HKW:=zB (show zI w (((w.setCell ⟨p,1,none⟩ (.int .i64 ((i:Int) + 1))).alloc (.cells #[.int .i64 (atT ts i).k,.string (atT ts i).g,.string (atT ts i).t] 112)).drew).drew p from (zI.setP _).trans (zI.of_below (((zC _ _).drew).drew)))
 have e1:((i + 1:Nat):Int) = (i:Int) + 1:=by omega
 have HPW:=(zA HP).set (i + 1)
 rw [e1] at HPW
 replace HPW:=zB (HPW.below (((zC _ (.cells #[.int .i64 (atT ts i).k,.string (atT ts i).g,.string (atT ts i).t] 112)).drew).drew))
 have hlk:=((zA HG).kept (zA HKW).grown (fun e=>n2 (by injection e))).look (ty:=211) (e:=216) (z:=.nilFunc) Tryz.underlying211 (by kernel_rfl) hz
 rw [zA HNO] at hlk
 simp only [Option.getD,Option.isSome] at hlk
 clear HG HP q0 q1 q2 q3 q4 ht t0 t1 t2
 obtain ⟨w0,w1,w2,w3,w4⟩:=zA HPW
 have HX:=zNZ p g o ts.length c bf bb (i + 1) (atT ts i).t (sgs ns ts (i + 1) (ts.length - (i + 1))) least _ ba bp bh m1 m2 m3 (zCs hha (by decide)) (fun w' hk' hp'=>(zA HRD) w' ((zA HKW).trans hk') hp') (zA HPW) ((zA HCE).1.kept (zA HKW) m1) (((zA HKW).cell (block_lt_of_cell (zA HCE).2.1) m2 0).trans (zA HCE).2.1) (((zA HKW).cell (block_lt_of_cell (zA HCE).2.2) m3 0).trans (zA HCE).2.2) res (zA HRES) (zA HGD)
 go_region
 go_wp2_with fail
 refine HX.mono ?_
 rintro x w5 ⟨HK5,⟨h0,rfl⟩ | ⟨T,r,h1,rfl,HG5,HP5⟩⟩
 ·exact ⟨rfl,zB ((zA HKW).trans (zA HK5)),Or.inl ⟨h0,rfl⟩⟩
 ·have HR5:=zB h1
  have HK6:=zB ((zA HKW).trans (zA HK5))
  clear h1 HX HRES HRD HGD HCE
  go_wp2_with fail
  go_ret
  exact ⟨HK6,Or.inr ⟨_,_,zA HR5,rfl,HG5,HP5⟩⟩
structure zNe (ns:List OpR) (ts:List zK):Prop where
 code:zL ns 0
 all:∀ i,i < ts.length -> Zg ns (zBT ns ts i,zBM ts i) (sgs ns ts i (ts.length - i))
 role:∀ i,i < ts.length -> 0 <= zN ns ts i
 tok:∀ i,i < ts.length -> zHb ns (atT ts i)
 size:∀ i,i < ts.length -> (atT ts i).t.size <= maxLen
 len:ts.length <= 100000
theorem zDH {ns:List OpR} {ts:List zK} {i:Nat} (hi:i < ts.length):sgs ns ts i (ts.length - i) = sgT ns ts i :: sgs ns ts (i + 1) (ts.length - (i + 1)):=by
 have e:ts.length - i = ts.length - (i + 1) + 1:=by omega
 rw [e,zDD]
theorem zIO {ns:List OpR} {ts:List zK} {i:Nat} {st:Bool × Nat} (h:Zg ns st (sgs ns ts i (ts.length - i))):i < ts.length:=by
 by_cases hi:i < ts.length
 ·exact hi
 ·have e:ts.length - i = 0:=by omega
  rw [e] at h
  exact (zBi h).elim
def zIP (ns:List OpR) (ts:List zK) (p g o c bf bb:Nat) (m:Nat):Prop:=
 ∀ (i d:Nat) (least:Int) (w:World),ts.length - i < m -> least <= 1001 -> Zg ns (false,d) (sgs ns ts i (ts.length - i)) -> PC w p g o bf bb ns ts -> ZX w p g o ts.length c i bf bb ->
  Calls Tryz.prog 156 #[.pointer (some ⟨p,0,none⟩),.int .i64 least] w (zER ns w p g o ts.length c bf bb (RD ns least none (sgs ns ts i (ts.length - i))))
theorem zL6 {ns:List OpR} {ts:List zK} (hF:zNe ns ts) {p g o c bf bb:Nat} (i d:Nat) (least:Int) (w:World) (hs:zIP ns ts p g o c bf bb (ts.length - i)) (hl:least <= 1001) (hf:Zg ns (false,d) (sgs ns ts i (ts.length - i))) (hpc:PC w p g o bf bb ns ts) (hp:ZX w p g o ts.length c i bf bb) :
  Calls Tryz.prog 195 #[.pointer (some ⟨p,0,none⟩),.int .i64 least] w (zER ns w p g o ts.length c bf bb (zEt ns least (sgT ns ts i) (sgs ns ts (i + 1) (ts.length - (i + 1))))):=by
 have hi:=zIO hf
 have hb:zBT ns ts i = false:=zLY (hF.all i hi) hf
 have hf':=hf
 rw [zDH hi] at hf'
 have hrd:∀ (d':Nat) (l':Int),l' <= 1001 -> Zg ns (false,d') (sgs ns ts (i + 1) (ts.length - (i + 1))) -> zHj ns w p g o ts.length c bf bb (i + 1) l' (sgs ns ts (i + 1) (ts.length - (i + 1))):=
  fun d' l' hl' hf'' w' hk' hp'=>hs (i + 1) d' l' w' (by omega) hl' hf'' (hpc.kept hk') hp'
 have hgd:∀ T r,zEt ns least (sgT ns ts i) (sgs ns ts (i + 1) (ts.length - (i + 1))) = some (T,r) -> zX ns T:=fun T r h=>(zHi hF.code hl hf' h).2.1
 rcases zLy (hF.role i hi) hb (hF.tok i hi) with ⟨hk,hno,hne,hsg⟩ | ⟨hk,hha,hne,hsg⟩ | ⟨hk,hop,hsg⟩
 ·have:=zKZ p g o c bf bb i least w hpc hp hi hF.len (hF.size i hi) hk hno hne
  have e:zEt ns least (sgT ns ts i) (sgs ns ts (i + 1) (ts.length - (i + 1))) = some (.node (atT ts i).k.toNat 0 (atT ts i).t .nil .nil,sgs ns ts (i + 1) (ts.length - (i + 1))):=by
   rw [hsg]
   unfold zEt
   rw [if_neg (by simp only; omega),if_neg (by simp only; omega)]
  rw [e]
  exact this
 ·have hk3:knB ns (3,(atT ts i).t) = true:=zCs hha (by decide)
  refine zL5 p g o c bf bb i least w hpc hp hi hF.len (hF.size i hi) hha hne (hrd d _ ?_ ?_) _ ?_ hgd
  ·exact (zEQ hF.code (s:=(3,(atT ts i).t)) (Or.inl rfl) hk3).1
  ·rw [hsg] at hf'
   rcases zBj hf' with ⟨x,_⟩ | ⟨_,_,x⟩ | ⟨x,_⟩
   ·simp at x
   ·exact x
   ·simp at x
  ·rw [hsg]
   unfold zEt
   rw [if_pos rfl]
   rfl
 ·have hfo:Zg ns (false,d + 1) (sgs ns ts (i + 1) (ts.length - (i + 1))):=by
   rw [hsg] at hf'
   rcases zBj hf' with ⟨x,_⟩ | ⟨x,_,_⟩ | ⟨_,x⟩
   ·simp at x
   ·simp at x
   ·exact x
  refine zKa hF.code p g o c bf bb i d least w hpc hp hi hF.len (hF.size i hi) hop hfo (hrd (d + 1) 0 (by omega) hfo) _ ?_
  rw [hsg]
  unfold zEt
  rw [if_neg (by decide),if_pos rfl]
  rfl
end Go.Proofs.YtokabkhnidlcnacGreatDoor
namespace Go.Proofs.YtokabkhnidlcnacGreatDoor
set_option linter.unusedSimpArgs false
set_option linter.unusedVariables false
set_option maxHeartbeats 16000000
set_option maxRecDepth 100000
open Go.RowKit Go.Maps
open Go.Deep (BT)
def atOf (w:World) (p:Nat):Nat:=match w.cell? ⟨p,1,none⟩ with
 | some v=>(intOf v).toNat
 | none=>0
theorem ZX.atOf {w:World} {p g o n c i bf bb:Nat} (h:ZX w p g o n c i bf bb):atOf w p = i:=by
 unfold Proofs.YtokabkhnidlcnacGreatDoor.atOf
 rw [h.2.1]
 simp [intOf]
def zLZ (ns:List OpR) (ts:List zK) (w:World) (p g o c bf bb d:Nat) (least:Int) (res:Option (ET × List SyR)) (T:ET) (j:Nat) (wr:World):Prop:=
 zX ns T /\ ZX wr p g o ts.length c j bf bb /\ zI w wr p /\ Zg ns (true,d) (sgs ns ts j (ts.length - j)) /\ least <= lvT ns T /\ res = RD ns least (some T) (sgs ns ts j (ts.length - j))
theorem zO2 {ns:List OpR} (hv:zL ns 0) {T T':ET} {t:ByteArray} {d:Nat} {least:Int} {r r':List SyR} (hT:zX ns T) (hf:Zg ns (false,d) r) (hk:knB ns (4,t) = true) (hl:least <= sLv ns (4,t))
  (h:(if lvT ns T < sH ns (4,t) false then none else (match RD ns (sH ns (4,t) true) none r with
   | none=>none
   | some x=>some (BT.node 4 0 t T x.1,x.2))) = some (T',r')):zX ns T' /\ Zg ns (true,d) r' /\ least <= lvT ns T' /\ ∃ a,r = a ++ r':=by
 by_cases hlt:lvT ns T < sH ns (4,t) false
 ·rw [if_pos hlt] at h; cases h
 ·rw [if_neg hlt] at h
  cases hy:RD ns (sH ns (4,t) true) none r with
  | none=>rw [hy] at h; cases h
  | some y=>
   rw [hy] at h
   simp only [Option.some.injEq,Prod.mk.injEq] at h
   obtain ⟨rfl,rfl⟩:=h
   obtain ⟨a1,a2,a3,_,a5⟩:=Ze hv _ _ none r d y ((zEQ hv (s:=(4,t)) (Or.inr (Or.inl rfl)) hk).2 rfl) hf (fun L e=>by cases e) hy
   exact ⟨⟨rfl,Or.inr (Or.inr (Or.inr ⟨rfl,hk,hT,a2,by omega,a3⟩))⟩,a1,hl,ySy y.1,a5⟩
theorem zNf {ns:List OpR} {T T':ET} {t:ByteArray} {least:Int} {r r':List SyR} (hT:zX ns T) (hk:knB ns (5,t) = true) (hl:least <= sLv ns (5,t))
  (h:(if lvT ns T < sH ns (5,t) false then none else some (BT.node 5 0 t T .nil,r)) = some (T',r')):zX ns T' /\ least <= lvT ns T' /\ r' = r:=by
 by_cases hlt:lvT ns T < sH ns (5,t) false
 ·rw [if_pos hlt] at h; cases h
 ·rw [if_neg hlt] at h
  simp only [Option.some.injEq,Prod.mk.injEq] at h
  obtain ⟨rfl,rfl⟩:=h
  exact ⟨⟨rfl,Or.inr (Or.inr (Or.inl ⟨Or.inr rfl,hk,hT,rfl,by omega⟩))⟩,hl,rfl⟩
theorem zL7 {ns:List OpR} {ts:List zK} (hF:zNe ns ts) {p g o c bf bb:Nat} (i d:Nat) (least:Int) (w:World) (hs:zIP ns ts p g o c bf bb (ts.length - i)) (hl:least <= 1001) (hf:Zg ns (false,d) (sgs ns ts i (ts.length - i))) (hpc:PC w p g o bf bb ns ts) (hp:ZX w p g o ts.length c i bf bb) (res:Option (ET × List SyR)) (hres:res = RD ns least none (sgs ns ts i (ts.length - i))) :
  Calls Tryz.prog 156 #[.pointer (some ⟨p,0,none⟩),.int .i64 least] w (zER ns w p g o ts.length c bf bb res):=by
 have hi:=zIO hf
 have HX:=zL6 hF i d least w hs hl hf hpc hp
 have HF:=zB hF
 have HS:=zB hs
 have HPC:=zB hpc
 have HRES:=zB (show res = (match zEt ns least (sgT ns ts i) (sgs ns ts (i + 1) (ts.length - (i + 1))) with
  | none=>none
  | some x=>RD ns least (some x.1) x.2) by rw [hres,zDH hi,zQD]; rfl)
 have HSO:=zB (show ∀ x,zEt ns least (sgT ns ts i) (sgs ns ts (i + 1) (ts.length - (i + 1))) = some x -> Zg ns (true,d) x.2 /\ zX ns x.1 /\ least <= lvT ns x.1 /\ sgs ns ts i (ts.length - i) = ySy x.1 ++ x.2 /\ x.2.length < ts.length - i from fun x hx=>by
  have hf':=hf
  rw [zDH hi] at hf'
  have h:=zHi hF.code hl hf' hx
  rw [<- zDH hi] at h
  refine ⟨h.1,h.2.1,h.2.2.1,h.2.2.2,?_⟩
  have e:=congrArg List.length h.2.2.2
  rw [Zt,List.length_append] at e
  have:1 <= (ySy x.1).length:=Nat.le_trans (Sh.pos h.2.1.sh) (zIA x.1 h.2.1)
  omega)
 generalize zEt ns least (sgT ns ts i) (sgs ns ts (i + 1) (ts.length - (i + 1))) = fr at HX HRES HSO
 clear hF hs hpc hp hres hf
 go_enter Tryz.func156,Tryz.ntmps156
 go_wp2_with fail
 refine HX.mono ?_
 clear HX
 rintro x w1 ⟨HK,⟨h0,rfl⟩ | ⟨T0,r0,h1,rfl,HG,HP⟩⟩
 ·have hn:res = none:=by rw [zA HRES,h0]
  exact ⟨rfl,HK,Or.inl ⟨hn,rfl⟩⟩
 ·have HREL:=zB (show zLZ ns ts w p g o c bf bb d least res T0 (ts.length - r0.length) w1 from by
   obtain ⟨a1,a2,a3,a4,a5⟩:=(zA HSO) _ h1
   have hsu:=zDt a4
   have e:i + (ts.length - i) - r0.length = ts.length - r0.length:=by omega
   simp only [e] at hsu
   have e2:ts.length - (ts.length - r0.length) = r0.length:=by omega
   refine ⟨a2,zA HP,zA HK,?_,a3,?_⟩
   ·rw [e2,<- hsu.1]; exact a1
   ·rw [e2,<- hsu.1,zA HRES,h1])
  have hij0:i < ts.length - r0.length:=by
   have:=((zA HSO) _ h1).2.2.2.2
   simp only at this
   omega
  have HIJ:=zB hij0
  clear HK h1 HG HP HRES HSO hij0
  go_wp2_with fail
  go_loopw [5] (fun lv wr=>∃ (T:ET) (j:Nat),lv = exT ns T /\ i < j /\ Hid (zLZ ns ts w p g o c bf bb d least res T j wr)) (fun _ wr=>ts.length - atOf wr p)
  case atStart=>exact ⟨T0,_,rfl,zA HIJ,HREL⟩
  case round=>
   clear HREL
   obtain ⟨T,j,rfl,hij,HREL⟩:=hrel
   have hdr:=zI.of_below (g:=p) ((Below.refl wr.heap.size wr).drew)
   obtain ⟨b1,b2,b3,b4,b5,b6⟩:=zA HREL
   have hj:=zIO b4
   have hb:zBT ns ts j = true:=zLY ((zA HF).all j hj) b4
   obtain ⟨n1,n2,n3,ht,_,⟨m,G,hG,hB⟩⟩:=(zA HPC).kept b3
   have HPW:=zB ((zA HPC).kept (b3.trans hdr))
   obtain ⟨t0,t1,t2⟩:=ht j hj
   have HPD:=zB (b2.below ((Below.refl wr.heap.size wr).drew))
   have HKD:=zB (b3.trans hdr)
   have HAT:=zB b2.atOf
   obtain ⟨q0,q1,q2,q3,q4⟩:=b2
   have hlk:=(hG.kept hdr.grown (fun e=>n3 (by injection e))).look (ty:=212) (e:=221) (z:=.nilFunc) Tryz.underlying212 (by kernel_rfl) ((zA HF).size j hj)
   have hsg:=zDH (ns:=ns) hj
   have hfr:=b4
   rw [hsg] at b6 hfr
   rw [zFi] at b6
   have HGT:=zB b1
   have hlen:(sgs ns ts j (ts.length - j)).length = ts.length - j:=Zt _ _ _ _
   rcases zKP ((zA HF).role j hj) hb ((zA HF).tok j hj) with ⟨hk,hha,hs4⟩ | ⟨hk,hha,hs5⟩ | ⟨hno,h4,h5⟩
   ·obtain ⟨ba,bp,bh,bs,g0,m1,m2,m3,m4,k1,k2,k3,k4⟩:=((hB.kept hdr) _).2.1 hha
    rw [g0] at hlk
    simp only [Option.getD,Option.isSome] at hlk
    have hk4:knB ns (4,(atT ts j).t) = true:=zCs hha (by decide)
    rw [hs4] at b6 hfr hsg
    simp only [true_and] at b6
    by_cases hlv:sLv ns (4,(atT ts j).t) < least
    ·have HR:=zB (show res = some (T,sgs ns ts j (ts.length - j)) by
      rw [b6,if_neg (by omega),if_neg (by simp),<- hsg])
     have HE:=zB (show ts.length - (sgs ns ts j (ts.length - j)).length = j by rw [hlen]; omega)
     have HX:=zO1 (ns:=ns) (exT ns T) (atT ts j).t least wr.drew ba bp bh bs hk4 k1 hlv
     clear b1 b3 b4 b5 b6 hb ht hG hB hsg hfr hlen hdr HREL g0 k1 k2 k3 k4 hlv hk4 hha hs4 hk
     go_wp2_with fail
     go_region
     go_wp2_with fail
     refine HX.mono ?_
     rintro x w2 ⟨rfl,hw2⟩
     have hw:=hw2.symm
     subst hw
     clear HX
     go_wp2_with fail
     go_ret
     exact ⟨HKD,Or.inr ⟨_,_,zA HR,rfl,HGT,by rw [zA HE]; exact HPD⟩⟩
    ·have hge:least <= sLv ns (4,(atT ts j).t):=by omega
     have hfn:Zg ns (false,d) (sgs ns ts (j + 1) (ts.length - (j + 1))):=by
      rcases zAf hfr with ⟨x,_⟩ | ⟨_,_,x⟩ | ⟨x,_⟩ | ⟨x,_⟩
      ·simp [eoS] at x
      ·exact x
      ·simp at x
      ·simp at x
     obtain ⟨nx,hnx⟩:∃ nx,nx = (if lvT ns T < sH ns (4,(atT ts j).t) false then none else (match RD ns (sH ns (4,(atT ts j).t) true) none (sgs ns ts (j + 1) (ts.length - (j + 1))) with
      | none=>none
      | some x=>some (BT.node 4 0 (atT ts j).t T x.1,x.2))):=⟨_,rfl⟩
     have hnxt:∀ T' r',nx = some (T',r') -> zX ns T' /\ Zg ns (true,d) r' /\ least <= lvT ns T' /\ ∃ a,sgs ns ts (j + 1) (ts.length - (j + 1)) = a ++ r':=fun T' r' h=>zO2 (zA HF).code b1 hfn hk4 hge (by rw [<- hnx]; exact h)
     have HNX:=zB hnxt
     have HR:=zB (show res = nx.bind (fun x=>RD ns least (some x.1) x.2) by
      rw [b6,if_pos hge,hnx]
      by_cases hx:lvT ns T < sH ns (4,(atT ts j).t) false
      ·rw [if_pos hx,if_pos hx]; rfl
      ·rw [if_neg hx,if_neg hx]
       cases RD ns (sH ns (4,(atT ts j).t) true) none (sgs ns ts (j + 1) (ts.length - (j + 1))) with
       | none=>rfl
       | some y=>rfl)
     have HX:=zNb p g o ts.length c bf bb j (atT ts j).t (sgs ns ts (j + 1) (ts.length - (j + 1))) T least wr.drew ba bp bh bs m1 m2 m3 m4 hk4 b1 (by have:=(zA HF).len; omega) (fun w' hk' hp'=>(zA HS) (j + 1) d _ w' (by omega) ((zEQ (zA HF).code (s:=(4,(atT ts j).t)) (Or.inr (Or.inl rfl)) hk4).2 rfl) hfn ((zA HPW).kept hk') hp') (zA HPD) k1 k2 k3 k4 hge nx hnx (fun T' r' h=>(hnxt T' r' h).1)
     clear b1 b3 b4 b5 b6 hb ht hG hB hsg hfr hlen hdr HREL g0 k1 k2 k3 k4 hlv hk4 hha hs4 hk hge hfn hnx hnxt
     go_wp2_with fail
     go_region
     go_wp2_with fail
     refine HX.mono ?_
     clear HX
     rintro x w2 ⟨HK2,⟨h0,rfl⟩ | ⟨T',r',h1,rfl,HG',HP'⟩⟩
     ·have hn:res = none:=by rw [zA HR,h0]; rfl
      exact ⟨rfl,zB ((zA HKD).trans (zA HK2)),Or.inl ⟨hn,rfl⟩⟩
     ·obtain ⟨c1,c2,c3,a,c4⟩:=(zA HNX) _ _ h1
      have hsu:=zDt c4
      have hrl:=hsu.2
      have e1:j + 1 + (ts.length - (j + 1)) - r'.length = ts.length - r'.length:=by omega
      have e2:ts.length - (ts.length - r'.length) = r'.length:=by omega
      have hsr:=hsu.1
      rw [e1] at hsr
      have HREL2:=zB (show zLZ ns ts w p g o c bf bb d least res T' (ts.length - r'.length) w2 from
       ⟨c1,zA HP',(zA HKD).trans (zA HK2),by rw [e2,<- hsr]; exact c2,c3,by rw [e2,<- hsr,zA HR,h1]; rfl⟩)
      have HLT:=zB (show ts.length - atOf w2 p < ts.length - atOf wr p by rw [(zA HP').atOf,zA HAT]; omega)
      have HIJ2:=zB (show i < ts.length - r'.length by omega)
      clear c1 c2 c3 c4 hsu hrl e1 e2 hsr h1 HK2 HG' HP' HR HNX
      go_wp2_with fail
      exact ⟨⟨T',_,rfl,zA HIJ2,HREL2⟩,zA HLT⟩
   ·obtain ⟨ba,bp,bh,g0,m1,m2,m3,k1,k2,k3⟩:=((hB.kept hdr) _).2.2 hha
    rw [g0] at hlk
    simp only [Option.getD,Option.isSome] at hlk
    have hk5:knB ns (5,(atT ts j).t) = true:=zCs hha (by decide)
    rw [hs5] at b6 hfr hsg
    rw [if_neg (by simp)] at b6
    simp only [true_and] at b6
    by_cases hlv:sLv ns (5,(atT ts j).t) < least
    ·have HR:=zB (show res = some (T,sgs ns ts j (ts.length - j)) by
      rw [b6,if_neg (by omega),<- hsg])
     have HE:=zB (show ts.length - (sgs ns ts j (ts.length - j)).length = j by rw [hlen]; omega)
     have HX:=zNa (ns:=ns) (exT ns T) (atT ts j).t least wr.drew ba bp bh hk5 k1 hlv
     clear b1 b3 b4 b5 b6 hb ht hG hB hsg hfr hlen hdr HREL g0 k1 k2 k3 hlv hk5 hha hs5 hk
     go_wp2_with fail
     go_region
     go_wp2_with fail
     refine HX.mono ?_
     rintro x w2 ⟨rfl,hw2⟩
     have hw:=hw2.symm
     subst hw
     clear HX
     go_wp2_with fail
     go_ret
     exact ⟨HKD,Or.inr ⟨_,_,zA HR,rfl,HGT,by rw [zA HE]; exact HPD⟩⟩
    ·have hge:least <= sLv ns (5,(atT ts j).t):=by omega
     have hfn:Zg ns (true,d) (sgs ns ts (j + 1) (ts.length - (j + 1))):=by
      rcases zAf hfr with ⟨x,_⟩ | ⟨x,_⟩ | ⟨_,_,x⟩ | ⟨x,_⟩
      ·simp [eoS] at x
      ·simp at x
      ·exact x
      ·simp at x
     obtain ⟨nx,hnx⟩:∃ nx,nx = (if lvT ns T < sH ns (5,(atT ts j).t) false then none else some (BT.node 5 0 (atT ts j).t T .nil,sgs ns ts (j + 1) (ts.length - (j + 1)))):=⟨_,rfl⟩
     have hnxt:∀ T' r',nx = some (T',r') -> zX ns T' /\ Zg ns (true,d) r' /\ least <= lvT ns T' /\ ∃ a,sgs ns ts (j + 1) (ts.length - (j + 1)) = a ++ r':=fun T' r' h=>by
      obtain ⟨x1,x2,x3⟩:=zNf b1 hk5 hge (by rw [<- hnx]; exact h)
      exact ⟨x1,by rw [x3]; exact hfn,x2,[],by rw [x3]; rfl⟩
     have HNX:=zB hnxt
     have HR:=zB (show res = nx.bind (fun x=>RD ns least (some x.1) x.2) by
      rw [b6,if_pos hge,hnx]
      by_cases hx:lvT ns T < sH ns (5,(atT ts j).t) false
      ·rw [if_pos hx,if_pos hx]; rfl
      ·rw [if_neg hx,if_neg hx]; rfl)
     have HX:=zL4 p g o ts.length c bf bb j (atT ts j).t (sgs ns ts (j + 1) (ts.length - (j + 1))) T least wr.drew ba bp bh m1 m2 m3 hk5 b1 (by rw [Zt]; omega) (zA HF).len (zA HPD) k1 k2 k3 hge nx hnx (fun T' r' h=>(hnxt T' r' h).1)
     clear b1 b3 b4 b5 b6 hb ht hG hB hsg hfr hlen hdr HREL g0 k1 k2 k3 hlv hk5 hha hs5 hk hge hfn hnx hnxt
     go_wp2_with fail
     go_region
     go_wp2_with fail
     refine HX.mono ?_
     clear HX
     rintro x w2 ⟨HK2,⟨h0,rfl⟩ | ⟨T',r',h1,rfl,HG',HP'⟩⟩
     ·have hn:res = none:=by rw [zA HR,h0]; rfl
      exact ⟨rfl,zB ((zA HKD).trans (zA HK2)),Or.inl ⟨hn,rfl⟩⟩
     ·obtain ⟨c1,c2,c3,a,c4⟩:=(zA HNX) _ _ h1
      have hsu:=zDt c4
      have hrl:=hsu.2
      have e1:j + 1 + (ts.length - (j + 1)) - r'.length = ts.length - r'.length:=by omega
      have e2:ts.length - (ts.length - r'.length) = r'.length:=by omega
      have hsr:=hsu.1
      rw [e1] at hsr
      have HREL2:=zB (show zLZ ns ts w p g o c bf bb d least res T' (ts.length - r'.length) w2 from
       ⟨c1,zA HP',(zA HKD).trans (zA HK2),by rw [e2,<- hsr]; exact c2,c3,by rw [e2,<- hsr,zA HR,h1]; rfl⟩)
      have HLT:=zB (show ts.length - atOf w2 p < ts.length - atOf wr p by rw [(zA HP').atOf,zA HAT]; omega)
      have HIJ2:=zB (show i < ts.length - r'.length by omega)
      clear c1 c2 c3 c4 hsu hrl e1 e2 hsr h1 HK2 HG' HP' HR HNX
      go_wp2_with fail
      exact ⟨⟨T',_,rfl,zA HIJ2,HREL2⟩,zA HLT⟩
   ·have hg0:G (atT ts j).t = none:=(hB _).1 hno
    rw [hg0] at hlk
    simp only [Option.getD,Option.isSome] at hlk
    have HR:=zB (show res = some (T,sgs ns ts j (ts.length - j)) by
     rw [b6,if_neg (fun x=>h4 x.1),if_neg (fun x=>h5 x.1),<- hsg])
    have HE:=zB (show ts.length - (sgs ns ts j (ts.length - j)).length = j by rw [hlen]; omega)
    clear b1 b3 b4 b5 b6 hb ht hG hB hsg hfr hlen hdr HREL hno h4 h5 hg0
    go_wp2_with fail
    go_region
    go_wp2_with fail
    go_ret
    exact ⟨HKD,Or.inr ⟨_,_,zA HR,rfl,HGT,by rw [zA HE]; exact HPD⟩⟩
theorem zJf {ns:List OpR} {ts:List zK} (hF:zNe ns ts) {p g o c bf bb:Nat}:∀ m,zIP ns ts p g o c bf bb m
 | 0=>fun i d least w h=>absurd h (Nat.not_lt_zero _)
 | m + 1=>fun i d least w h hl hf hpc hp=>
  zL7 hF i d least w (fun i' d' l' w' h'=>zJf hF m i' d' l' w' (by omega)) hl hf hpc hp _ rfl
end Go.Proofs.YtokabkhnidlcnacGreatDoor
