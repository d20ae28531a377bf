import Derived.Shelf.Strings.BuilderK
import Derived.Deep.RegionHeld
import Derived.Test.YtfboipappaonhaaGreatP08
import Derived.Test.YtfboipappaonhaaGreatP14
import Derived.Test.YtfboipappaonhaaGreatP16
namespace Go.Proofs.YtfboipappaonhaaGreat
set_option linter.unusedSimpArgs false
set_option linter.unusedVariables false
set_option maxHeartbeats 16000000
set_option maxRecDepth 100000
open Go.RowKit Go.Maps
def zMR (w:World) (p:Nat) (ns:List OpR) (G:ByteArray -> Option Value):Prop:=
 G opn = some (.func (.func 82) #[.pointer (some ⟨p,0,none⟩)] #[]) /\
 ∀ t,t ≠ opn -> (za ns t 1 = false -> G t = none) /\ (za ns t 1 = true -> ∃ ba bp bh,G t = some (.func (.func 132) #[] #[.pointer (some ⟨ba,0,none⟩),.pointer (some ⟨bp,0,none⟩),.pointer (some ⟨bh,0,none⟩)]) /\
  ba ≠ p /\ bp ≠ p /\ bh ≠ p /\ OpC w ba (opA ns (rt 3 t)) /\ w.cell? ⟨bp,0,none⟩ = some (.pointer (some ⟨p,0,none⟩)) /\ w.cell? ⟨bh,0,none⟩ = some (.int .i64 (sH ns (3,t) false)))
def zMS (w:World) (p:Nat) (ns:List OpR) (G:ByteArray -> Option Value):Prop:=
 ∀ t,(¬ opT ns t -> G t = none) /\
 (za ns t 2 = true -> ∃ ba bp bh bs,G t = some (.func (.func 133) #[] #[.pointer (some ⟨ba,0,none⟩),.pointer (some ⟨bp,0,none⟩),.pointer (some ⟨bh,0,none⟩),.pointer (some ⟨bs,0,none⟩)]) /\
  ba ≠ p /\ bp ≠ p /\ bh ≠ p /\ bs ≠ p /\ OpC w ba (opA ns (rt 4 t)) /\ w.cell? ⟨bp,0,none⟩ = some (.pointer (some ⟨p,0,none⟩)) /\ w.cell? ⟨bh,0,none⟩ = some (.int .i64 (sH ns (4,t) false)) /\ w.cell? ⟨bs,0,none⟩ = some (.int .i64 (sH ns (4,t) true))) /\
 (za ns t 3 = true -> ∃ ba bp bh,G t = some (.func (.func 135) #[] #[.pointer (some ⟨ba,0,none⟩),.pointer (some ⟨bp,0,none⟩),.pointer (some ⟨bh,0,none⟩)]) /\
  ba ≠ p /\ bp ≠ p /\ bh ≠ p /\ OpC w ba (opA ns (rt 5 t)) /\ w.cell? ⟨bp,0,none⟩ = some (.pointer (some ⟨p,0,none⟩)) /\ w.cell? ⟨bh,0,none⟩ = some (.int .i64 (sH ns (5,t) false)))
theorem zMR.kept {w w':World} {p:Nat} {ns:List OpR} {G:ByteArray -> Option Value} (h:zMR w p ns G) (hk:zE w w' p):zMR w' p ns G:=by
 refine ⟨h.1,fun t ht=>⟨(h.2 t ht).1,fun hb=>?_⟩⟩
 obtain ⟨ba,bp,bh,h0,n1,n2,n3,h1,h2,h3⟩:=(h.2 t ht).2 hb
 exact ⟨ba,bp,bh,h0,n1,n2,n3,h1.kept hk n1,(hk.cell (block_lt_of_cell h2) n2 0).trans h2,(hk.cell (block_lt_of_cell h3) n3 0).trans h3⟩
theorem zMS.kept {w w':World} {p:Nat} {ns:List OpR} {G:ByteArray -> Option Value} (h:zMS w p ns G) (hk:zE w w' p):zMS w' p ns G:=by
 refine fun t=>⟨(h t).1,fun hb=>?_,fun hb=>?_⟩
 ·obtain ⟨ba,bp,bh,bs,h0,n1,n2,n3,n4,h1,h2,h3,h4⟩:=(h t).2.1 hb
  exact ⟨ba,bp,bh,bs,h0,n1,n2,n3,n4,h1.kept hk n1,(hk.cell (block_lt_of_cell h2) n2 0).trans h2,(hk.cell (block_lt_of_cell h3) n3 0).trans h3,(hk.cell (block_lt_of_cell h4) n4 0).trans h4⟩
 ·obtain ⟨ba,bp,bh,h0,n1,n2,n3,h1,h2,h3⟩:=(h t).2.2 hb
  exact ⟨ba,bp,bh,h0,n1,n2,n3,h1.kept hk n1,(hk.cell (block_lt_of_cell h2) n2 0).trans h2,(hk.cell (block_lt_of_cell h3) n3 0).trans h3⟩
theorem zE.grown {w w':World} {p:Nat} (h:zE w w' p):w.grownBy w' (some p):=⟨h.os,h.tape,h.output,h.size,fun i hi hne=>h.block i hi (fun e=>hne (by rw [e]))⟩
def PC (w:World) (p g o bf bb:Nat) (ns:List OpR) (ts:List zI):Prop:=
 g ≠ p /\ bf ≠ p /\ bb ≠ p /\ zCE w g o ts /\ (∃ m G,zB6 w bf m G /\ zMR w p ns G) /\ (∃ m G,zB6 w bb m G /\ zMS w p ns G)
theorem PC.kept {w w':World} {p g o bf bb:Nat} {ns:List OpR} {ts:List zI} (h:PC w p g o bf bb ns ts) (hk:zE w w' p):PC w' p g o bf bb ns ts:=by
 obtain ⟨n1,n2,n3,ht,⟨m,G,hG,hB⟩,⟨m',G',hG',hB'⟩⟩:=h
 refine ⟨n1,n2,n3,fun i hi=>?_,⟨m,G,hG.kept hk.grown (fun e=>n2 (by injection e)),hB.kept hk⟩,⟨m',G',hG'.kept hk.grown (fun e=>n3 (by injection e)),hB'.kept hk⟩⟩
 obtain ⟨c0,c1,c2⟩:=ht i hi
 exact ⟨(hk.cell (block_lt_of_cell c0) n1 _).trans c0,(hk.cell (block_lt_of_cell c1) n1 _).trans c1,(hk.cell (block_lt_of_cell c2) n1 _).trans c2⟩
theorem zJo {ns:List OpR} {ts:List zI} (p g o c bf bb i:Nat) (least:Int) (w:World) (hpc:PC w p g o bf bb ns ts) (hp:Zb w p g o ts.length c i bf bb) (hi:i < ts.length) (hn:ts.length <= 100000) (hz:(atT ts i).t.size <= maxLen)
  (hk:(atT ts i).k = 1 \/ (atT ts i).k = 2) (hno:¬ opT ns (atT ts i).t) (hne:(atT ts i).t ≠ opn) :
  Calls Tryz.prog 136 #[.pointer (some ⟨p,0,none⟩),.int .i64 least] w (zEP ns w p g o ts.length c bf bb (some (.node (atT ts i).k.toNat 0 (atT ts i).t .nil .nil,sgs ns ts (i + 1) (ts.length - (i + 1))))):=by
 obtain ⟨n1,n2,n3,ht,⟨m,G,hG,hB⟩,_⟩:=hpc
 obtain ⟨t0,t1,t2⟩:=ht i hi
 have HG:=zB hG
 have HP:=zB hp
 obtain ⟨q0,q1,q2,q3,q4⟩:=hp
 have hpl:=block_lt_of_cell q0
 have hgl:=block_lt_of_cell t0
 simp only at hpl hgl
 have hpn:p ≠ w.heap.size:=by omega
 have hgn:g ≠ w.heap.size:=by omega
 have HNO:=zB (show G (atT ts i).t = none from (hB.2 _ hne).1 (by
  cases h:za ns (atT ts i).t 1 with
  | false=>rfl
  | true=>
   obtain ⟨j,hj,e1,_⟩:=(ZJ _ _ _).1 h
   exact absurd ⟨j,hj,e1⟩ hno))
 clear hG hB
 go_enter Tryz.func136,Tryz.ntmps136
 go_wp2_with fail
 go_region
 go_wp2_with fail
 have HKW:=zB (show zE w (((w.setCell ⟨p,1,none⟩ (.int .i64 ((i:Int) + 1))).alloc (.cells #[.int .i64 (atT ts i).k,.string (atT ts i).g,.string (atT ts i).t] 97)).drew).drew p from (zE.setP _).trans (zE.of_below (((zC _ _).drew).drew)))
 have e1:((i + 1:Nat):Int) = (i:Int) + 1:=by omega
 have HPW:=(zA HP).set (i + 1)
 rw [e1] at HPW
 replace HPW:=zB (HPW.below (((zC _ (.cells #[.int .i64 (atT ts i).k,.string (atT ts i).g,.string (atT ts i).t] 97)).drew).drew))
 have hlk:=((zA HG).kept (zA HKW).grown (fun e=>n2 (by injection e))).look (ty:=154) (e:=159) (z:=.nilFunc) Tryz.underlying154 (by kernel_rfl) hz
 rw [zA HNO] at hlk
 simp only [Option.getD,Option.isSome] at hlk
 clear HG HP q0 q1 q2 q3 q4 ht t0 t1 t2
 obtain ⟨w0,w1,w2,w3,w4⟩:=zA HPW
 have HEND:=zB (show ts.length - (sgs ns ts (i + 1) (ts.length - (i + 1))).length = i + 1 by rw [zAA]; omega)
 rcases hk with hk1 | hk1
 ·have hb:((atT ts i).k == 1) = true:=by rw [hk1]; rfl
  have HN:=zB (show (atT ts i).k.toNat = 1 by rw [hk1]; rfl)
  clear hk1
  go_region
  go_wp2_with fail
  go_ret
  refine ⟨HKW,Or.inr ⟨_,_,rfl,?_,?_,?_⟩⟩
  ·rw [zA HN]; rfl
  ·rw [zA HN]; exact zB ⟨rfl,Or.inl ⟨Or.inl rfl,rfl,rfl⟩⟩
  ·rw [zA HEND]; exact HPW
 ·have hb:((atT ts i).k == 1) = false:=by rw [hk1]; rfl
  have HN:=zB (show (atT ts i).k.toNat = 2 by rw [hk1]; rfl)
  clear hk1
  go_region
  go_wp2_with fail
  go_ret
  refine ⟨HKW,Or.inr ⟨_,_,rfl,?_,?_,?_⟩⟩
  ·rw [zA HN]; rfl
  ·rw [zA HN]; exact zB ⟨rfl,Or.inl ⟨Or.inr rfl,rfl,rfl⟩⟩
  ·rw [zA HEND]; exact HPW
theorem zJp {ns:List OpR} {ts:List zI} (hv:zM ns 0) (p g o c bf bb i d:Nat) (least:Int) (w:World) (hpc:PC w p g o bf bb ns ts) (hp:Zb w p g o ts.length c i bf bb) (hi:i < ts.length) (hn:ts.length <= 100000) (hz:(atT ts i).t.size <= maxLen)
  (hop:(atT ts i).t = opn) (hf:Zl ns (false,d + 1) (sgs ns ts (i + 1) (ts.length - (i + 1)))) (hr:zHE ns w p g o ts.length c bf bb (i + 1) 0 (sgs ns ts (i + 1) (ts.length - (i + 1))))
  (res:Option (ET × List SyR)) (hres:res = (match RD ns 0 none (sgs ns ts (i + 1) (ts.length - (i + 1))) with
   | none=>none
   | some x=>some (.node 6 0 ByteArray.empty x.1 .nil,x.2.tail))) :
  Calls Tryz.prog 136 #[.pointer (some ⟨p,0,none⟩),.int .i64 least] w (zEP ns w p g o ts.length c bf bb res):=by
 obtain ⟨n1,n2,n3,ht,⟨m,G,hG,hB⟩,_⟩:=hpc
 obtain ⟨t0,t1,t2⟩:=ht i hi
 have HG:=zB hG
 have HP:=zB hp
 obtain ⟨q0,q1,q2,q3,q4⟩:=hp
 have hpl:=block_lt_of_cell q0
 have hgl:=block_lt_of_cell t0
 simp only at hpl hgl
 have hpn:p ≠ w.heap.size:=by omega
 have hgn:g ≠ w.heap.size:=by omega
 have HNO:=zB (show G (atT ts i).t = some (.func (.func 82) #[.pointer (some ⟨p,0,none⟩)] #[]) by rw [hop]; exact hB.1)
 have HF:=zB hf
 have HRD:=zB hr
 have HRES:=zB hres
 clear hf hr hres hop
 clear hG hB
 go_enter Tryz.func136,Tryz.ntmps136
 go_wp2_with fail
 go_region
 go_wp2_with fail
 have HKW:=zB (show zE w (((w.setCell ⟨p,1,none⟩ (.int .i64 ((i:Int) + 1))).alloc (.cells #[.int .i64 (atT ts i).k,.string (atT ts i).g,.string (atT ts i).t] 97)).drew).drew p from (zE.setP _).trans (zE.of_below (((zC _ _).drew).drew)))
 have e1:((i + 1:Nat):Int) = (i:Int) + 1:=by omega
 have HPW:=(zA HP).set (i + 1)
 rw [e1] at HPW
 replace HPW:=zB (HPW.below (((zC _ (.cells #[.int .i64 (atT ts i).k,.string (atT ts i).g,.string (atT ts i).t] 97)).drew).drew))
 have hlk:=((zA HG).kept (zA HKW).grown (fun e=>n2 (by injection e))).look (ty:=154) (e:=159) (z:=.nilFunc) Tryz.underlying154 (by kernel_rfl) hz
 rw [zA HNO] at hlk
 simp only [Option.getD,Option.isSome] at hlk
 clear HG HP q0 q1 q2 q3 q4 ht t0 t1 t2
 obtain ⟨w0,w1,w2,w3,w4⟩:=zA HPW
 have HX:=zJn hv p g o ts.length c bf bb (i + 1) d (sgs ns ts (i + 1) (ts.length - (i + 1))) least _ (fun w' hk' hp'=>(zA HRD) w' ((zA HKW).trans hk') hp') (zA HPW) hn (by rw [zAA]; omega) (zA HF) res (zA HRES)
 go_region
 go_wp2_with fail
 refine HX.mono ?_
 rintro x w5 ⟨HK5,⟨h0,rfl⟩ | ⟨T,r,h1,rfl,HG5,HP5⟩⟩
 ·exact ⟨rfl,zB ((zA HKW).trans (zA HK5)),Or.inl ⟨h0,rfl⟩⟩
 ·have HR5:=zB h1
  have HK6:=zB ((zA HKW).trans (zA HK5))
  clear h1 HX HRES HRD HF
  go_wp2_with fail
  go_ret
  exact ⟨HK6,Or.inr ⟨_,_,zA HR5,rfl,HG5,HP5⟩⟩
theorem zK9 {ns:List OpR} {ts:List zI} (p g o c bf bb i:Nat) (least:Int) (w:World) (hpc:PC w p g o bf bb ns ts) (hp:Zb w p g o ts.length c i bf bb) (hi:i < ts.length) (hn:ts.length <= 100000) (hz:(atT ts i).t.size <= maxLen)
  (hha:za ns (atT ts i).t 1 = true) (hne:(atT ts i).t ≠ opn) (hr:zHE ns w p g o ts.length c bf bb (i + 1) (sH ns (3,(atT ts i).t) false) (sgs ns ts (i + 1) (ts.length - (i + 1))))
  (res:Option (ET × List SyR)) (hres:res = (if sLv ns (3,(atT ts i).t) < least then none else (match RD ns (sH ns (3,(atT ts i).t) false) none (sgs ns ts (i + 1) (ts.length - (i + 1))) with
   | none=>none
   | some x=>some (.node 3 0 (atT ts i).t x.1 .nil,x.2)))) (hgd:∀ T r,res = some (T,r) -> zX ns T) :
  Calls Tryz.prog 136 #[.pointer (some ⟨p,0,none⟩),.int .i64 least] w (zEP ns w p g o ts.length c bf bb res):=by
 obtain ⟨n1,n2,n3,ht,⟨m,G,hG,hB⟩,_⟩:=hpc
 obtain ⟨t0,t1,t2⟩:=ht i hi
 have HG:=zB hG
 have HP:=zB hp
 obtain ⟨q0,q1,q2,q3,q4⟩:=hp
 have hpl:=block_lt_of_cell q0
 have hgl:=block_lt_of_cell t0
 simp only at hpl hgl
 have hpn:p ≠ w.heap.size:=by omega
 have hgn:g ≠ w.heap.size:=by omega
 obtain ⟨ba,bp,bh,hg0,m1,m2,m3,k1,k2,k3⟩:=(hB.2 _ hne).2 hha
 have HNO:=zB hg0
 have HCE:=zB (And.intro k1 (And.intro k2 k3))
 have HRD:=zB hr
 have HRES:=zB hres
 have HGD:=zB hgd
 clear hr hres hgd k1 k2 k3 hg0
 clear hG hB
 go_enter Tryz.func136,Tryz.ntmps136
 go_wp2_with fail
 go_region
 go_wp2_with fail
 have HKW:=zB (show zE w (((w.setCell ⟨p,1,none⟩ (.int .i64 ((i:Int) + 1))).alloc (.cells #[.int .i64 (atT ts i).k,.string (atT ts i).g,.string (atT ts i).t] 97)).drew).drew p from (zE.setP _).trans (zE.of_below (((zC _ _).drew).drew)))
 have e1:((i + 1:Nat):Int) = (i:Int) + 1:=by omega
 have HPW:=(zA HP).set (i + 1)
 rw [e1] at HPW
 replace HPW:=zB (HPW.below (((zC _ (.cells #[.int .i64 (atT ts i).k,.string (atT ts i).g,.string (atT ts i).t] 97)).drew).drew))
 have hlk:=((zA HG).kept (zA HKW).grown (fun e=>n2 (by injection e))).look (ty:=154) (e:=159) (z:=.nilFunc) Tryz.underlying154 (by kernel_rfl) hz
 rw [zA HNO] at hlk
 simp only [Option.getD,Option.isSome] at hlk
 clear HG HP q0 q1 q2 q3 q4 ht t0 t1 t2
 obtain ⟨w0,w1,w2,w3,w4⟩:=zA HPW
 have HX:=zMO p g o ts.length c bf bb (i + 1) (atT ts i).t (sgs ns ts (i + 1) (ts.length - (i + 1))) least _ ba bp bh m1 m2 m3 (zCy hha (by decide)) (fun w' hk' hp'=>(zA HRD) w' ((zA HKW).trans hk') hp') (zA HPW) ((zA HCE).1.kept (zA HKW) m1) (((zA HKW).cell (block_lt_of_cell (zA HCE).2.1) m2 0).trans (zA HCE).2.1) (((zA HKW).cell (block_lt_of_cell (zA HCE).2.2) m3 0).trans (zA HCE).2.2) res (zA HRES) (zA HGD)
 go_region
 go_wp2_with fail
 refine HX.mono ?_
 rintro x w5 ⟨HK5,⟨h0,rfl⟩ | ⟨T,r,h1,rfl,HG5,HP5⟩⟩
 ·exact ⟨rfl,zB ((zA HKW).trans (zA HK5)),Or.inl ⟨h0,rfl⟩⟩
 ·have HR5:=zB h1
  have HK6:=zB ((zA HKW).trans (zA HK5))
  clear h1 HX HRES HRD HGD HCE
  go_wp2_with fail
  go_ret
  exact ⟨HK6,Or.inr ⟨_,_,zA HR5,rfl,HG5,HP5⟩⟩
structure zMT (ns:List OpR) (ts:List zI):Prop where
 code:zM ns 0
 all:∀ i,i < ts.length -> Zl ns (zBB ns ts i,zA1 ts i) (sgs ns ts i (ts.length - i))
 role:∀ i,i < ts.length -> 0 <= zP ns ts i
 tok:∀ i,i < ts.length -> zHA ns (atT ts i)
 size:∀ i,i < ts.length -> (atT ts i).t.size <= maxLen
 len:ts.length <= 100000
theorem zDL {ns:List OpR} {ts:List zI} {i:Nat} (hi:i < ts.length):sgs ns ts i (ts.length - i) = sgT ns ts i :: sgs ns ts (i + 1) (ts.length - (i + 1)):=by
 have e:ts.length - i = ts.length - (i + 1) + 1:=by omega
 rw [e,zDJ]
theorem zH2 {ns:List OpR} {ts:List zI} {i:Nat} {st:Bool × Nat} (h:Zl ns st (sgs ns ts i (ts.length - i))):i < ts.length:=by
 by_cases hi:i < ts.length
 ·exact hi
 ·have e:ts.length - i = 0:=by omega
  rw [e] at h
  exact (zBz h).elim
def zH3 (ns:List OpR) (ts:List zI) (p g o c bf bb:Nat) (m:Nat):Prop:=
 ∀ (i d:Nat) (least:Int) (w:World),ts.length - i < m -> least <= 1001 -> Zl ns (false,d) (sgs ns ts i (ts.length - i)) -> PC w p g o bf bb ns ts -> Zb w p g o ts.length c i bf bb ->
  Calls Tryz.prog 86 #[.pointer (some ⟨p,0,none⟩),.int .i64 least] w (zEP ns w p g o ts.length c bf bb (RD ns least none (sgs ns ts i (ts.length - i))))
theorem zLA {ns:List OpR} {ts:List zI} (hF:zMT ns ts) {p g o c bf bb:Nat} (i d:Nat) (least:Int) (w:World) (hs:zH3 ns ts p g o c bf bb (ts.length - i)) (hl:least <= 1001) (hf:Zl ns (false,d) (sgs ns ts i (ts.length - i))) (hpc:PC w p g o bf bb ns ts) (hp:Zb w p g o ts.length c i bf bb) :
  Calls Tryz.prog 136 #[.pointer (some ⟨p,0,none⟩),.int .i64 least] w (zEP ns w p g o ts.length c bf bb (zEr ns least (sgT ns ts i) (sgs ns ts (i + 1) (ts.length - (i + 1))))):=by
 have hi:=zH2 hf
 have hb:zBB ns ts i = false:=zKa (hF.all i hi) hf
 have hf':=hf
 rw [zDL hi] at hf'
 have hrd:∀ (d':Nat) (l':Int),l' <= 1001 -> Zl ns (false,d') (sgs ns ts (i + 1) (ts.length - (i + 1))) -> zHE ns w p g o ts.length c bf bb (i + 1) l' (sgs ns ts (i + 1) (ts.length - (i + 1))):=
  fun d' l' hl' hf'' w' hk' hp'=>hs (i + 1) d' l' w' (by omega) hl' hf'' (hpc.kept hk') hp'
 have hgd:∀ T r,zEr ns least (sgT ns ts i) (sgs ns ts (i + 1) (ts.length - (i + 1))) = some (T,r) -> zX ns T:=fun T r h=>(zHD hF.code hl hf' h).2.1
 rcases zK6 (hF.role i hi) hb (hF.tok i hi) with ⟨hk,hno,hne,hsg⟩ | ⟨hk,hha,hne,hsg⟩ | ⟨hk,hop,hsg⟩
 ·have:=zJo p g o c bf bb i least w hpc hp hi hF.len (hF.size i hi) hk hno hne
  have e:zEr ns least (sgT ns ts i) (sgs ns ts (i + 1) (ts.length - (i + 1))) = some (.node (atT ts i).k.toNat 0 (atT ts i).t .nil .nil,sgs ns ts (i + 1) (ts.length - (i + 1))):=by
   rw [hsg]
   unfold zEr
   rw [if_neg (by simp only; omega),if_neg (by simp only; omega)]
  rw [e]
  exact this
 ·have hk3:knB ns (3,(atT ts i).t) = true:=zCy hha (by decide)
  refine zK9 p g o c bf bb i least w hpc hp hi hF.len (hF.size i hi) hha hne (hrd d _ ?_ ?_) _ ?_ hgd
  ·exact (zEO hF.code (s:=(3,(atT ts i).t)) (Or.inl rfl) hk3).1
  ·rw [hsg] at hf'
   rcases zB0 hf' with ⟨x,_⟩ | ⟨_,_,x⟩ | ⟨x,_⟩
   ·simp at x
   ·exact x
   ·simp at x
  ·rw [hsg]
   unfold zEr
   rw [if_pos rfl]
   rfl
 ·have hfo:Zl ns (false,d + 1) (sgs ns ts (i + 1) (ts.length - (i + 1))):=by
   rw [hsg] at hf'
   rcases zB0 hf' with ⟨x,_⟩ | ⟨x,_,_⟩ | ⟨_,x⟩
   ·simp at x
   ·simp at x
   ·exact x
  refine zJp hF.code p g o c bf bb i d least w hpc hp hi hF.len (hF.size i hi) hop hfo (hrd (d + 1) 0 (by omega) hfo) _ ?_
  rw [hsg]
  unfold zEr
  rw [if_neg (by decide),if_pos rfl]
  rfl
end Go.Proofs.YtfboipappaonhaaGreat
namespace Go.Proofs.YtfboipappaonhaaGreat
set_option linter.unusedSimpArgs false
set_option linter.unusedVariables false
set_option maxHeartbeats 16000000
set_option maxRecDepth 100000
open Go.RowKit
theorem zBL {ns:List OpR} {s:ByteArray}:∀ (ts:List zI) (i:Nat),ZK ns s i ts -> 0 < ts.length /\ (atT ts (ts.length - 1)).k = 7
 | [],_,h=>h.elim
 | t :: out,i,h=>by
  rcases h with ⟨rfl,_,_,rfl⟩ | ⟨p,n,k,_,_,_,_,_,rfl,hr⟩
  ·exact ⟨by simp,rfl⟩
  ·obtain ⟨h1,h2⟩:=zBL out _ hr
   refine ⟨by simp,?_⟩
   have e:(⟨(k:Int),s.extract i p,s.extract p (p + n)⟩ :: out:List zI).length - 1 = (out.length - 1) + 1:=by simp; omega
   rw [e]
   exact h2
theorem zB7 {ns:List OpR} {s:ByteArray}:∀ (ts:List zI) (i:Nat),ZK ns s i ts -> ∀ j,j < ts.length -> (atT ts j).g.size <= s.size /\ (atT ts j).t.size <= s.size
 | [],_,h,_,_=>h.elim
 | t :: out,i,h,j,hj=>by
  rcases h with ⟨rfl,_,_,rfl⟩ | ⟨p,n,k,_,_,_,_,_,rfl,hr⟩
  ·have:j = 0:=by simp at hj; omega
   subst this
   refine ⟨?_,?_⟩
   ·simp [atT,ByteArray.size_extract]
   ·simp [atT]
    exact Nat.zero_le _
  ·cases j with
   | zero=>exact ⟨by simp [atT,ByteArray.size_extract]; omega,by simp [atT,ByteArray.size_extract]; omega⟩
   | succ j=>exact zB7 out _ hr j (by simpa using hj)
theorem zKb {ns:List OpR} {ts:List zI} (hf:zAu ns ts ts.length) (hl:0 < ts.length /\ (atT ts (ts.length - 1)).k = 7):∀ i,i < ts.length -> Zl ns (zBB ns ts i,zA1 ts i) (sgs ns ts i (ts.length - i)):=by
 intro i hi
 obtain ⟨hseg,hend⟩:=zHv hf hl.1 hl.2
 have e1:ts.length - 1 = i + (ts.length - 1 - i):=by omega
 have h1:sgs ns ts 0 (ts.length - 1) = sgs ns ts 0 i ++ sgs ns ts i (ts.length - 1 - i):=by
  have:=zEL ns ts 0 i (ts.length - 1 - i)
  rw [<- e1,Nat.zero_add] at this
  exact this
 have h2:sgs ns ts i (ts.length - i) = sgs ns ts i (ts.length - 1 - i) ++ [eoS]:=by
  have e2:ts.length = i + (ts.length - i):=by omega
  have h3:=zEL ns ts 0 i (ts.length - i)
  rw [<- e2,Nat.zero_add,hend,h1,List.append_assoc] at h3
  exact (List.append_cancel_left h3).symm
 refine ⟨sgs ns ts i (ts.length - 1 - i),h2,?_⟩
 unfold Seg at hseg
 rw [h1,zBZ,zHu i hi (fun j hj=>hf j (by omega))] at hseg
 exact hseg
theorem zNi {ns:List OpR} {ts:List zI} {s:ByteArray} (hv:zM ns 0) (hok:zBF ns ns.length) (hs:s.size <= 20000) (hx:ZK ns s 0 ts) (hf:zAu ns ts ts.length):zMT ns ts where
 code:=hv
 all:=zKb hf (zBL ts 0 hx)
 role:=hf
 tok:=zHt (Z6 hok) ts 0 hx
 size:=fun i hi=>by have:=(zB7 ts 0 hx i hi).2; unfold maxLen; omega
 len:=by have:=ZK.len ts 0 hx; omega
end Go.Proofs.YtfboipappaonhaaGreat
namespace Go.Proofs.YtfboipappaonhaaGreat
set_option maxHeartbeats 16000000
set_option maxRecDepth 100000
open Go.RowKit Go.Shelf
def zMU:Go.Shelf.Ren:=⟨fun | 169=>71 | n=>n,fun | 70=>135 | 9=>9 | 0=>0 | 72=>137 | 37=>22 | 127=>195 | 3=>3 | 5=>5 | n=>n,fun | n=>n⟩
theorem zNj:Go.Proofs.Lays.n169 Tryz.prog zMU:={
 mixed:=by kernel_rfl
 f169:=Tryz.func71.trans (congrArg some (by kernel_rfl))
 t0:=Tryz.underlying0
 a0:=Tryz.isAgg0
 z0:=Tryz.sizeOf0
 v0:=Tryz.zeroValue0
 t3:=Tryz.underlying3
 a3:=Tryz.isAgg3
 z3:=Tryz.sizeOf3
 v3:=Tryz.zeroValue3
 t9:=Tryz.underlying9
 a9:=Tryz.isAgg9
 z9:=Tryz.sizeOf9
 v9:=Tryz.zeroValue9
 t37:=Tryz.underlying22
 a37:=Tryz.isAgg22
 z37:=Tryz.sizeOf22
 v37:=Tryz.zeroValue22
 t70:=Tryz.underlying135
 a70:=Tryz.isAgg135
 z70:=Tryz.sizeOf135
 v70:=Tryz.zeroValue135
 t72:=Tryz.underlying137
 a72:=Tryz.isAgg137
 z72:=Tryz.sizeOf137
 v72:=Tryz.zeroValue137
 t127:=Tryz.underlying195
 a127:=Tryz.isAgg195
 z127:=Tryz.sizeOf195
 v127:=Tryz.zeroValue195 }
theorem zEQ:Builder.Extra Tryz.prog zMU:={
 sizeBuilder:=by kernel_rfl
 liesBuilder:=by kernel_rfl
 t5:=Tryz.underlying5
 a5:=Tryz.isAgg5
 z5:=Tryz.sizeOf5
 v5:=Tryz.zeroValue5
 infoByte:=by kernel_rfl
 cellsByte:=by kernel_rfl
 sizeByte:=by kernel_rfl
 neB5:=by decide }
def Bld (B b:Nat) (l:List UInt8) (w:World):Prop:=Lib.IsBuilderF 137 5 B b (cellsB l) w
theorem zGi (B b:Nat) (l:List UInt8) (w:World) (h:Bld B b l w) (hBw:B <= w.heap.size) :
  Calls Tryz.prog 71 #[.pointer (some ⟨b,0,none⟩)] w fun e w'=>e = .returned (.string ⟨l.toArray⟩) /\ Bld B b l w' /\ Below B w w' /\ Lib.OthersKept 5 (some b) w w':=
 Any.Builder_String_any_k zNj zEQ B b l w h hBw
theorem zGj (b:Nat) (w:World) (h0:w.cell? ⟨b,0,none⟩ = some (.pointer (some ⟨b,0,none⟩))) :
  Calls Tryz.prog 118 #[.pointer (some ⟨b,0,none⟩)] w fun e w'=>e = .returned (.tuple #[]) /\ w' = w:=by
 obtain ⟨j,hj,_⟩:=Option.map_eq_some_iff.1 zEQ.sizeBuilder
 go_enter Tryz.func118,Tryz.ntmps118
 go_wp2
 rw [Lib.run_neq_ptr_same w _ Tryz.underlying135 hj]
 go_wp2
 go_end0
 exact ⟨rfl,rfl⟩
theorem zF8 (b:Nat) (w:World) (h0:w.cell? ⟨b,0,none⟩ = some (.pointer none)) (hsh:w.shape? b = some (137,2)) (hfz:w.frozen? ⟨b,0,none⟩ = false) :
  Calls Tryz.prog 118 #[.pointer (some ⟨b,0,none⟩)] w fun e w'=>e = .returned (.tuple #[]) /\ w' = w.setCell ⟨b,0,none⟩ (.pointer (some ⟨b,0,none⟩)):=by
 obtain ⟨j,hj,hjs⟩:=Option.map_eq_some_iff.1 zEQ.sizeBuilder
 go_enter Tryz.func118,Tryz.ntmps118
 go_wp2
 rw [Lib.run_to_unsafe w ⟨b,0,none⟩ Tryz.underlying135 Tryz.underlying218 hj (by rw [hjs]; decide) hsh (Nat.zero_lt_succ 1)]
 simp only [Result.andThen]
 rw [Oper.upon_value]
 go_wp2
 rw [run_callFunc_extern Tryz.func155 (by kernel_rfl) (by kernel_rfl) (by kernel_rfl) (e:=Extern.AbiNoEscape.same) (by kernel_rfl)]
 rw [Lib.run_noEscape]
 simp only [Result.andThen]
 rw [Oper.upon_value]
 go_wp2
 rw [Lib.run_from_unsafe w ⟨b,0,none⟩ Tryz.underlying218 Tryz.underlying135 hj hsh zEQ.liesBuilder]
 simp only [Result.andThen]
 rw [Oper.upon_value]
 go_wp2
 go_end0
 exact ⟨rfl,rfl⟩
theorem zH4 (B b:Nat) (bs:List Value) (w:World) (h:Lib.IsBuilderF 137 5 B b bs w) :
  Calls Tryz.prog 118 #[.pointer (some ⟨b,0,none⟩)] w fun e w'=>e = .returned (.tuple #[]) /\ (Lib.BuilderAtF 137 5 B b (.pointer (some ⟨b,0,none⟩)) bs w' /\ Below B w w' /\ Lib.OthersKept 5 (some b) w w'):=by
 rcases h with h | h
 ·refine (zF8 b w h.cell0 h.shape h.frozen0).mono ?_
  rintro e w' ⟨rfl,rfl⟩
  exact ⟨rfl,h.used _,(Below.refl B w).setCell (p:=⟨b,0,none⟩) h.1 _,(Lib.OthersKept.refl _ _ w).setCell ⟨b,0,none⟩ rfl _⟩
 ·refine (zGj b w h.cell0).mono ?_
  rintro e w' ⟨rfl,rfl⟩
  exact ⟨rfl,h,Below.refl B _,Lib.OthersKept.refl _ _ _⟩
theorem zJq (s:ByteArray):Lib.strCells s = cellsB s.data.toList:=by
 rfl
theorem zER (B b:Nat) (l:List UInt8) (s:ByteArray) (w:World) (h:Bld B b l w) (hlen:l.length + s.size <= 140737488355328) (hBw:B <= w.heap.size) :
  Calls Tryz.prog 70 #[.pointer (some ⟨b,0,none⟩),.string s] w fun e w'=>(∃ v,e = .returned v) /\ Bld B b (l ++ s.data.toList) w' /\ Below B w w' /\ Lib.OthersKept 5 (some b) w w':=by
 obtain ⟨i0,hi,hz0,hz1,hz2⟩:=info_parts infoByte
 go_enter Tryz.func70,Tryz.ntmps70
 go_wp2_with fail
 refine (zH4 B b (cellsB l) _ h).mono ?_
 rintro e w1 ⟨rfl,h1,hb1,hk1⟩
 obtain ⟨hB,v,hbk,hown,hne⟩:=h1
 have hlen':(cellsB l).length + s.size <= 140737488355328:=by rw [ZI]; exact hlen
 have c0:w1.cell? ⟨b,0,none⟩ = some (.pointer (some ⟨b,0,none⟩)):=by rw [Lib.cell_of_heap hbk]; rfl
 have c1:w1.cell? ⟨b,1,none⟩ = some v:=by rw [Lib.cell_of_heap hbk]; rfl
 go_wp2_with (at_builtin; refine Lib.wpList_append_own_stringF _ rfl _ _ 22 9 rfl B 5 i0 Tryz.underlying22 Tryz.underlying9 hi hz0 hz1 hz2 _ _ _ rfl hown s rfl ?c3 ?c4 ?c5 ?_)
 case c3=>unfold maxLen; omega
 case c4=>omega
 case c5=>have:=hb1.size; omega
 intro v' w2 hown' hgrow _
 have hlt:b < w1.heap.size:=block_lt_of_cell c0
 have hb2:w2.heap[b]? = some (.cells #[.pointer (some ⟨b,0,none⟩),v] 137 (0,0)):=by
  rw [hgrow.block b hlt (fun e=>hne e.symm)]
  exact hbk
 have d0:w2.cell? ⟨b,0,none⟩ = some (.pointer (some ⟨b,0,none⟩)):=by rw [Lib.cell_of_heap hb2]; rfl
 have d1:w2.cell? ⟨b,1,none⟩ = some v:=by rw [Lib.cell_of_heap hb2]; rfl
 have f1:w2.frozen? ⟨b,1,none⟩ = false:=Lib.frozen_of_heap hb2 1
 obtain ⟨ao,n',cap,rfl⟩:∃ ao n' cap,v' = .slice ao n' cap:=by
  rcases hown'.2 with ⟨hv,_⟩ | ⟨g,cap,cur,fz,hv,_⟩
  ·exact ⟨_,_,_,hv⟩
  ·exact ⟨_,_,_,hv⟩
 go_wp2
 go_ret2
 refine ⟨⟨_,rfl⟩,?_,?_,(hk1.grown hgrow (Lib.ownsRowF_kind hown)).setCell ⟨b,1,none⟩ rfl _⟩
 ·exact Or.inr (Lib.BuilderAtF.put (T:=137) (e:=5) hB hb2 (bs':=cellsB (l ++ s.data.toList)) (by rw [zAG,<- zJq]; simpa [Lib.strCells_length] using hown') (by decide))
 ·exact (hb1.grown hgrow (by have:=hb1.size; omega) (fun k hk=>(hown.lt k hk).1)).setCell (p:=⟨b,1,none⟩) hB _
end Go.Proofs.YtfboipappaonhaaGreat
namespace Go.Proofs.YtfboipappaonhaaGreat
set_option maxHeartbeats 16000000
set_option maxRecDepth 100000
open Go.RowKit
theorem zLB (w:World):Bld w.heap.size w.heap.size [] (w.alloc (.cells #[.pointer none,.slice none 0 0] 137)):=
 Lib.IsBuilderF.of (Or.inl ⟨Nat.le_refl _,.slice none 0 0,heap_alloc_new w _,World.ownsRow_nil _ _ _ _,by simp [Value.ownBlock]⟩)
theorem Bld.alloc {B b:Nat} {l:List UInt8} {w:World} (h:Bld B b l w) (o:Obj):Bld B b l (w.alloc o):=Lib.IsBuilderF.alloc h o
theorem zOS {B b:Nat} {l:List UInt8} {w:World} (h:Bld B b l w):b < w.heap.size:=by
 rcases h with h | h
 ·exact h.lt
 ·exact h.lt
theorem zF9 (b off cap:Nat) (xs:List zI) (w:World) (hm:xs.length + ZF xs xs.length <= 1048576) (hw:zCE w b off xs) (hB:b < w.heap.size) :
  Calls Tryz.prog 130 #[.slice (some ⟨b,off,none⟩) xs.length cap] w fun e w'=>e = .returned (.string ⟨(ZZ xs xs.length).toArray⟩) /\ Below w.heap.size w w':=by
 have HW:=zB hw
 have HO:=zB (zLB w)
 clear hw
 go_enter Tryz.func130,Tryz.ntmps130
 go_wp2
 go_loopw [8] (fun i wr=>∃ k:Nat,k <= xs.length /\ i = .int .i64 (k:Int) /\ Hid (Bld w.heap.size w.heap.size (ZZ xs k) wr) /\ Below w.heap.size w wr) (fun i _=>xs.length - (intOf i).toNat)
 case atStart=>exact ⟨0,Nat.zero_le _,rfl,HO,zC _ _⟩
 case round=>
  clear HO
  obtain ⟨k,hk,rfl,hbl,hbel⟩:=hrel
  by_cases hlt:k < xs.length
  ·obtain ⟨a0,a1,a2⟩:=((zA HW) k hlt).below hbel hB
   have hnn:=zB3 xs k
   have htk:ZF xs (k + 1) <= ZF xs xs.length:=zDI xs _ _ (by omega)
   simp only [ZF,zLi] at htk
   have hl1:(ZZ xs k).length + (atT xs k).g.size <= 1048576:=by omega
   have hl2:(ZZ xs k ++ (atT xs k).g.data.toList).length + (atT xs k).t.size <= 1048576:=by
    rw [List.length_append]
    have:(atT xs k).g.data.toList.length = (atT xs k).g.size:=by simp
    omega
   have HBL:=zB ((zA hbl).alloc (.cells #[.int .i64 (atT xs k).k,.string (atT xs k).g,.string (atT xs k).t] 97))
   have L1:=zB hl1
   have L2:=zB hl2
   have hblt:=zB (show w.heap.size < wr.heap.size from zOS (zA hbl))
   clear hnn htk hl1 hl2 hbl
   go_wp2_with fail
   refine (zER _ _ _ _ _ (zA HBL) (by have:=zA L1; omega) (by have:=hbel.size; simp; omega)).mono ?_
   rintro e w1 ⟨⟨v,rfl⟩,hb1,hbe1,hk1⟩
   have HB1:=zB hb1
   have hz1:wr.heap.size < w1.heap.size:=by have:=hbe1.size; simp at this; omega
   have ht:w1.heap[wr.heap.size]? = some (.cells #[.int .i64 (atT xs k).k,.string (atT xs k).g,.string (atT xs k).t] 97 (0,0)):=hk1 _ _ (heap_alloc_new wr _) (by have:=hbel.size; simp; have:=(zA hblt); omega) (by simp)
   have q2:w1.cell? ⟨wr.heap.size,2,none⟩ = some (.string (atT xs k).t):=by rw [Lib.cell_of_heap ht]; rfl
   have hbel1:Below w.heap.size w w1:=(hbel.alloc hbel.size _).trans hbe1
   clear hb1 hk1 ht hbe1
   go_wp2_with fail
   refine (zER _ _ _ _ _ (zA HB1) (by have:=zA L2; omega) hbel1.size).mono ?_
   rintro e w2 ⟨⟨v2,rfl⟩,hb2,hbe2,_⟩
   have HB2:=zB (show Bld w.heap.size w.heap.size (ZZ xs (k + 1)) w2 from hb2)
   have hbel2:=hbel1.trans hbe2
   clear hb2 hbe2
   go_wp2
   exact ⟨⟨k + 1,by omega,by go_num,HB2,hbel2⟩,by simp [intOf]; omega⟩
  ·have HK:=zB (show k = xs.length by omega)
   go_wp2_with fail
   refine (zGi _ _ _ _ (zA hbl) hbel.size).mono ?_
   rintro e w1 ⟨rfl,_,hbe1,_⟩
   go_wp2
   go_ret
   exact ⟨zHZ (by rw [zA HK]),hbel.trans hbe1⟩
end Go.Proofs.YtfboipappaonhaaGreat
namespace Go.Proofs.YtfboipappaonhaaGreat
set_option linter.unusedSimpArgs false
set_option linter.unusedVariables false
set_option maxHeartbeats 16000000
set_option maxRecDepth 100000
open Go.RowKit
def zFJ (ts:List zI) (i:Nat):Nat:=ZF ts i + (atT ts i).g.size
theorem zGA {ts:List zI} {i j:Nat} (h:j < i):atT (ts.take i) j = atT ts j:=by
 simp [atT,List.getD,List.getElem?_take,h]
theorem zDM (ts:List zI) (i:Nat):∀ k,k <= i -> ZF (ts.take i) k = ZF ts k
 | 0,_=>rfl
 | k + 1,h=>by
  simp only [ZF]
  rw [zDM ts i k (by omega),zGA (by omega)]
theorem zES (g o c i:Nat) (ts:List zI) (w:World) (hm:ts.length + ZF ts ts.length <= 1048576) (hi:i < ts.length) (hc:ts.length <= c) (hc2:c <= maxLen) (hw:zCE w g o ts) (hB:g < w.heap.size) (hz:(atT ts i).g.size <= 1048576) :
  Calls Tryz.prog 80 #[.slice (some ⟨g,o,none⟩) ts.length c,.int .i64 (i:Int)] w fun e w'=>e = .returned (.int .i64 (zFJ ts i:Int)) /\ Below w.heap.size w w':=by
 have htl:(ts.take i).length = i:=by simp; omega
 have htm:=zDI ts i ts.length (by omega)
 have hdr:Below w.heap.size w w.drew:=(Below.refl _ _).drew
 have HX:=zF9 g o c (ts.take i) w.drew (by rw [htl,zDM ts i i (Nat.le_refl _)]; omega) (fun j hj=>by
  rw [htl] at hj
  have h:=(hw j (by omega)).below hdr hB
  unfold zDo at h ⊢
  rw [zGA hj]
  exact h) hB
 rw [htl] at HX
 have e0:(ZZ (ts.take i) i).length = ZF ts i:=by rw [zB3,zDM ts i i (Nat.le_refl _)]
 obtain ⟨S,hS⟩:∃ S:ByteArray,S = ⟨(ZZ (ts.take i) i).toArray⟩:=⟨_,rfl⟩
 rw [<- hS] at HX
 have hSz:S.size = ZF ts i:=by rw [hS,<- e0]; simp [ByteArray.size]
 obtain ⟨k0,k1,k2⟩:=hw i hi
 have hiI:(i:Int) < (ts.length:Int):=by omega
 have HS:=zB hSz
 have HOFF:=zB (show (zFJ ts i:Int) = (S.size:Int) + ((atT ts i).g.size:Int) by unfold zFJ; rw [hSz]; omega)
 have hb1:S.size <= 1048576:=by omega
 clear hS e0 hSz htm htl hw hdr
 go_enter Tryz.func80,Tryz.ntmps80
 go_wp2_with fail
 have HBC:=zB (show Below w.heap.size w w.drew from (Below.refl _ _).drew)
 go_region_held (fun w'=>w'.cell? ⟨g,o + i * 3 + 1,none⟩ = some (.string (atT ts i).g)) (first | (go_keep; done) | exact ((zA HBC).cell (p:=⟨g,o + i * 3 + 1,none⟩) hB).trans k1)
  (first | (go_at_call 130; refine HX.mono ?_; rintro x w1 ⟨rfl,hb⟩; replace HBC:=zB ((zA HBC).trans hb); clear HX hb))
 have hwr:IntKind.i64.wrap ((S.size:Int) + ((atT ts i).g.size:Int)) = (S.size:Int) + ((atT ts i).g.size:Int):=by rw [IntKind.wrap_i64]; omega
 rw [hwr,<- zA HOFF]
 go_wp2_with fail
 go_ret
 exact ⟨rfl,zA HBC⟩
end Go.Proofs.YtfboipappaonhaaGreat
