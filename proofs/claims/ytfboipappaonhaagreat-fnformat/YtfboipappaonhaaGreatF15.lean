import Derived.Shelf.Strings.BuilderK
import Derived.Test.YtfboipappaonhaaGreatF07
import Derived.Test.YtfboipappaonhaaGreatF14
namespace Go.Proofs.YtfboipappaonhaaGreat
set_option linter.unusedSimpArgs false
set_option linter.unusedVariables false
set_option maxHeartbeats 16000000
set_option maxRecDepth 100000
open Go.RowKit Go.Maps
def zPw (ns:List OpR) (w:World) (p g o n c bf bb:Nat) (res:Option (ET×List SyR)) (x:Ending) (w':World):Prop:=
 Hid (zE w w' p)/\((res=none/\x=zJF)\/∃ T r,res=some (T,r)/\x = .returned (.tuple #[exT ns T,.bool true])/\Hid (zf ns T)/\Hid (Zi w' p g o n c (n-r.length) bf bb))
theorem zO9 {ns:List OpR} (e:Value) (t:ByteArray) (least:Int) (w:World) (ba bp bh bs:Nat) (hk:knB ns (4,t)=true) (h1:OpC w ba (opA ns (rt 4 t))) (hl:sLv ns (4,t)<least) :
  Calls Tryz.prog 133 #[e,.int .i64 least,.pointer (some ⟨ba,0,none⟩),.pointer (some ⟨bp,0,none⟩),.pointer (some ⟨bh,0,none⟩),.pointer (some ⟨bs,0,none⟩)] w fun x w'=>x = .returned (.tuple #[.nilIface,.bool false])/\w'=w:=by
 obtain ⟨a0,a1,a2,a3⟩:=h1
 rw [zDa (ns:=ns) (b:=4) (t:=t) (Or.inr (Or.inl rfl)) hk] at hl
 generalize opA ns (rt 4 t)=q at a0 a1 a2 a3 hl
 go_enter Tryz.func133,Tryz.ntmps133
 go_wp2_with fail
 exact bodyPost_ret (v:=.tuple #[.nilIface,.bool false]) (by simp [results,Tryz.results133,go_sem]) rfl ⟨rfl,rfl⟩
theorem zNs {ns:List OpR} (e:Value) (t:ByteArray) (least:Int) (w:World) (ba bp bh:Nat) (hk:knB ns (5,t)=true) (h1:OpC w ba (opA ns (rt 5 t))) (hl:sLv ns (5,t)<least) :
  Calls Tryz.prog 135 #[e,.int .i64 least,.pointer (some ⟨ba,0,none⟩),.pointer (some ⟨bp,0,none⟩),.pointer (some ⟨bh,0,none⟩)] w fun x w'=>x = .returned (.tuple #[.nilIface,.bool false])/\w'=w:=by
 obtain ⟨a0,a1,a2,a3⟩:=h1
 rw [zDa (ns:=ns) (b:=5) (t:=t) (Or.inr (Or.inr rfl)) hk] at hl
 generalize opA ns (rt 5 t)=q at a0 a1 a2 a3 hl
 go_enter Tryz.func135,Tryz.ntmps135
 go_wp2_with fail
 exact bodyPost_ret (v:=.tuple #[.nilIface,.bool false]) (by simp [results,Tryz.results135,go_sem]) rfl ⟨rfl,rfl⟩
theorem zMV {ns:List OpR} (p g o n c bf bb i:Nat) (t:ByteArray) (r:List SyR) (L:ET) (least:Int) (w:World) (ba bp bh:Nat) (na:ba≠p) (nb:bp≠p) (nh:bh≠p) (hk:knB ns (5,t)=true) (hL:zf ns L) (hi:i+1+r.length=n) (hn:n<=100000)
  (hp:Zi w p g o n c i bf bb) (h1:OpC w ba (opA ns (rt 5 t))) (h2:w.cell? ⟨bp,0,none⟩=some (.pointer (some ⟨p,0,none⟩))) (h3:w.cell? ⟨bh,0,none⟩=some (.int .i64 (sH ns (5,t) false))) (hl:least<=sLv ns (5,t))
  (res:Option (ET×List SyR)) (hres:res=(if lvT ns L<sH ns (5,t) false then none else some (.node 5 0 t L .nil,r))) (hgd:∀ T r,res=some (T,r)->zf ns T) :
  Calls Tryz.prog 135 #[exT ns L,.int .i64 least,.pointer (some ⟨ba,0,none⟩),.pointer (some ⟨bp,0,none⟩),.pointer (some ⟨bh,0,none⟩)] w (zPw ns w p g o n c bf bb res):=by
 have HT:=zKK (zKI ns L hL) p g o n c i bf bb (sH ns (5,t) false) w hp (by omega)
 have HO:=zB h1
 obtain ⟨a0,a1,a2,a3⟩:=h1
 rw [zDa (ns:=ns) (b:=5) (t:=t) (Or.inr (Or.inr rfl)) hk] at hl
 have HRES:=zB hres
 have HGD:=zB hgd
 clear hres hgd
 have HE:=zB (show exT ns (.node 5 0 t L .nil)=zBw (opA ns (rt 5 t)) (exT ns L) from rfl)
 generalize opA ns (rt 5 t)=q at a0 a1 a2 a3 hl HE HO
 generalize sH ns (5,t) false=hh at h3 HT HRES
 obtain ⟨Ty,v,he⟩:=zC8 hL
 rw [he] at HT HE ⊢
 have HI:=zB hi
 clear hp hi he
 go_enter Tryz.func135,Tryz.ntmps135
 go_wp2_with fail
 refine HT.mono ?_
 rintro x w1 ⟨HK,⟨h0,rfl⟩ | ⟨h0,rfl,HP⟩⟩
 ·exact ⟨rfl,HK,Or.inl ⟨by rw [zA HRES,if_pos h0],rfl⟩⟩
 ·have HR2:=zB (show res=some (.node 5 0 t L .nil,r) by rw [zA HRES,if_neg (by omega)])
  obtain ⟨b0,b1,b2,b3⟩:=(zA HO).kept (zA HK) na
  have HM:=zB (show i+1=n-r.length by have:=zA HI; omega)
  clear HT HRES h0 a0 a1 a2 a3
  go_wp2_with fail
  refine bodyPost_ret (v:=.tuple #[zBw q (.iface Ty v),.bool true]) (by simp [results,Tryz.results135,go_sem,zBw]) rfl ?_
  exact ⟨HK,Or.inr ⟨_,_,zA HR2,by rw [zA HE],zB ((zA HGD) _ _ (zA HR2)),by rw [<- zA HM]; exact HP⟩⟩
theorem zNt {ns:List OpR} (p g o n c bf bb i:Nat) (t:ByteArray) (r:List SyR) (L:ET) (least:Int) (w:World) (ba bp bh bs:Nat) (na:ba≠p) (nb:bp≠p) (nh:bh≠p) (nq:bs≠p) (hk:knB ns (4,t)=true) (hL:zf ns L) (hi:i<=100000)
  (hr:zIQ ns w p g o n c bf bb (i+1) (sH ns (4,t) true) r)
  (hp:Zi w p g o n c i bf bb) (h1:OpC w ba (opA ns (rt 4 t))) (h2:w.cell? ⟨bp,0,none⟩=some (.pointer (some ⟨p,0,none⟩))) (h3:w.cell? ⟨bh,0,none⟩=some (.int .i64 (sH ns (4,t) false))) (h4:w.cell? ⟨bs,0,none⟩=some (.int .i64 (sH ns (4,t) true))) (hl:least<=sLv ns (4,t))
  (res:Option (ET×List SyR)) (hres:res=(if lvT ns L<sH ns (4,t) false then none else (match RD ns (sH ns (4,t) true) none r with
   | none=>none
   | some x=>some (.node 4 0 t L x.1,x.2)))) (hgd:∀ T r,res=some (T,r)->zf ns T) :
  Calls Tryz.prog 133 #[exT ns L,.int .i64 least,.pointer (some ⟨ba,0,none⟩),.pointer (some ⟨bp,0,none⟩),.pointer (some ⟨bh,0,none⟩),.pointer (some ⟨bs,0,none⟩)] w (zPw ns w p g o n c bf bb res):=by
 have HT:=zKK (zKI ns L hL) p g o n c i bf bb (sH ns (4,t) false) w hp (by omega)
 have HO:=zB h1
 obtain ⟨a0,a1,a2,a3⟩:=h1
 rw [zDa (ns:=ns) (b:=4) (t:=t) (Or.inr (Or.inl rfl)) hk] at hl
 have HRES:=zB hres
 have HGD:=zB hgd
 have HRD:=zB hr
 clear hres hgd hr
 have HE:=zB (show ∀ T,exT ns (.node 4 0 t L T)=zDt (opA ns (rt 4 t)) (exT ns L) (exT ns T) from fun T=>rfl)
 generalize opA ns (rt 4 t)=q at a0 a1 a2 a3 hl HE HO
 generalize sH ns (4,t) false=hh at h3 HT HRES
 generalize sH ns (4,t) true=hs at h4 HRD HRES
 obtain ⟨Ty,v,he⟩:=zC8 hL
 rw [he] at HT HE ⊢
 clear hp he
 go_enter Tryz.func133,Tryz.ntmps133
 go_wp2_with fail
 refine HT.mono ?_
 rintro x w1 ⟨HK,⟨h0,rfl⟩ | ⟨h0,rfl,HP⟩⟩
 ·exact ⟨rfl,HK,Or.inl ⟨by rw [zA HRES,if_pos h0],rfl⟩⟩
 ·have hdr:=zE.of_below (g:=p) ((Below.refl w1.heap.size w1).drew)
  have HX:=(zA HRD) w1.drew ((zA HK).trans hdr) ((zA HP).below ((Below.refl w1.heap.size w1).drew))
  have HK1:=zB ((zA HK).trans hdr)
  obtain ⟨b0,b1,b2,b3⟩:=(zA HO).kept (zA HK) na
  have d2:=((zA HK).cell (block_lt_of_cell h2) nb 0).trans h2
  have d4:=((zA HK).cell (block_lt_of_cell h4) nq 0).trans h4
  have HN:=zB (show ¬ lvT ns L<hh by omega)
  clear HT HRD h0 a0 a1 a2 a3 HP hdr h2 h3 h4 HK HO
  go_wp2_with fail
  go_region_held (fun w'=>(w'.cell? ⟨ba,0,none⟩=some (.string q.s)/\w'.cell? ⟨ba,1,none⟩=some (.int .i64 q.k)/\w'.cell? ⟨ba,2,none⟩=some (.int .i64 q.l)/\w'.cell? ⟨ba,3,none⟩=some (.int .i64 q.sd))/\w'.cell? ⟨bp,0,none⟩=some (.pointer (some ⟨p,0,none⟩))/\w'.cell? ⟨bs,0,none⟩=some (.int .i64 hs)) (first | (go_keep; done) | exact ⟨(show OpC w1 ba q from ⟨b0,b1,b2,b3⟩).kept (zA HKD) na,((zA HKD).cell (block_lt_of_cell d2) nb 0).trans d2,((zA HKD).cell (block_lt_of_cell d4) nq 0).trans d4⟩)
   (first | (go_at_call 86; refine HX.mono ?_; rintro x w2 ⟨HK2,⟨h0,rfl⟩ | ⟨T,r2,h1,rfl,HG,HP⟩⟩; (focus (have hn:res=none:=(by rw [zA HRES,h0]; simp); exact ⟨rfl,zB ((zA HK1).trans (zA HK2)),Or.inl ⟨hn,rfl⟩⟩)); have HKC:=zB ((zA HK1).trans (zA HK2)); have HKD:=zB ((zE.of_below (g:=p) ((Below.refl w1.heap.size w1).drew)).trans (zA HK2)); have HR1:=zB h1; obtain ⟨Ty2,v2,he2⟩:=zC8 (zA HG); have HEX:=zB he2; rw [he2]; clear h1 he2 HX HK2 HK1))
  have HX2:=zB (show exT ns (.node 4 0 t L T)=zDt q (.iface Ty v) (.iface Ty2 v2) by rw [zA HE,zA HEX])
  have HR2:=zB (show res=some (.node 4 0 t L T,r2) by have:=zA HN; rw [zA HRES,if_neg (by omega),zA HR1])
  clear HE HEX HRES HR1
  go_wp2_with fail
  refine bodyPost_ret (v:=.tuple #[zDt q (.iface Ty v) (.iface Ty2 v2),.bool true]) (by simp [results,Tryz.results133,go_sem,zDt]) rfl ?_
  exact ⟨HKC,Or.inr ⟨_,_,zA HR2,by rw [zA HX2],zB ((zA HGD) _ _ (zA HR2)),HP⟩⟩
def zNu (w:World) (p:Nat) (ns:List OpR) (G:ByteArray->Option Value):Prop:=
 G opn=some (.func (.func 82) #[.pointer (some ⟨p,0,none⟩)] #[]) /\
 ∀ t,t≠opn->(zn ns t 1=false->G t=none)/\(zn ns t 1=true->∃ ba bp bh,G t=some (.func (.func 132) #[] #[.pointer (some ⟨ba,0,none⟩),.pointer (some ⟨bp,0,none⟩),.pointer (some ⟨bh,0,none⟩)]) /\
  ba≠p/\bp≠p/\bh≠p/\OpC w ba (opA ns (rt 3 t))/\w.cell? ⟨bp,0,none⟩=some (.pointer (some ⟨p,0,none⟩))/\w.cell? ⟨bh,0,none⟩=some (.int .i64 (sH ns (3,t) false)))
def zNv (w:World) (p:Nat) (ns:List OpR) (G:ByteArray->Option Value):Prop:=
 ∀ t,(¬ opT ns t->G t=none) /\
 (zn ns t 2=true->∃ ba bp bh bs,G t=some (.func (.func 133) #[] #[.pointer (some ⟨ba,0,none⟩),.pointer (some ⟨bp,0,none⟩),.pointer (some ⟨bh,0,none⟩),.pointer (some ⟨bs,0,none⟩)]) /\
  ba≠p/\bp≠p/\bh≠p/\bs≠p/\OpC w ba (opA ns (rt 4 t))/\w.cell? ⟨bp,0,none⟩=some (.pointer (some ⟨p,0,none⟩))/\w.cell? ⟨bh,0,none⟩=some (.int .i64 (sH ns (4,t) false))/\w.cell? ⟨bs,0,none⟩=some (.int .i64 (sH ns (4,t) true))) /\
 (zn ns t 3=true->∃ ba bp bh,G t=some (.func (.func 135) #[] #[.pointer (some ⟨ba,0,none⟩),.pointer (some ⟨bp,0,none⟩),.pointer (some ⟨bh,0,none⟩)]) /\
  ba≠p/\bp≠p/\bh≠p/\OpC w ba (opA ns (rt 5 t))/\w.cell? ⟨bp,0,none⟩=some (.pointer (some ⟨p,0,none⟩))/\w.cell? ⟨bh,0,none⟩=some (.int .i64 (sH ns (5,t) false)))
theorem zNu.kept {w w':World} {p:Nat} {ns:List OpR} {G:ByteArray->Option Value} (h:zNu w p ns G) (hk:zE w w' p):zNu w' p ns G:=by
 refine ⟨h.1,fun t ht=>⟨(h.2 t ht).1,fun hb=>?_⟩⟩
 obtain ⟨ba,bp,bh,h0,n1,n2,n3,h1,h2,h3⟩:=(h.2 t ht).2 hb
 exact ⟨ba,bp,bh,h0,n1,n2,n3,h1.kept hk n1,(hk.cell (block_lt_of_cell h2) n2 0).trans h2,(hk.cell (block_lt_of_cell h3) n3 0).trans h3⟩
theorem zNv.kept {w w':World} {p:Nat} {ns:List OpR} {G:ByteArray->Option Value} (h:zNv w p ns G) (hk:zE w w' p):zNv w' p ns G:=by
 refine fun t=>⟨(h t).1,fun hb=>?_,fun hb=>?_⟩
 ·obtain ⟨ba,bp,bh,bs,h0,n1,n2,n3,n4,h1,h2,h3,h4⟩:=(h t).2.1 hb
  exact ⟨ba,bp,bh,bs,h0,n1,n2,n3,n4,h1.kept hk n1,(hk.cell (block_lt_of_cell h2) n2 0).trans h2,(hk.cell (block_lt_of_cell h3) n3 0).trans h3,(hk.cell (block_lt_of_cell h4) n4 0).trans h4⟩
 ·obtain ⟨ba,bp,bh,h0,n1,n2,n3,h1,h2,h3⟩:=(h t).2.2 hb
  exact ⟨ba,bp,bh,h0,n1,n2,n3,h1.kept hk n1,(hk.cell (block_lt_of_cell h2) n2 0).trans h2,(hk.cell (block_lt_of_cell h3) n3 0).trans h3⟩
theorem zE.grown {w w':World} {p:Nat} (h:zE w w' p):w.grownBy w' (some p):=⟨h.os,h.tape,h.output,h.size,fun i hi hne=>h.block i hi (fun e=>hne (by rw [e]))⟩
def PC (w:World) (p g o bf bb:Nat) (ns:List OpR) (ts:List zK):Prop:=
 g≠p/\bf≠p/\bb≠p/\zCS w g o ts/\(∃ m G,zCK w bf m G/\zNu w p ns G)/\(∃ m G,zCK w bb m G/\zNv w p ns G)
theorem PC.kept {w w':World} {p g o bf bb:Nat} {ns:List OpR} {ts:List zK} (h:PC w p g o bf bb ns ts) (hk:zE w w' p):PC w' p g o bf bb ns ts:=by
 obtain ⟨n1,n2,n3,ht,⟨m,G,hG,hB⟩,⟨m',G',hG',hB'⟩⟩:=h
 refine ⟨n1,n2,n3,fun i hi=>?_,⟨m,G,hG.kept hk.grown (fun e=>n2 (by injection e)),hB.kept hk⟩,⟨m',G',hG'.kept hk.grown (fun e=>n3 (by injection e)),hB'.kept hk⟩⟩
 obtain ⟨c0,c1,c2⟩:=ht i hi
 exact ⟨(hk.cell (block_lt_of_cell c0) n1 _).trans c0,(hk.cell (block_lt_of_cell c1) n1 _).trans c1,(hk.cell (block_lt_of_cell c2) n1 _).trans c2⟩
theorem zK8 {ns:List OpR} {ts:List zK} (p g o c bf bb i:Nat) (least:Int) (w:World) (hpc:PC w p g o bf bb ns ts) (hp:Zi w p g o ts.length c i bf bb) (hi:i<ts.length) (hn:ts.length<=100000) (hz:(atT ts i).t.size<=maxLen)
  (hk:(atT ts i).k=1\/(atT ts i).k=2) (hno:¬ opT ns (atT ts i).t) (hne:(atT ts i).t≠opn) :
  Calls Tryz.prog 136 #[.pointer (some ⟨p,0,none⟩),.int .i64 least] w (zFG ns w p g o ts.length c bf bb (some (.node (atT ts i).k.toNat 0 (atT ts i).t .nil .nil,sgs ns ts (i+1) (ts.length-(i+1))))):=by
 obtain ⟨n1,n2,n3,ht,⟨m,G,hG,hB⟩,_⟩:=hpc
 obtain ⟨t0,t1,t2⟩:=ht i hi
 have HG:=zB hG
 have HP:=zB hp
 obtain ⟨q0,q1,q2,q3,q4⟩:=hp
 have hpl:=block_lt_of_cell q0
 have hgl:=block_lt_of_cell t0
 simp only at hpl hgl
 have hpn:p≠w.heap.size:=by omega
 have hgn:g≠w.heap.size:=by omega
 have HNO:=zB (show G (atT ts i).t=none from (hB.2 _ hne).1 (by
  cases h:zn ns (atT ts i).t 1 with
  | false=>rfl
  | true=>
   obtain ⟨j,hj,e1,_⟩:=(ZQ _ _ _).1 h
   exact absurd ⟨j,hj,e1⟩ hno))
 clear hG hB
 go_enter Tryz.func136,Tryz.ntmps136
 go_wp2_with fail
 go_region
 go_wp2_with fail
 have HKW:=zB (show zE w (((w.setCell ⟨p,1,none⟩ (.int .i64 ((i:Int)+1))).alloc (.cells #[.int .i64 (atT ts i).k,.string (atT ts i).g,.string (atT ts i).t] 97)).drew).drew p from (zE.setP _).trans (zE.of_below (((zC _ _).drew).drew)))
 have e1:((i+1:Nat):Int)=(i:Int)+1:=by omega
 have HPW:=(zA HP).set (i+1)
 rw [e1] at HPW
 replace HPW:=zB (HPW.below (((zC _ (.cells #[.int .i64 (atT ts i).k,.string (atT ts i).g,.string (atT ts i).t] 97)).drew).drew))
 have hlk:=((zA HG).kept (zA HKW).grown (fun e=>n2 (by injection e))).look (ty:=154) (e:=159) (z:=.nilFunc) Tryz.underlying154 (by kernel_rfl) hz
 rw [zA HNO] at hlk
 simp only [Option.getD,Option.isSome] at hlk
 clear HG HP q0 q1 q2 q3 q4 ht t0 t1 t2
 obtain ⟨w0,w1,w2,w3,w4⟩:=zA HPW
 have HEND:=zB (show ts.length-(sgs ns ts (i+1) (ts.length-(i+1))).length=i+1 by rw [zAD]; omega)
 rcases hk with hk1 | hk1
 ·have hb:((atT ts i).k==1)=true:=by rw [hk1]; rfl
  have HN:=zB (show (atT ts i).k.toNat=1 by rw [hk1]; rfl)
  clear hk1
  go_region
  go_wp2_with fail
  go_ret
  refine ⟨HKW,Or.inr ⟨_,_,rfl,?_,?_,?_⟩⟩
  ·rw [zA HN]; rfl
  ·rw [zA HN]; exact zB ⟨rfl,Or.inl ⟨Or.inl rfl,rfl,rfl⟩⟩
  ·rw [zA HEND]; exact HPW
 ·have hb:((atT ts i).k==1)=false:=by rw [hk1]; rfl
  have HN:=zB (show (atT ts i).k.toNat=2 by rw [hk1]; rfl)
  clear hk1
  go_region
  go_wp2_with fail
  go_ret
  refine ⟨HKW,Or.inr ⟨_,_,rfl,?_,?_,?_⟩⟩
  ·rw [zA HN]; rfl
  ·rw [zA HN]; exact zB ⟨rfl,Or.inl ⟨Or.inr rfl,rfl,rfl⟩⟩
  ·rw [zA HEND]; exact HPW
theorem zK9 {ns:List OpR} {ts:List zK} (hv:zM ns 0) (p g o c bf bb i d:Nat) (least:Int) (w:World) (hpc:PC w p g o bf bb ns ts) (hp:Zi w p g o ts.length c i bf bb) (hi:i<ts.length) (hn:ts.length<=100000) (hz:(atT ts i).t.size<=maxLen)
  (hop:(atT ts i).t=opn) (hf:Zt ns (false,d+1) (sgs ns ts (i+1) (ts.length-(i+1)))) (hr:zIQ ns w p g o ts.length c bf bb (i+1) 0 (sgs ns ts (i+1) (ts.length-(i+1))))
  (res:Option (ET×List SyR)) (hres:res=(match RD ns 0 none (sgs ns ts (i+1) (ts.length-(i+1))) with
   | none=>none
   | some x=>some (.node 6 0 ByteArray.empty x.1 .nil,x.2.tail))) :
  Calls Tryz.prog 136 #[.pointer (some ⟨p,0,none⟩),.int .i64 least] w (zFG ns w p g o ts.length c bf bb res):=by
 obtain ⟨n1,n2,n3,ht,⟨m,G,hG,hB⟩,_⟩:=hpc
 obtain ⟨t0,t1,t2⟩:=ht i hi
 have HG:=zB hG
 have HP:=zB hp
 obtain ⟨q0,q1,q2,q3,q4⟩:=hp
 have hpl:=block_lt_of_cell q0
 have hgl:=block_lt_of_cell t0
 simp only at hpl hgl
 have hpn:p≠w.heap.size:=by omega
 have hgn:g≠w.heap.size:=by omega
 have HNO:=zB (show G (atT ts i).t=some (.func (.func 82) #[.pointer (some ⟨p,0,none⟩)] #[]) by rw [hop]; exact hB.1)
 have HF:=zB hf
 have HRD:=zB hr
 have HRES:=zB hres
 clear hf hr hres hop
 clear hG hB
 go_enter Tryz.func136,Tryz.ntmps136
 go_wp2_with fail
 go_region
 go_wp2_with fail
 have HKW:=zB (show zE w (((w.setCell ⟨p,1,none⟩ (.int .i64 ((i:Int)+1))).alloc (.cells #[.int .i64 (atT ts i).k,.string (atT ts i).g,.string (atT ts i).t] 97)).drew).drew p from (zE.setP _).trans (zE.of_below (((zC _ _).drew).drew)))
 have e1:((i+1:Nat):Int)=(i:Int)+1:=by omega
 have HPW:=(zA HP).set (i+1)
 rw [e1] at HPW
 replace HPW:=zB (HPW.below (((zC _ (.cells #[.int .i64 (atT ts i).k,.string (atT ts i).g,.string (atT ts i).t] 97)).drew).drew))
 have hlk:=((zA HG).kept (zA HKW).grown (fun e=>n2 (by injection e))).look (ty:=154) (e:=159) (z:=.nilFunc) Tryz.underlying154 (by kernel_rfl) hz
 rw [zA HNO] at hlk
 simp only [Option.getD,Option.isSome] at hlk
 clear HG HP q0 q1 q2 q3 q4 ht t0 t1 t2
 obtain ⟨w0,w1,w2,w3,w4⟩:=zA HPW
 have HX:=zK7 hv p g o ts.length c bf bb (i+1) d (sgs ns ts (i+1) (ts.length-(i+1))) least _ (fun w' hk' hp'=>(zA HRD) w' ((zA HKW).trans hk') hp') (zA HPW) hn (by rw [zAD]; omega) (zA HF) res (zA HRES)
 go_region
 go_wp2_with fail
 refine HX.mono ?_
 rintro x w5 ⟨HK5,⟨h0,rfl⟩ | ⟨T,r,h1,rfl,HG5,HP5⟩⟩
 ·exact ⟨rfl,zB ((zA HKW).trans (zA HK5)),Or.inl ⟨h0,rfl⟩⟩
 ·have HR5:=zB h1
  have HK6:=zB ((zA HKW).trans (zA HK5))
  clear h1 HX HRES HRD HF
  go_wp2_with fail
  go_ret
  exact ⟨HK6,Or.inr ⟨_,_,zA HR5,rfl,HG5,HP5⟩⟩
theorem zMW {ns:List OpR} {ts:List zK} (p g o c bf bb i:Nat) (least:Int) (w:World) (hpc:PC w p g o bf bb ns ts) (hp:Zi w p g o ts.length c i bf bb) (hi:i<ts.length) (hn:ts.length<=100000) (hz:(atT ts i).t.size<=maxLen)
  (hha:zn ns (atT ts i).t 1=true) (hne:(atT ts i).t≠opn) (hr:zIQ ns w p g o ts.length c bf bb (i+1) (sH ns (3,(atT ts i).t) false) (sgs ns ts (i+1) (ts.length-(i+1))))
  (res:Option (ET×List SyR)) (hres:res=(if sLv ns (3,(atT ts i).t)<least then none else (match RD ns (sH ns (3,(atT ts i).t) false) none (sgs ns ts (i+1) (ts.length-(i+1))) with
   | none=>none
   | some x=>some (.node 3 0 (atT ts i).t x.1 .nil,x.2)))) (hgd:∀ T r,res=some (T,r)->zf ns T) :
  Calls Tryz.prog 136 #[.pointer (some ⟨p,0,none⟩),.int .i64 least] w (zFG ns w p g o ts.length c bf bb res):=by
 obtain ⟨n1,n2,n3,ht,⟨m,G,hG,hB⟩,_⟩:=hpc
 obtain ⟨t0,t1,t2⟩:=ht i hi
 have HG:=zB hG
 have HP:=zB hp
 obtain ⟨q0,q1,q2,q3,q4⟩:=hp
 have hpl:=block_lt_of_cell q0
 have hgl:=block_lt_of_cell t0
 simp only at hpl hgl
 have hpn:p≠w.heap.size:=by omega
 have hgn:g≠w.heap.size:=by omega
 obtain ⟨ba,bp,bh,hg0,m1,m2,m3,k1,k2,k3⟩:=(hB.2 _ hne).2 hha
 have HNO:=zB hg0
 have HCE:=zB (And.intro k1 (And.intro k2 k3))
 have HRD:=zB hr
 have HRES:=zB hres
 have HGD:=zB hgd
 clear hr hres hgd k1 k2 k3 hg0
 clear hG hB
 go_enter Tryz.func136,Tryz.ntmps136
 go_wp2_with fail
 go_region
 go_wp2_with fail
 have HKW:=zB (show zE w (((w.setCell ⟨p,1,none⟩ (.int .i64 ((i:Int)+1))).alloc (.cells #[.int .i64 (atT ts i).k,.string (atT ts i).g,.string (atT ts i).t] 97)).drew).drew p from (zE.setP _).trans (zE.of_below (((zC _ _).drew).drew)))
 have e1:((i+1:Nat):Int)=(i:Int)+1:=by omega
 have HPW:=(zA HP).set (i+1)
 rw [e1] at HPW
 replace HPW:=zB (HPW.below (((zC _ (.cells #[.int .i64 (atT ts i).k,.string (atT ts i).g,.string (atT ts i).t] 97)).drew).drew))
 have hlk:=((zA HG).kept (zA HKW).grown (fun e=>n2 (by injection e))).look (ty:=154) (e:=159) (z:=.nilFunc) Tryz.underlying154 (by kernel_rfl) hz
 rw [zA HNO] at hlk
 simp only [Option.getD,Option.isSome] at hlk
 clear HG HP q0 q1 q2 q3 q4 ht t0 t1 t2
 obtain ⟨w0,w1,w2,w3,w4⟩:=zA HPW
 have HX:=zNr p g o ts.length c bf bb (i+1) (atT ts i).t (sgs ns ts (i+1) (ts.length-(i+1))) least _ ba bp bh m1 m2 m3 (zDX hha (by decide)) (fun w' hk' hp'=>(zA HRD) w' ((zA HKW).trans hk') hp') (zA HPW) ((zA HCE).1.kept (zA HKW) m1) (((zA HKW).cell (block_lt_of_cell (zA HCE).2.1) m2 0).trans (zA HCE).2.1) (((zA HKW).cell (block_lt_of_cell (zA HCE).2.2) m3 0).trans (zA HCE).2.2) res (zA HRES) (zA HGD)
 go_region
 go_wp2_with fail
 refine HX.mono ?_
 rintro x w5 ⟨HK5,⟨h0,rfl⟩ | ⟨T,r,h1,rfl,HG5,HP5⟩⟩
 ·exact ⟨rfl,zB ((zA HKW).trans (zA HK5)),Or.inl ⟨h0,rfl⟩⟩
 ·have HR5:=zB h1
  have HK6:=zB ((zA HKW).trans (zA HK5))
  clear h1 HX HRES HRD HGD HCE
  go_wp2_with fail
  go_ret
  exact ⟨HK6,Or.inr ⟨_,_,zA HR5,rfl,HG5,HP5⟩⟩
structure zNw (ns:List OpR) (ts:List zK):Prop where
 code:zM ns 0
 all:∀ i,i<ts.length->Zt ns (zBL ns ts i,zBG ts i) (sgs ns ts i (ts.length-i))
 role:∀ i,i<ts.length->0<=zV ns ts i
 tok:∀ i,i<ts.length->zIM ns (atT ts i)
 size:∀ i,i<ts.length->(atT ts i).t.size<=maxLen
 len:ts.length<=100000
theorem zDy {ns:List OpR} {ts:List zK} {i:Nat} (hi:i<ts.length):sgs ns ts i (ts.length-i)=sgT ns ts i::sgs ns ts (i+1) (ts.length-(i+1)):=by
 have e:ts.length-i=ts.length-(i+1)+1:=by omega
 rw [e,zDw]
theorem zJG {ns:List OpR} {ts:List zK} {i:Nat} {st:Bool×Nat} (h:Zt ns st (sgs ns ts i (ts.length-i))):i<ts.length:=by
 by_cases hi:i<ts.length
 ·exact hi
 ·have e:ts.length-i=0:=by omega
  rw [e] at h
  exact (zCD h).elim
def zJH (ns:List OpR) (ts:List zK) (p g o c bf bb:Nat) (m:Nat):Prop:=
 ∀ (i d:Nat) (least:Int) (w:World),ts.length-i<m->least<=1001->Zt ns (false,d) (sgs ns ts i (ts.length-i))->PC w p g o bf bb ns ts->Zi w p g o ts.length c i bf bb ->
  Calls Tryz.prog 86 #[.pointer (some ⟨p,0,none⟩),.int .i64 least] w (zFG ns w p g o ts.length c bf bb (RD ns least none (sgs ns ts i (ts.length-i))))
theorem zMX {ns:List OpR} {ts:List zK} (hF:zNw ns ts) {p g o c bf bb:Nat} (i d:Nat) (least:Int) (w:World) (hs:zJH ns ts p g o c bf bb (ts.length-i)) (hl:least<=1001) (hf:Zt ns (false,d) (sgs ns ts i (ts.length-i))) (hpc:PC w p g o bf bb ns ts) (hp:Zi w p g o ts.length c i bf bb) :
  Calls Tryz.prog 136 #[.pointer (some ⟨p,0,none⟩),.int .i64 least] w (zFG ns w p g o ts.length c bf bb (zFl ns least (sgT ns ts i) (sgs ns ts (i+1) (ts.length-(i+1))))):=by
 have hi:=zJG hf
 have hb:zBL ns ts i=false:=zLx (hF.all i hi) hf
 have hf':=hf
 rw [zDy hi] at hf'
 have hrd:∀ (d':Nat) (l':Int),l'<=1001->Zt ns (false,d') (sgs ns ts (i+1) (ts.length-(i+1)))->zIQ ns w p g o ts.length c bf bb (i+1) l' (sgs ns ts (i+1) (ts.length-(i+1))):=
  fun d' l' hl' hf'' w' hk' hp'=>hs (i+1) d' l' w' (by omega) hl' hf'' (hpc.kept hk') hp'
 have hgd:∀ T r,zFl ns least (sgT ns ts i) (sgs ns ts (i+1) (ts.length-(i+1)))=some (T,r)->zf ns T:=fun T r h=>(zIP hF.code hl hf' h).2.1
 rcases zMT (hF.role i hi) hb (hF.tok i hi) with ⟨hk,hno,hne,hsg⟩ | ⟨hk,hha,hne,hsg⟩ | ⟨hk,hop,hsg⟩
 ·have:=zK8 p g o c bf bb i least w hpc hp hi hF.len (hF.size i hi) hk hno hne
  have e:zFl ns least (sgT ns ts i) (sgs ns ts (i+1) (ts.length-(i+1)))=some (.node (atT ts i).k.toNat 0 (atT ts i).t .nil .nil,sgs ns ts (i+1) (ts.length-(i+1))):=by
   rw [hsg]
   unfold zFl
   rw [if_neg (by simp only; omega),if_neg (by simp only; omega)]
  rw [e]
  exact this
 ·have hk3:knB ns (3,(atT ts i).t)=true:=zDX hha (by decide)
  refine zMW p g o c bf bb i least w hpc hp hi hF.len (hF.size i hi) hha hne (hrd d _ ?_ ?_) _ ?_ hgd
  ·exact (zFF hF.code (s:=(3,(atT ts i).t)) (Or.inl rfl) hk3).1
  ·rw [hsg] at hf'
   rcases zCE hf' with ⟨x,_⟩ | ⟨_,_,x⟩ | ⟨x,_⟩
   ·simp at x
   ·exact x
   ·simp at x
  ·rw [hsg]
   unfold zFl
   rw [if_pos rfl]
   rfl
 ·have hfo:Zt ns (false,d+1) (sgs ns ts (i+1) (ts.length-(i+1))):=by
   rw [hsg] at hf'
   rcases zCE hf' with ⟨x,_⟩ | ⟨x,_,_⟩ | ⟨_,x⟩
   ·simp at x
   ·simp at x
   ·exact x
  refine zK9 hF.code p g o c bf bb i d least w hpc hp hi hF.len (hF.size i hi) hop hfo (hrd (d+1) 0 (by omega) hfo) _ ?_
  rw [hsg]
  unfold zFl
  rw [if_neg (by decide),if_pos rfl]
  rfl
end Go.Proofs.YtfboipappaonhaaGreat
namespace Go.Proofs.YtfboipappaonhaaGreat
set_option linter.unusedSimpArgs false
set_option linter.unusedVariables false
set_option maxHeartbeats 16000000
set_option maxRecDepth 100000
open Go.RowKit
theorem zA3 {ns:List OpR} {s:ByteArray}:∀ (ts:List zK) (i:Nat),ZR ns s i ts->0<ts.length/\(atT ts (ts.length-1)).k=7
 | [],_,h=>h.elim
 | t::out,i,h=>by
  rcases h with ⟨rfl,_,_,rfl⟩ | ⟨p,n,k,_,_,_,_,_,rfl,hr⟩
  ·exact ⟨by simp,rfl⟩
  ·obtain ⟨h1,h2⟩:=zA3 out _ hr
   refine ⟨by simp,?_⟩
   have e:(⟨(k:Int),s.extract i p,s.extract p (p+n)⟩::out:List zK).length-1=(out.length-1)+1:=by simp; omega
   rw [e]
   exact h2
theorem zBX {ns:List OpR} {s:ByteArray}:∀ (ts:List zK) (i:Nat),ZR ns s i ts->∀ j,j<ts.length->(atT ts j).g.size<=s.size/\(atT ts j).t.size<=s.size
 | [],_,h,_,_=>h.elim
 | t::out,i,h,j,hj=>by
  rcases h with ⟨rfl,_,_,rfl⟩ | ⟨p,n,k,_,_,_,_,_,rfl,hr⟩
  ·have:j=0:=by simp at hj; omega
   subst this
   refine ⟨?_,?_⟩
   ·simp [atT,ByteArray.size_extract]
   ·simp [atT]
    exact Nat.zero_le _
  ·cases j with
   | zero=>exact ⟨by simp [atT,ByteArray.size_extract]; omega,by simp [atT,ByteArray.size_extract]; omega⟩
   | succ j=>exact zBX out _ hr j (by simpa using hj)
theorem zJI {ns:List OpR} {ts:List zK} (hf:zBB ns ts ts.length) (hl:0<ts.length/\(atT ts (ts.length-1)).k=7):∀ i,i<ts.length->Zt ns (zBL ns ts i,zBG ts i) (sgs ns ts i (ts.length-i)):=by
 intro i hi
 obtain ⟨hseg,hend⟩:=zI9 hf hl.1 hl.2
 have e1:ts.length-1=i+(ts.length-1-i):=by omega
 have h1:sgs ns ts 0 (ts.length-1)=sgs ns ts 0 i++sgs ns ts i (ts.length-1-i):=by
  have:=zFD ns ts 0 i (ts.length-1-i)
  rw [<- e1,Nat.zero_add] at this
  exact this
 have h2:sgs ns ts i (ts.length-i)=sgs ns ts i (ts.length-1-i)++[eoS]:=by
  have e2:ts.length=i+(ts.length-i):=by omega
  have h3:=zFD ns ts 0 i (ts.length-i)
  rw [<- e2,Nat.zero_add,hend,h1,List.append_assoc] at h3
  exact (List.append_cancel_left h3).symm
 refine ⟨sgs ns ts i (ts.length-1-i),h2,?_⟩
 unfold Seg at hseg
 rw [h1,zBm,zI8 i hi (fun j hj=>hf j (by omega))] at hseg
 exact hseg
theorem zPA {ns:List OpR} {ts:List zK} {s:ByteArray} (hv:zM ns 0) (hok:zBF ns ns.length) (hs:s.size<=20000) (hx:ZR ns s 0 ts) (hf:zBB ns ts ts.length):zNw ns ts where
 code:=hv
 all:=zJI hf (zA3 ts 0 hx)
 role:=hf
 tok:=zI7 (zAL hok) ts 0 hx
 size:=fun i hi=>by have:=(zBX ts 0 hx i hi).2; unfold maxLen; omega
 len:=by have:=ZR.len ts 0 hx; omega
end Go.Proofs.YtfboipappaonhaaGreat
namespace Go.Proofs.YtfboipappaonhaaGreat
set_option maxHeartbeats 16000000
set_option maxRecDepth 100000
open Go.RowKit Go.Shelf
def zNx:Go.Shelf.Ren:=⟨fun | 169=>71 | n=>n,fun | 70=>135 | 9=>9 | 0=>0 | 72=>137 | 37=>22 | 127=>195 | 3=>3 | 5=>5 | n=>n,fun | n=>n⟩
theorem zPB:Go.Proofs.Lays.n169 Tryz.prog zNx:={
 mixed:=by kernel_rfl
 f169:=Tryz.func71.trans (congrArg some (by kernel_rfl))
 t0:=Tryz.underlying0
 a0:=Tryz.isAgg0
 z0:=Tryz.sizeOf0
 v0:=Tryz.zeroValue0
 t3:=Tryz.underlying3
 a3:=Tryz.isAgg3
 z3:=Tryz.sizeOf3
 v3:=Tryz.zeroValue3
 t9:=Tryz.underlying9
 a9:=Tryz.isAgg9
 z9:=Tryz.sizeOf9
 v9:=Tryz.zeroValue9
 t37:=Tryz.underlying22
 a37:=Tryz.isAgg22
 z37:=Tryz.sizeOf22
 v37:=Tryz.zeroValue22
 t70:=Tryz.underlying135
 a70:=Tryz.isAgg135
 z70:=Tryz.sizeOf135
 v70:=Tryz.zeroValue135
 t72:=Tryz.underlying137
 a72:=Tryz.isAgg137
 z72:=Tryz.sizeOf137
 v72:=Tryz.zeroValue137
 t127:=Tryz.underlying195
 a127:=Tryz.isAgg195
 z127:=Tryz.sizeOf195
 v127:=Tryz.zeroValue195 }
theorem zFH:Builder.Extra Tryz.prog zNx:={
 sizeBuilder:=by kernel_rfl
 liesBuilder:=by kernel_rfl
 t5:=Tryz.underlying5
 a5:=Tryz.isAgg5
 z5:=Tryz.sizeOf5
 v5:=Tryz.zeroValue5
 infoByte:=by kernel_rfl
 cellsByte:=by kernel_rfl
 sizeByte:=by kernel_rfl
 neB5:=by decide }
def Bld (B b:Nat) (l:List UInt8) (w:World):Prop:=Lib.IsBuilderF 137 5 B b (cellsB l) w
theorem zHu (B b:Nat) (l:List UInt8) (w:World) (h:Bld B b l w) (hBw:B<=w.heap.size) :
  Calls Tryz.prog 71 #[.pointer (some ⟨b,0,none⟩)] w fun e w'=>e = .returned (.string ⟨l.toArray⟩)/\Bld B b l w'/\Below B w w'/\Lib.OthersKept 5 (some b) w w':=
 Any.Builder_String_any_k zPB zFH B b l w h hBw
theorem zHv (b:Nat) (w:World) (h0:w.cell? ⟨b,0,none⟩=some (.pointer (some ⟨b,0,none⟩))) :
  Calls Tryz.prog 118 #[.pointer (some ⟨b,0,none⟩)] w fun e w'=>e = .returned (.tuple #[])/\w'=w:=by
 obtain ⟨j,hj,_⟩:=Option.map_eq_some_iff.1 zFH.sizeBuilder
 go_enter Tryz.func118,Tryz.ntmps118
 go_wp2
 rw [Lib.run_neq_ptr_same w _ Tryz.underlying135 hj]
 go_wp2
 go_end0
 exact ⟨rfl,rfl⟩
theorem zHD (b:Nat) (w:World) (h0:w.cell? ⟨b,0,none⟩=some (.pointer none)) (hsh:w.shape? b=some (137,2)) (hfz:w.frozen? ⟨b,0,none⟩=false) :
  Calls Tryz.prog 118 #[.pointer (some ⟨b,0,none⟩)] w fun e w'=>e = .returned (.tuple #[])/\w'=w.setCell ⟨b,0,none⟩ (.pointer (some ⟨b,0,none⟩)):=by
 obtain ⟨j,hj,hjs⟩:=Option.map_eq_some_iff.1 zFH.sizeBuilder
 go_enter Tryz.func118,Tryz.ntmps118
 go_wp2
 rw [Lib.run_to_unsafe w ⟨b,0,none⟩ Tryz.underlying135 Tryz.underlying218 hj (by rw [hjs]; decide) hsh (Nat.zero_lt_succ 1)]
 simp only [Result.andThen]
 rw [Oper.upon_value]
 go_wp2
 rw [run_callFunc_extern Tryz.func155 (by kernel_rfl) (by kernel_rfl) (by kernel_rfl) (e:=Extern.AbiNoEscape.same) (by kernel_rfl)]
 rw [Lib.run_noEscape]
 simp only [Result.andThen]
 rw [Oper.upon_value]
 go_wp2
 rw [Lib.run_from_unsafe w ⟨b,0,none⟩ Tryz.underlying218 Tryz.underlying135 hj hsh zFH.liesBuilder]
 simp only [Result.andThen]
 rw [Oper.upon_value]
 go_wp2
 go_end0
 exact ⟨rfl,rfl⟩
theorem zJJ (B b:Nat) (bs:List Value) (w:World) (h:Lib.IsBuilderF 137 5 B b bs w) :
  Calls Tryz.prog 118 #[.pointer (some ⟨b,0,none⟩)] w fun e w'=>e = .returned (.tuple #[])/\(Lib.BuilderAtF 137 5 B b (.pointer (some ⟨b,0,none⟩)) bs w'/\Below B w w'/\Lib.OthersKept 5 (some b) w w'):=by
 rcases h with h | h
 ·refine (zHD b w h.cell0 h.shape h.frozen0).mono ?_
  rintro e w' ⟨rfl,rfl⟩
  exact ⟨rfl,h.used _,(Below.refl B w).setCell (p:=⟨b,0,none⟩) h.1 _,(Lib.OthersKept.refl _ _ w).setCell ⟨b,0,none⟩ rfl _⟩
 ·refine (zHv b w h.cell0).mono ?_
  rintro e w' ⟨rfl,rfl⟩
  exact ⟨rfl,h,Below.refl B _,Lib.OthersKept.refl _ _ _⟩
theorem zLA (s:ByteArray):Lib.strCells s=cellsB s.data.toList:=by
 rfl
theorem zFI (B b:Nat) (l:List UInt8) (s:ByteArray) (w:World) (h:Bld B b l w) (hlen:l.length+s.size<=140737488355328) (hBw:B<=w.heap.size) :
  Calls Tryz.prog 70 #[.pointer (some ⟨b,0,none⟩),.string s] w fun e w'=>(∃ v,e = .returned v)/\Bld B b (l++s.data.toList) w'/\Below B w w'/\Lib.OthersKept 5 (some b) w w':=by
 obtain ⟨i0,hi,hz0,hz1,hz2⟩:=info_parts infoByte
 go_enter Tryz.func70,Tryz.ntmps70
 go_wp2_with fail
 refine (zJJ B b (cellsB l) _ h).mono ?_
 rintro e w1 ⟨rfl,h1,hb1,hk1⟩
 obtain ⟨hB,v,hbk,hown,hne⟩:=h1
 have hlen':(cellsB l).length+s.size<=140737488355328:=by rw [ZI]; exact hlen
 have c0:w1.cell? ⟨b,0,none⟩=some (.pointer (some ⟨b,0,none⟩)):=by rw [Lib.cell_of_heap hbk]; rfl
 have c1:w1.cell? ⟨b,1,none⟩=some v:=by rw [Lib.cell_of_heap hbk]; rfl
 go_wp2_with (at_builtin; refine Lib.wpList_append_own_stringF _ rfl _ _ 22 9 rfl B 5 i0 Tryz.underlying22 Tryz.underlying9 hi hz0 hz1 hz2 _ _ _ rfl hown s rfl ?c3 ?c4 ?c5 ?_)
 case c3=>unfold maxLen; omega
 case c4=>omega
 case c5=>have:=hb1.size; omega
 intro v' w2 hown' hgrow _
 have hlt:b<w1.heap.size:=block_lt_of_cell c0
 have hb2:w2.heap[b]?=some (.cells #[.pointer (some ⟨b,0,none⟩),v] 137 (0,0)):=by
  rw [hgrow.block b hlt (fun e=>hne e.symm)]
  exact hbk
 have d0:w2.cell? ⟨b,0,none⟩=some (.pointer (some ⟨b,0,none⟩)):=by rw [Lib.cell_of_heap hb2]; rfl
 have d1:w2.cell? ⟨b,1,none⟩=some v:=by rw [Lib.cell_of_heap hb2]; rfl
 have f1:w2.frozen? ⟨b,1,none⟩=false:=Lib.frozen_of_heap hb2 1
 obtain ⟨ao,n',cap,rfl⟩:∃ ao n' cap,v' = .slice ao n' cap:=by
  rcases hown'.2 with ⟨hv,_⟩ | ⟨g,cap,cur,fz,hv,_⟩
  ·exact ⟨_,_,_,hv⟩
  ·exact ⟨_,_,_,hv⟩
 go_wp2
 go_ret2
 refine ⟨⟨_,rfl⟩,?_,?_,(hk1.grown hgrow (Lib.ownsRowF_kind hown)).setCell ⟨b,1,none⟩ rfl _⟩
 ·exact Or.inr (Lib.BuilderAtF.put (T:=137) (e:=5) hB hb2 (bs':=cellsB (l++s.data.toList)) (by rw [ZX,<- zLA]; simpa [Lib.strCells_length] using hown') (by decide))
 ·exact (hb1.grown hgrow (by have:=hb1.size; omega) (fun k hk=>(hown.lt k hk).1)).setCell (p:=⟨b,1,none⟩) hB _
end Go.Proofs.YtfboipappaonhaaGreat
