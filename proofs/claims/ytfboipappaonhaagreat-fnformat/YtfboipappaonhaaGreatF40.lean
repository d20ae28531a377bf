import Derived.Test.YtfboipappaonhaaGreatF15
namespace Go.Proofs.YtfboipappaonhaaGreat
set_option linter.unusedSimpArgs false
set_option linter.unusedVariables false
set_option maxHeartbeats 16000000
set_option maxRecDepth 100000
open Go.RowKit Go.Maps
open Go.Deep (BT)
def atOf (w:World) (p:Nat):Nat:=match w.cell? ⟨p,1,none⟩ with
 | some v=>(intOf v).toNat
 | none=>0
theorem Zi.atOf {w:World} {p g o n c i bf bb:Nat} (h:Zi w p g o n c i bf bb):atOf w p=i:=by
 unfold Proofs.YtfboipappaonhaaGreat.atOf
 rw [h.2.1]
 simp [intOf]
def zMB (ns:List OpR) (ts:List zK) (w:World) (p g o c bf bb d:Nat) (least:Int) (res:Option (ET×List SyR)) (T:ET) (j:Nat) (wr:World):Prop:=
 zf ns T/\Zi wr p g o ts.length c j bf bb/\zE w wr p/\Zt ns (true,d) (sgs ns ts j (ts.length-j))/\least<=lvT ns T/\res=RD ns least (some T) (sgs ns ts j (ts.length-j))
theorem zPU {ns:List OpR} (hv:zM ns 0) {T T':ET} {t:ByteArray} {d:Nat} {least:Int} {r r':List SyR} (hT:zf ns T) (hf:Zt ns (false,d) r) (hk:knB ns (4,t)=true) (hl:least<=sLv ns (4,t))
  (h:(if lvT ns T<sH ns (4,t) false then none else (match RD ns (sH ns (4,t) true) none r with
   | none=>none
   | some x=>some (BT.node 4 0 t T x.1,x.2)))=some (T',r')):zf ns T'/\Zt ns (true,d) r'/\least<=lvT ns T'/\∃ a,r=a++r':=by
 by_cases hlt:lvT ns T<sH ns (4,t) false
 ·rw [if_pos hlt] at h; cases h
 ·rw [if_neg hlt] at h
  cases hy:RD ns (sH ns (4,t) true) none r with
  | none=>rw [hy] at h; cases h
  | some y=>
   rw [hy] at h
   simp only [Option.some.injEq,Prod.mk.injEq] at h
   obtain ⟨rfl,rfl⟩:=h
   obtain ⟨a1,a2,a3,_,a5⟩:=Ze hv _ _ none r d y ((zFF hv (s:=(4,t)) (Or.inr (Or.inl rfl)) hk).2 rfl) hf (fun L e=>by cases e) hy
   exact ⟨⟨rfl,Or.inr (Or.inr (Or.inr ⟨rfl,hk,hT,a2,by omega,a3⟩))⟩,a1,hl,ySy y.1,a5⟩
theorem zOX {ns:List OpR} {T T':ET} {t:ByteArray} {least:Int} {r r':List SyR} (hT:zf ns T) (hk:knB ns (5,t)=true) (hl:least<=sLv ns (5,t))
  (h:(if lvT ns T<sH ns (5,t) false then none else some (BT.node 5 0 t T .nil,r))=some (T',r')):zf ns T'/\least<=lvT ns T'/\r'=r:=by
 by_cases hlt:lvT ns T<sH ns (5,t) false
 ·rw [if_pos hlt] at h; cases h
 ·rw [if_neg hlt] at h
  simp only [Option.some.injEq,Prod.mk.injEq] at h
  obtain ⟨rfl,rfl⟩:=h
  exact ⟨⟨rfl,Or.inr (Or.inr (Or.inl ⟨Or.inr rfl,hk,hT,rfl,by omega⟩))⟩,hl,rfl⟩
theorem zMm {ns:List OpR} {ts:List zK} (hF:zNw ns ts) {p g o c bf bb:Nat} (i d:Nat) (least:Int) (w:World) (hs:zJH ns ts p g o c bf bb (ts.length-i)) (hl:least<=1001) (hf:Zt ns (false,d) (sgs ns ts i (ts.length-i))) (hpc:PC w p g o bf bb ns ts) (hp:Zi w p g o ts.length c i bf bb) (res:Option (ET×List SyR)) (hres:res=RD ns least none (sgs ns ts i (ts.length-i))) :
  Calls Tryz.prog 86 #[.pointer (some ⟨p,0,none⟩),.int .i64 least] w (zFG ns w p g o ts.length c bf bb res):=by
 have hi:=zJG hf
 have HX:=zMX hF i d least w hs hl hf hpc hp
 have HF:=zB hF
 have HS:=zB hs
 have HPC:=zB hpc
 have HRES:=zB (show res=(match zFl ns least (sgT ns ts i) (sgs ns ts (i+1) (ts.length-(i+1))) with
  | none=>none
  | some x=>RD ns least (some x.1) x.2) by rw [hres,zDy hi,zQA]; rfl)
 have HSO:=zB (show ∀ x,zFl ns least (sgT ns ts i) (sgs ns ts (i+1) (ts.length-(i+1)))=some x->Zt ns (true,d) x.2/\zf ns x.1/\least<=lvT ns x.1/\sgs ns ts i (ts.length-i)=ySy x.1++x.2/\x.2.length<ts.length-i from fun x hx=>by
  have hf':=hf
  rw [zDy hi] at hf'
  have h:=zIP hF.code hl hf' hx
  rw [<- zDy hi] at h
  refine ⟨h.1,h.2.1,h.2.2.1,h.2.2.2,?_⟩
  have e:=congrArg List.length h.2.2.2
  rw [zAD,List.length_append] at e
  have:1<=(ySy x.1).length:=Nat.le_trans (Sh.pos h.2.1.sh) (zG6 x.1 h.2.1)
  omega)
 generalize zFl ns least (sgT ns ts i) (sgs ns ts (i+1) (ts.length-(i+1)))=fr at HX HRES HSO
 clear hF hs hpc hp hres hf
 go_enter Tryz.func86,Tryz.ntmps86
 go_wp2_with fail
 refine HX.mono ?_
 clear HX
 rintro x w1 ⟨HK,⟨h0,rfl⟩ | ⟨T0,r0,h1,rfl,HG,HP⟩⟩
 ·have hn:res=none:=by rw [zA HRES,h0]
  exact ⟨rfl,HK,Or.inl ⟨hn,rfl⟩⟩
 ·have HREL:=zB (show zMB ns ts w p g o c bf bb d least res T0 (ts.length-r0.length) w1 from by
   obtain ⟨a1,a2,a3,a4,a5⟩:=(zA HSO) _ h1
   have hsu:=zEh a4
   have e:i+(ts.length-i)-r0.length=ts.length-r0.length:=by omega
   simp only [e] at hsu
   have e2:ts.length-(ts.length-r0.length)=r0.length:=by omega
   refine ⟨a2,zA HP,zA HK,?_,a3,?_⟩
   ·rw [e2,<- hsu.1]; exact a1
   ·rw [e2,<- hsu.1,zA HRES,h1])
  have hij0:i<ts.length-r0.length:=by
   have:=((zA HSO) _ h1).2.2.2.2
   simp only at this
   omega
  have HIJ:=zB hij0
  clear HK h1 HG HP HRES HSO hij0
  go_wp2_with fail
  go_loopw [5] (fun lv wr=>∃ (T:ET) (j:Nat),lv=exT ns T/\i<j/\Hid (zMB ns ts w p g o c bf bb d least res T j wr)) (fun _ wr=>ts.length-atOf wr p)
  case atStart=>exact ⟨T0,_,rfl,zA HIJ,HREL⟩
  case round=>
   clear HREL
   obtain ⟨T,j,rfl,hij,HREL⟩:=hrel
   have hdr:=zE.of_below (g:=p) ((Below.refl wr.heap.size wr).drew)
   obtain ⟨b1,b2,b3,b4,b5,b6⟩:=zA HREL
   have hj:=zJG b4
   have hb:zBL ns ts j=true:=zLx ((zA HF).all j hj) b4
   obtain ⟨n1,n2,n3,ht,_,⟨m,G,hG,hB⟩⟩:=(zA HPC).kept b3
   have HPW:=zB ((zA HPC).kept (b3.trans hdr))
   obtain ⟨t0,t1,t2⟩:=ht j hj
   have HPD:=zB (b2.below ((Below.refl wr.heap.size wr).drew))
   have HKD:=zB (b3.trans hdr)
   have HAT:=zB b2.atOf
   obtain ⟨q0,q1,q2,q3,q4⟩:=b2
   have hlk:=(hG.kept hdr.grown (fun e=>n3 (by injection e))).look (ty:=155) (e:=164) (z:=.nilFunc) Tryz.underlying155 (by kernel_rfl) ((zA HF).size j hj)
   have hsg:=zDy (ns:=ns) hj
   have hfr:=b4
   rw [hsg] at b6 hfr
   rw [zGa] at b6
   have HGT:=zB b1
   have hlen:(sgs ns ts j (ts.length-j)).length=ts.length-j:=zAD _ _ _ _
   rcases zK5 ((zA HF).role j hj) hb ((zA HF).tok j hj) with ⟨hk,hha,hs4⟩ | ⟨hk,hha,hs5⟩ | ⟨hno,h4,h5⟩
   ·obtain ⟨ba,bp,bh,bs,g0,m1,m2,m3,m4,k1,k2,k3,k4⟩:=((hB.kept hdr) _).2.1 hha
    rw [g0] at hlk
    simp only [Option.getD,Option.isSome] at hlk
    have hk4:knB ns (4,(atT ts j).t)=true:=zDX hha (by decide)
    rw [hs4] at b6 hfr hsg
    simp only [true_and] at b6
    by_cases hlv:sLv ns (4,(atT ts j).t)<least
    ·have HR:=zB (show res=some (T,sgs ns ts j (ts.length-j)) by
      rw [b6,if_neg (by omega),if_neg (by simp),<- hsg])
     have HE:=zB (show ts.length-(sgs ns ts j (ts.length-j)).length=j by rw [hlen]; omega)
     have HX:=zO9 (ns:=ns) (exT ns T) (atT ts j).t least wr.drew ba bp bh bs hk4 k1 hlv
     clear b1 b3 b4 b5 b6 hb ht hG hB hsg hfr hlen hdr HREL g0 k1 k2 k3 k4 hlv hk4 hha hs4 hk
     go_wp2_with fail
     go_region
     go_wp2_with fail
     refine HX.mono ?_
     rintro x w2 ⟨rfl,hw2⟩
     have hw:=hw2.symm
     subst hw
     clear HX
     go_wp2_with fail
     go_ret
     exact ⟨HKD,Or.inr ⟨_,_,zA HR,rfl,HGT,by rw [zA HE]; exact HPD⟩⟩
    ·have hge:least<=sLv ns (4,(atT ts j).t):=by omega
     have hfn:Zt ns (false,d) (sgs ns ts (j+1) (ts.length-(j+1))):=by
      rcases zBA hfr with ⟨x,_⟩ | ⟨_,_,x⟩ | ⟨x,_⟩ | ⟨x,_⟩
      ·simp [eoS] at x
      ·exact x
      ·simp at x
      ·simp at x
     obtain ⟨nx,hnx⟩:∃ nx,nx=(if lvT ns T<sH ns (4,(atT ts j).t) false then none else (match RD ns (sH ns (4,(atT ts j).t) true) none (sgs ns ts (j+1) (ts.length-(j+1))) with
      | none=>none
      | some x=>some (BT.node 4 0 (atT ts j).t T x.1,x.2))):=⟨_,rfl⟩
     have hnxt:∀ T' r',nx=some (T',r')->zf ns T'/\Zt ns (true,d) r'/\least<=lvT ns T'/\∃ a,sgs ns ts (j+1) (ts.length-(j+1))=a++r':=fun T' r' h=>zPU (zA HF).code b1 hfn hk4 hge (by rw [<- hnx]; exact h)
     have HNX:=zB hnxt
     have HR:=zB (show res=nx.bind (fun x=>RD ns least (some x.1) x.2) by
      rw [b6,if_pos hge,hnx]
      by_cases hx:lvT ns T<sH ns (4,(atT ts j).t) false
      ·rw [if_pos hx,if_pos hx]; rfl
      ·rw [if_neg hx,if_neg hx]
       cases RD ns (sH ns (4,(atT ts j).t) true) none (sgs ns ts (j+1) (ts.length-(j+1))) with
       | none=>rfl
       | some y=>rfl)
     have HX:=zNt p g o ts.length c bf bb j (atT ts j).t (sgs ns ts (j+1) (ts.length-(j+1))) T least wr.drew ba bp bh bs m1 m2 m3 m4 hk4 b1 (by have:=(zA HF).len; omega) (fun w' hk' hp'=>(zA HS) (j+1) d _ w' (by omega) ((zFF (zA HF).code (s:=(4,(atT ts j).t)) (Or.inr (Or.inl rfl)) hk4).2 rfl) hfn ((zA HPW).kept hk') hp') (zA HPD) k1 k2 k3 k4 hge nx hnx (fun T' r' h=>(hnxt T' r' h).1)
     clear b1 b3 b4 b5 b6 hb ht hG hB hsg hfr hlen hdr HREL g0 k1 k2 k3 k4 hlv hk4 hha hs4 hk hge hfn hnx hnxt
     go_wp2_with fail
     go_region
     go_wp2_with fail
     refine HX.mono ?_
     clear HX
     rintro x w2 ⟨HK2,⟨h0,rfl⟩ | ⟨T',r',h1,rfl,HG',HP'⟩⟩
     ·have hn:res=none:=by rw [zA HR,h0]; rfl
      exact ⟨rfl,zB ((zA HKD).trans (zA HK2)),Or.inl ⟨hn,rfl⟩⟩
     ·obtain ⟨c1,c2,c3,a,c4⟩:=(zA HNX) _ _ h1
      have hsu:=zEh c4
      have hrl:=hsu.2
      have e1:j+1+(ts.length-(j+1))-r'.length=ts.length-r'.length:=by omega
      have e2:ts.length-(ts.length-r'.length)=r'.length:=by omega
      have hsr:=hsu.1
      rw [e1] at hsr
      have HREL2:=zB (show zMB ns ts w p g o c bf bb d least res T' (ts.length-r'.length) w2 from
       ⟨c1,zA HP',(zA HKD).trans (zA HK2),by rw [e2,<- hsr]; exact c2,c3,by rw [e2,<- hsr,zA HR,h1]; rfl⟩)
      have HLT:=zB (show ts.length-atOf w2 p<ts.length-atOf wr p by rw [(zA HP').atOf,zA HAT]; omega)
      have HIJ2:=zB (show i<ts.length-r'.length by omega)
      clear c1 c2 c3 c4 hsu hrl e1 e2 hsr h1 HK2 HG' HP' HR HNX
      go_wp2_with fail
      exact ⟨⟨T',_,rfl,zA HIJ2,HREL2⟩,zA HLT⟩
   ·obtain ⟨ba,bp,bh,g0,m1,m2,m3,k1,k2,k3⟩:=((hB.kept hdr) _).2.2 hha
    rw [g0] at hlk
    simp only [Option.getD,Option.isSome] at hlk
    have hk5:knB ns (5,(atT ts j).t)=true:=zDX hha (by decide)
    rw [hs5] at b6 hfr hsg
    rw [if_neg (by simp)] at b6
    simp only [true_and] at b6
    by_cases hlv:sLv ns (5,(atT ts j).t)<least
    ·have HR:=zB (show res=some (T,sgs ns ts j (ts.length-j)) by
      rw [b6,if_neg (by omega),<- hsg])
     have HE:=zB (show ts.length-(sgs ns ts j (ts.length-j)).length=j by rw [hlen]; omega)
     have HX:=zNs (ns:=ns) (exT ns T) (atT ts j).t least wr.drew ba bp bh hk5 k1 hlv
     clear b1 b3 b4 b5 b6 hb ht hG hB hsg hfr hlen hdr HREL g0 k1 k2 k3 hlv hk5 hha hs5 hk
     go_wp2_with fail
     go_region
     go_wp2_with fail
     refine HX.mono ?_
     rintro x w2 ⟨rfl,hw2⟩
     have hw:=hw2.symm
     subst hw
     clear HX
     go_wp2_with fail
     go_ret
     exact ⟨HKD,Or.inr ⟨_,_,zA HR,rfl,HGT,by rw [zA HE]; exact HPD⟩⟩
    ·have hge:least<=sLv ns (5,(atT ts j).t):=by omega
     have hfn:Zt ns (true,d) (sgs ns ts (j+1) (ts.length-(j+1))):=by
      rcases zBA hfr with ⟨x,_⟩ | ⟨x,_⟩ | ⟨_,_,x⟩ | ⟨x,_⟩
      ·simp [eoS] at x
      ·simp at x
      ·exact x
      ·simp at x
     obtain ⟨nx,hnx⟩:∃ nx,nx=(if lvT ns T<sH ns (5,(atT ts j).t) false then none else some (BT.node 5 0 (atT ts j).t T .nil,sgs ns ts (j+1) (ts.length-(j+1)))):=⟨_,rfl⟩
     have hnxt:∀ T' r',nx=some (T',r')->zf ns T'/\Zt ns (true,d) r'/\least<=lvT ns T'/\∃ a,sgs ns ts (j+1) (ts.length-(j+1))=a++r':=fun T' r' h=>by
      obtain ⟨x1,x2,x3⟩:=zOX b1 hk5 hge (by rw [<- hnx]; exact h)
      exact ⟨x1,by rw [x3]; exact hfn,x2,[],by rw [x3]; rfl⟩
     have HNX:=zB hnxt
     have HR:=zB (show res=nx.bind (fun x=>RD ns least (some x.1) x.2) by
      rw [b6,if_pos hge,hnx]
      by_cases hx:lvT ns T<sH ns (5,(atT ts j).t) false
      ·rw [if_pos hx,if_pos hx]; rfl
      ·rw [if_neg hx,if_neg hx]; rfl)
     have HX:=zMV p g o ts.length c bf bb j (atT ts j).t (sgs ns ts (j+1) (ts.length-(j+1))) T least wr.drew ba bp bh m1 m2 m3 hk5 b1 (by rw [zAD]; omega) (zA HF).len (zA HPD) k1 k2 k3 hge nx hnx (fun T' r' h=>(hnxt T' r' h).1)
     clear b1 b3 b4 b5 b6 hb ht hG hB hsg hfr hlen hdr HREL g0 k1 k2 k3 hlv hk5 hha hs5 hk hge hfn hnx hnxt
     go_wp2_with fail
     go_region
     go_wp2_with fail
     refine HX.mono ?_
     clear HX
     rintro x w2 ⟨HK2,⟨h0,rfl⟩ | ⟨T',r',h1,rfl,HG',HP'⟩⟩
     ·have hn:res=none:=by rw [zA HR,h0]; rfl
      exact ⟨rfl,zB ((zA HKD).trans (zA HK2)),Or.inl ⟨hn,rfl⟩⟩
     ·obtain ⟨c1,c2,c3,a,c4⟩:=(zA HNX) _ _ h1
      have hsu:=zEh c4
      have hrl:=hsu.2
      have e1:j+1+(ts.length-(j+1))-r'.length=ts.length-r'.length:=by omega
      have e2:ts.length-(ts.length-r'.length)=r'.length:=by omega
      have hsr:=hsu.1
      rw [e1] at hsr
      have HREL2:=zB (show zMB ns ts w p g o c bf bb d least res T' (ts.length-r'.length) w2 from
       ⟨c1,zA HP',(zA HKD).trans (zA HK2),by rw [e2,<- hsr]; exact c2,c3,by rw [e2,<- hsr,zA HR,h1]; rfl⟩)
      have HLT:=zB (show ts.length-atOf w2 p<ts.length-atOf wr p by rw [(zA HP').atOf,zA HAT]; omega)
      have HIJ2:=zB (show i<ts.length-r'.length by omega)
      clear c1 c2 c3 c4 hsu hrl e1 e2 hsr h1 HK2 HG' HP' HR HNX
      go_wp2_with fail
      exact ⟨⟨T',_,rfl,zA HIJ2,HREL2⟩,zA HLT⟩
   ·have hg0:G (atT ts j).t=none:=(hB _).1 hno
    rw [hg0] at hlk
    simp only [Option.getD,Option.isSome] at hlk
    have HR:=zB (show res=some (T,sgs ns ts j (ts.length-j)) by
     rw [b6,if_neg (fun x=>h4 x.1),if_neg (fun x=>h5 x.1),<- hsg])
    have HE:=zB (show ts.length-(sgs ns ts j (ts.length-j)).length=j by rw [hlen]; omega)
    clear b1 b3 b4 b5 b6 hb ht hG hB hsg hfr hlen hdr HREL hno h4 h5 hg0
    go_wp2_with fail
    go_region
    go_wp2_with fail
    go_ret
    exact ⟨HKD,Or.inr ⟨_,_,zA HR,rfl,HGT,by rw [zA HE]; exact HPD⟩⟩
theorem zKg {ns:List OpR} {ts:List zK} (hF:zNw ns ts) {p g o c bf bb:Nat}:∀ m,zJH ns ts p g o c bf bb m
 | 0=>fun i d least w h=>absurd h (Nat.not_lt_zero _)
 | m+1=>fun i d least w h hl hf hpc hp=>
  zMm hF i d least w (fun i' d' l' w' h'=>zKg hF m i' d' l' w' (by omega)) hl hf hpc hp _ rfl
end Go.Proofs.YtfboipappaonhaaGreat
namespace Go.Proofs.YtfboipappaonhaaGreat
set_option linter.unusedSimpArgs false
set_option linter.unusedVariables false
set_option maxHeartbeats 16000000
set_option maxRecDepth 100000
open Go.RowKit Go.Maps
def zPV:Ending:=.panicked [{ v:=.iface 146 (.agg #[.int .i64 6,.int .i64 0]),recovered:=false }]
theorem zCP {w:World} {B:Nat} {u:Value} {us:List zD} (h:zx w B u us) (h1:1<=us.length):∃ g c,u = .slice (some ⟨g,0,none⟩) us.length c/\B<=g/\zv w g us us.length:=by
 have hh:=h
 unfold zx at hh
 obtain ⟨_,⟨rfl,h0⟩ | ⟨g,cap,cur,rfl,_⟩⟩:=h
 ·omega
 ·have:=zBI hh
  exact ⟨g,cap,rfl,this.1,this.2⟩
theorem zE.setNf {w w':World} {p b:Nat} (h:zE w w' p) (hb:w.heap.size<=b) (o:Nat) (v:Value):zE w (w'.setCell ⟨b,o,none⟩ v) p:=
 ⟨h.os,h.tape,h.output,by simpa [World.setCell] using h.size,fun i hi hne=>(Below.heap_setCell _ _ _ _ (show i≠b by omega)).trans (h.block i hi hne)⟩
def zMn (ns:List OpR) (w:World) (p:Nat) (res:Option (ET×List SyR)) (x:Ending) (w':World):Prop:=
 Hid (zE w w' p)/\((res=none/\x=zJF)\/∃ T r,res=some (T,r)/\Hid (zf ns T)/\((1000<hT T/\x=zPV) \/
  (hT T<=1000/\∃ g' c',x = .returned (.agg #[.slice (some ⟨g',0,none⟩) (nd T 0).length c'])/\w.heap.size<=g'/\Hid (zv w' g' (nd T 0) (nd T 0).length))))
theorem zLZ {ns:List OpR} {ts:List zK} (hF:zNw ns ts) {p g o c bf bb:Nat} (w:World) (hf:Zt ns (false,0) (sgs ns ts 0 ts.length)) (hpc:PC w p g o bf bb ns ts) (hp:Zi w p g o ts.length c 0 bf bb) (res:Option (ET×List SyR)) (hres:res=RD ns 0 none (sgs ns ts 0 ts.length)) :
  Calls Tryz.prog 43 #[.pointer (some ⟨p,0,none⟩)] w (zMn ns w p res):=by
 have hpl:=block_lt_of_cell hp.1
 simp only at hpl
 have hpn:p≠w.heap.size:=by omega
 have hb0:=zC w (.cells #[.slice none 0 0] 28)
 have hk0:=zE.of_below (g:=p) hb0
 have HX:=zKg hF (ts.length-0+1) 0 0 0 _ (Nat.lt_succ_self _) (by omega) (by rw [Nat.sub_zero]; exact hf) (hpc.kept hk0) (hp.below hb0)
 rw [Nat.sub_zero,<- hres] at HX
 have HT:=zB (show ∀ T r,res=some (T,r)->tsz T<=100000 from fun T r h=>by
  rw [hres] at h
  have h1:=Ze hF.code _ _ none _ 0 _ (by omega) hf (fun L e=>by cases e) h
  have e:=congrArg List.length h1.2.2.2.2
  simp only [yM,List.nil_append,List.length_append] at e
  rw [zAD] at e
  have:=zG6 T h1.2.1
  have:=hF.len
  omega)
 have HK0:=zB hk0
 clear hF hpc hp hf hres hb0 hk0
 go_enter Tryz.func43,Tryz.ntmps43
 go_wp2_with fail
 refine HX.mono ?_
 clear HX
 rintro x w1 ⟨HK,⟨h0,rfl⟩ | ⟨T,r,h1,rfl,HG,HP⟩⟩
 ·exact ⟨rfl,zB ((zA HK0).trans (zA HK)),Or.inl ⟨h0,rfl⟩⟩
 ·have hsz:=(zA HT) T r h1
  have hh:=zKH T
  have c1:w1.cell? ⟨w.heap.size,0,none⟩=some (.slice none 0 0):=((zA HK).cell (b:=w.heap.size) (by simp) (by omega) 0).trans (by simp [go_sem])
  have d1:w1.frozen? ⟨w.heap.size,0,none⟩=false:=((zA HK).frozen (b:=w.heap.size) (by simp) (by omega) 0).trans (by simp [go_sem])
  have HK1:=zB ((zA HK0).trans (zA HK))
  have hz1:w.heap.size<w1.heap.size:=by have:=(zA HK).size; simp at this; omega
  have HR:=zB h1
  obtain ⟨Ty,v,f,q,he,hme,hcf,hcall⟩:=zNk ns T (zA HG) (by omega)
  have HC:=zB hcall
  have HE:=zB he
  rw [he]
  obtain ⟨hh0,hhe⟩:∃ h0,h0=hT T:=⟨_,rfl⟩
  have HHE:=zB hhe
  have hhb:hh0<=100000:=by omega
  rw [<- hhe] at HC
  clear HK h1 hcall he HT HK0 HP hhe hh
  go_wp2_with fail
  refine ((zA HC) _).mono ?_
  rintro x w2 ⟨rfl,hb2⟩
  have c2:=(hb2.cell (p:=⟨w.heap.size,0,none⟩) hz1).trans c1
  have d2:=(hb2.frozen (p:=⟨w.heap.size,0,none⟩) hz1).trans d1
  have HK2:=zB ((zA HK1).trans (zE.of_below hb2))
  have hz2:w.heap.size<w2.heap.size:=by have:=hb2.size; omega
  clear hb2 c1 d1 HK1 hme hcf HC
  by_cases hgt:1000<hh0
  ·have hgI:(1000:Int)<(hh0:Int):=by omega
   have HN:=zB (show 1000<hT T by rw [<- zA HHE]; exact hgt)
   go_wp2_with fail
   exact ⟨rfl,HK2,Or.inr ⟨T,r,zA HR,HG,Or.inl ⟨zA HN,rfl⟩⟩⟩
  ·have hgI:(hh0:Int)<=1000:=by omega
   have HN:=zB (show hT T<=1000 by rw [<- zA HHE]; omega)
   obtain ⟨Ty',v',f',he',hme',hcf',hcall'⟩:=zNl ns T (zA HG)
   rw [zA HE] at he'
   obtain ⟨rfl,rfl⟩:Ty=Ty'/\v=v':=by injection he' with a b; exact ⟨a,b⟩
   obtain ⟨vs,hvs⟩:∃ vs,vs=nd T 0:=⟨_,rfl⟩
   have hvl:vs.length=tsz T:=by rw [hvs,zi]
   have hv1:1<=vs.length:=by rw [hvl]; exact Sh.pos (zA HG).sh
   have HCALL:=zB (hcall' w2.heap.size (.slice none 0 0) [] vs w2 (World.ownsRow_nil _ _ _ _) (Nat.le_refl _) (by rw [List.length_nil,<- hvs]; omega) (by rw [List.nil_append,List.length_nil]; exact hvs))
   have HVS:=zB hvs
   have HV1:=zB hv1
   clear hvs hvl hcall' he' hgt hsz hv1
   go_wp2_with fail
   refine (zA HCALL).mono ?_
   rintro x w3 ⟨u',rfl,HRW,HGR,HOW⟩
   obtain ⟨g3,c3,rfl,hg3,hfl⟩:=zCP (zA HRW) (zA HV1)
   have e1:w3.cell? ⟨w.heap.size,0,none⟩=some (.slice none 0 0):=(zH (zA HGR) (b:=w.heap.size) hz2 (by simp [Value.ownBlock]) 0).trans c2
   have f1:w3.frozen? ⟨w.heap.size,0,none⟩=false:=(World.frozen?_of_block (w:=w2) ((zA HGR).block w.heap.size hz2 (by simp [Value.ownBlock]))).trans d2
   have hb3:Below w2.heap.size w2 w3:=⟨(zA HGR).os,(zA HGR).tape,(zA HGR).output,(zA HGR).size,fun i hi=>(zA HGR).block i hi (by simp [Value.ownBlock])⟩
   have HK3:=zB ((zA HK2).trans (zE.of_below hb3))
   have HFIL:=zB hfl
   have hgw:w.heap.size<g3:=by omega
   clear HRW HGR HOW c2 d2 hcf' hme' hfl HCALL hb3 HK2 hg3
   go_wp2_with fail
   refine bodyPost_ret (v:=.agg #[.slice (some ⟨g3,0,none⟩) vs.length c3]) ?res rfl ⟨?kk,Or.inr ⟨T,r,zA HR,HG,Or.inr ⟨zA HN,g3,c3,?vv,by omega,?ff⟩⟩⟩
   case res=>simp [results,Tryz.results43,go_sem,e1]
   case kk=>exact zB ((zA HK3).setNf (Nat.le_refl _) _ _)
   case vv=>rw [<- zA HVS]
   case ff=>rw [<- zA HVS]; exact zB ((zA HFIL).setCell _ _ _ (by omega))
end Go.Proofs.YtfboipappaonhaaGreat
