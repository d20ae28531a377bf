import Derived.Test.YtfboipappaonhaaGreatM26
import Derived.Test.YtfboipappaonhaaGreatM33
import Derived.Test.YtfboipappaonhaaGreatM34
import Derived.Test.YtfboipappaonhaaGreatM35
import Derived.Test.YtfboipappaonhaaGreatM48
import Derived.Test.YtfboipappaonhaaGreatM49
namespace Go.Proofs.YtfboipappaonhaaGreat
set_option linter.unusedSimpArgs false
set_option linter.unusedVariables false
set_option maxHeartbeats 16000000
set_option maxRecDepth 100000
open Go.RowKit Go.Maps
open Go.Deep (BT)
def atOf (w:World) (p:Nat):Nat:=match w.cell? ⟨p,1,none⟩ with
 | some v=>(intOf v).toNat
 | none=>0
theorem ZW.atOf {w:World} {p g o n c i bf bb:Nat} (h:ZW w p g o n c i bf bb):atOf w p = i:=by
 unfold Proofs.YtfboipappaonhaaGreat.atOf
 rw [h.2.1]
 simp [intOf]
def zJw (ns:List OpR) (ts:List zS) (w:World) (p g o c bf bb d:Nat) (least:Int) (res:Option (ET × List SyR)) (T:ET) (j:Nat) (wr:World):Prop:=
 zl ns T /\ ZW wr p g o ts.length c j bf bb /\ zE w wr p /\ Zi ns (true,d) (sgs ns ts j (ts.length - j)) /\ least <= lvT ns T /\ res = RD ns least (some T) (sgs ns ts j (ts.length - j))
theorem zMm {ns:List OpR} (hv:zO ns 0) {T T':ET} {t:ByteArray} {d:Nat} {least:Int} {r r':List SyR} (hT:zl ns T) (hf:Zi ns (false,d) r) (hk:knB ns (4,t) = true) (hl:least <= sLv ns (4,t))
  (h:(if lvT ns T < sH ns (4,t) false then none else (match RD ns (sH ns (4,t) true) none r with
   | none=>none
   | some x=>some (BT.node 4 0 t T x.1,x.2))) = some (T',r')):zl ns T' /\ Zi ns (true,d) r' /\ least <= lvT ns T' /\ ∃ a,r = a ++ r':=by
 by_cases hlt:lvT ns T < sH ns (4,t) false
 ·rw [if_pos hlt] at h; cases h
 ·rw [if_neg hlt] at h
  cases hy:RD ns (sH ns (4,t) true) none r with
  | none=>rw [hy] at h; cases h
  | some y=>
   rw [hy] at h
   simp only [Option.some.injEq,Prod.mk.injEq] at h
   obtain ⟨rfl,rfl⟩:=h
   obtain ⟨a1,a2,a3,_,a5⟩:=Zg hv _ _ none r d y ((zDm hv (s:=(4,t)) (Or.inr (Or.inl rfl)) hk).2 rfl) hf (fun L e=>by cases e) hy
   exact ⟨⟨rfl,Or.inr (Or.inr (Or.inr ⟨rfl,hk,hT,a2,by omega,a3⟩))⟩,a1,hl,ySy y.1,a5⟩
theorem zLw {ns:List OpR} {T T':ET} {t:ByteArray} {least:Int} {r r':List SyR} (hT:zl ns T) (hk:knB ns (5,t) = true) (hl:least <= sLv ns (5,t))
  (h:(if lvT ns T < sH ns (5,t) false then none else some (BT.node 5 0 t T .nil,r)) = some (T',r')):zl ns T' /\ least <= lvT ns T' /\ r' = r:=by
 by_cases hlt:lvT ns T < sH ns (5,t) false
 ·rw [if_pos hlt] at h; cases h
 ·rw [if_neg hlt] at h
  simp only [Option.some.injEq,Prod.mk.injEq] at h
  obtain ⟨rfl,rfl⟩:=h
  exact ⟨⟨rfl,Or.inr (Or.inr (Or.inl ⟨Or.inr rfl,hk,hT,rfl,by omega⟩))⟩,hl,rfl⟩
theorem zKZ {ns:List OpR} {ts:List zS} (hF:zLT ns ts) {p g o c bf bb:Nat} (i d:Nat) (least:Int) (w:World) (hs:zHE ns ts p g o c bf bb (ts.length - i)) (hl:least <= 1001) (hf:Zi ns (false,d) (sgs ns ts i (ts.length - i))) (hpc:PC w p g o bf bb ns ts) (hp:ZW w p g o ts.length c i bf bb) (res:Option (ET × List SyR)) (hres:res = RD ns least none (sgs ns ts i (ts.length - i))) :
  Calls Tryz.prog 86 #[.pointer (some ⟨p,0,none⟩),.int .i64 least] w (zDn ns w p g o ts.length c bf bb res):=by
 have hi:=zHD hf
 have HX:=zKI hF i d least w hs hl hf hpc hp
 have HF:=zB hF
 have HS:=zB hs
 have HPC:=zB hpc
 have HRES:=zB (show res = (match zEH ns least (sgT ns ts i) (sgs ns ts (i + 1) (ts.length - (i + 1))) with
  | none=>none
  | some x=>RD ns least (some x.1) x.2) by rw [hres,zCk hi,zNK]; rfl)
 have HSO:=zB (show ∀ x,zEH ns least (sgT ns ts i) (sgs ns ts (i + 1) (ts.length - (i + 1))) = some x -> Zi ns (true,d) x.2 /\ zl ns x.1 /\ least <= lvT ns x.1 /\ sgs ns ts i (ts.length - i) = ySy x.1 ++ x.2 /\ x.2.length < ts.length - i from fun x hx=>by
  have hf':=hf
  rw [zCk hi] at hf'
  have h:=zGS hF.code hl hf' hx
  rw [<- zCk hi] at h
  refine ⟨h.1,h.2.1,h.2.2.1,h.2.2.2,?_⟩
  have e:=congrArg List.length h.2.2.2
  rw [zBH,List.length_append] at e
  have:1 <= (ySy x.1).length:=Nat.le_trans (Sh.pos h.2.1.sh) (zIl x.1 h.2.1)
  omega)
 generalize zEH ns least (sgT ns ts i) (sgs ns ts (i + 1) (ts.length - (i + 1))) = fr at HX HRES HSO
 clear hF hs hpc hp hres hf
 go_enter Tryz.func86,Tryz.ntmps86
 go_wp2_with fail
 refine HX.mono ?_
 clear HX
 rintro x w1 ⟨HK,⟨h0,rfl⟩ | ⟨T0,r0,h1,rfl,HG,HP⟩⟩
 ·have hn:res = none:=by rw [zA HRES,h0]
  exact ⟨rfl,HK,Or.inl ⟨hn,rfl⟩⟩
 ·have HREL:=zB (show zJw ns ts w p g o c bf bb d least res T0 (ts.length - r0.length) w1 from by
   obtain ⟨a1,a2,a3,a4,a5⟩:=(zA HSO) _ h1
   have hsu:=zDH a4
   have e:i + (ts.length - i) - r0.length = ts.length - r0.length:=by omega
   simp only [e] at hsu
   have e2:ts.length - (ts.length - r0.length) = r0.length:=by omega
   refine ⟨a2,zA HP,zA HK,?_,a3,?_⟩
   ·rw [e2,<- hsu.1]; exact a1
   ·rw [e2,<- hsu.1,zA HRES,h1])
  have hij0:i < ts.length - r0.length:=by
   have:=((zA HSO) _ h1).2.2.2.2
   simp only at this
   omega
  have HIJ:=zB hij0
  clear HK h1 HG HP HRES HSO hij0
  go_wp2_with fail
  go_loopw [5] (fun lv wr=>∃ (T:ET) (j:Nat),lv = exT ns T /\ i < j /\ Hid (zJw ns ts w p g o c bf bb d least res T j wr)) (fun _ wr=>ts.length - atOf wr p)
  case atStart=>exact ⟨T0,_,rfl,zA HIJ,HREL⟩
  case round=>
   clear HREL
   obtain ⟨T,j,rfl,hij,HREL⟩:=hrel
   have hdr:=zE.of_below (g:=p) ((Below.refl wr.heap.size wr).drew)
   obtain ⟨b1,b2,b3,b4,b5,b6⟩:=zA HREL
   have hj:=zHD b4
   have hb:zA5 ns ts j = true:=zJh ((zA HF).all j hj) b4
   obtain ⟨n1,n2,n3,ht,_,⟨m,G,hG,hB⟩⟩:=(zA HPC).kept b3
   have HPW:=zB ((zA HPC).kept (b3.trans hdr))
   obtain ⟨t0,t1,t2⟩:=ht j hj
   have HPD:=zB (b2.below ((Below.refl wr.heap.size wr).drew))
   have HKD:=zB (b3.trans hdr)
   have HAT:=zB b2.atOf
   obtain ⟨q0,q1,q2,q3,q4⟩:=b2
   have hlk:=(hG.kept hdr.grown (fun e=>n3 (by injection e))).look (ty:=155) (e:=164) (z:=.nilFunc) Tryz.underlying155 (by kernel_rfl) ((zA HF).size j hj)
   have hsg:=zCk (ns:=ns) hj
   have hfr:=b4
   rw [hsg] at b6 hfr
   rw [zEp] at b6
   have HGT:=zB b1
   have hlen:(sgs ns ts j (ts.length - j)).length = ts.length - j:=zBH _ _ _ _
   rcases zIm ((zA HF).role j hj) hb ((zA HF).tok j hj) with ⟨hk,hha,hs4⟩ | ⟨hk,hha,hs5⟩ | ⟨hno,h4,h5⟩
   ·obtain ⟨ba,bp,bh,bs,g0,m1,m2,m3,m4,k1,k2,k3,k4⟩:=((hB.kept hdr) _).2.1 hha
    rw [g0] at hlk
    simp only [Option.getD,Option.isSome] at hlk
    have hk4:knB ns (4,(atT ts j).t) = true:=zCi hha (by decide)
    rw [hs4] at b6 hfr hsg
    simp only [true_and] at b6
    by_cases hlv:sLv ns (4,(atT ts j).t) < least
    ·have HR:=zB (show res = some (T,sgs ns ts j (ts.length - j)) by
      rw [b6,if_neg (by omega),if_neg (by simp),<- hsg])
     have HE:=zB (show ts.length - (sgs ns ts j (ts.length - j)).length = j by rw [hlen]; omega)
     have HX:=zMO (ns:=ns) (exT ns T) (atT ts j).t least wr.drew ba bp bh bs hk4 k1 hlv
     clear b1 b3 b4 b5 b6 hb ht hG hB hsg hfr hlen hdr HREL g0 k1 k2 k3 k4 hlv hk4 hha hs4 hk
     go_wp2_with fail
     go_region
     go_wp2_with fail
     refine HX.mono ?_
     rintro x w2 ⟨rfl,hw2⟩
     have hw:=hw2.symm
     subst hw
     clear HX
     go_wp2_with fail
     go_ret
     exact ⟨HKD,Or.inr ⟨_,_,zA HR,rfl,HGT,by rw [zA HE]; exact HPD⟩⟩
    ·have hge:least <= sLv ns (4,(atT ts j).t):=by omega
     have hfn:Zi ns (false,d) (sgs ns ts (j + 1) (ts.length - (j + 1))):=by
      rcases zAT hfr with ⟨x,_⟩ | ⟨_,_,x⟩ | ⟨x,_⟩ | ⟨x,_⟩
      ·simp [eoS] at x
      ·exact x
      ·simp at x
      ·simp at x
     obtain ⟨nx,hnx⟩:∃ nx,nx = (if lvT ns T < sH ns (4,(atT ts j).t) false then none else (match RD ns (sH ns (4,(atT ts j).t) true) none (sgs ns ts (j + 1) (ts.length - (j + 1))) with
      | none=>none
      | some x=>some (BT.node 4 0 (atT ts j).t T x.1,x.2))):=⟨_,rfl⟩
     have hnxt:∀ T' r',nx = some (T',r') -> zl ns T' /\ Zi ns (true,d) r' /\ least <= lvT ns T' /\ ∃ a,sgs ns ts (j + 1) (ts.length - (j + 1)) = a ++ r':=fun T' r' h=>zMm (zA HF).code b1 hfn hk4 hge (by rw [<- hnx]; exact h)
     have HNX:=zB hnxt
     have HR:=zB (show res = nx.bind (fun x=>RD ns least (some x.1) x.2) by
      rw [b6,if_pos hge,hnx]
      by_cases hx:lvT ns T < sH ns (4,(atT ts j).t) false
      ·rw [if_pos hx,if_pos hx]; rfl
      ·rw [if_neg hx,if_neg hx]
       cases RD ns (sH ns (4,(atT ts j).t) true) none (sgs ns ts (j + 1) (ts.length - (j + 1))) with
       | none=>rfl
       | some y=>rfl)
     have HX:=zLQ p g o ts.length c bf bb j (atT ts j).t (sgs ns ts (j + 1) (ts.length - (j + 1))) T least wr.drew ba bp bh bs m1 m2 m3 m4 hk4 b1 (by have:=(zA HF).len; omega) (fun w' hk' hp'=>(zA HS) (j + 1) d _ w' (by omega) ((zDm (zA HF).code (s:=(4,(atT ts j).t)) (Or.inr (Or.inl rfl)) hk4).2 rfl) hfn ((zA HPW).kept hk') hp') (zA HPD) k1 k2 k3 k4 hge nx hnx (fun T' r' h=>(hnxt T' r' h).1)
     clear b1 b3 b4 b5 b6 hb ht hG hB hsg hfr hlen hdr HREL g0 k1 k2 k3 k4 hlv hk4 hha hs4 hk hge hfn hnx hnxt
     go_wp2_with fail
     go_region
     go_wp2_with fail
     refine HX.mono ?_
     clear HX
     rintro x w2 ⟨HK2,⟨h0,rfl⟩ | ⟨T',r',h1,rfl,HG',HP'⟩⟩
     ·have hn:res = none:=by rw [zA HR,h0]; rfl
      exact ⟨rfl,zB ((zA HKD).trans (zA HK2)),Or.inl ⟨hn,rfl⟩⟩
     ·obtain ⟨c1,c2,c3,a,c4⟩:=(zA HNX) _ _ h1
      have hsu:=zDH c4
      have hrl:=hsu.2
      have e1:j + 1 + (ts.length - (j + 1)) - r'.length = ts.length - r'.length:=by omega
      have e2:ts.length - (ts.length - r'.length) = r'.length:=by omega
      have hsr:=hsu.1
      rw [e1] at hsr
      have HREL2:=zB (show zJw ns ts w p g o c bf bb d least res T' (ts.length - r'.length) w2 from
       ⟨c1,zA HP',(zA HKD).trans (zA HK2),by rw [e2,<- hsr]; exact c2,c3,by rw [e2,<- hsr,zA HR,h1]; rfl⟩)
      have HLT:=zB (show ts.length - atOf w2 p < ts.length - atOf wr p by rw [(zA HP').atOf,zA HAT]; omega)
      have HIJ2:=zB (show i < ts.length - r'.length by omega)
      clear c1 c2 c3 c4 hsu hrl e1 e2 hsr h1 HK2 HG' HP' HR HNX
      go_wp2_with fail
      exact ⟨⟨T',_,rfl,zA HIJ2,HREL2⟩,zA HLT⟩
   ·obtain ⟨ba,bp,bh,g0,m1,m2,m3,k1,k2,k3⟩:=((hB.kept hdr) _).2.2 hha
    rw [g0] at hlk
    simp only [Option.getD,Option.isSome] at hlk
    have hk5:knB ns (5,(atT ts j).t) = true:=zCi hha (by decide)
    rw [hs5] at b6 hfr hsg
    rw [if_neg (by simp)] at b6
    simp only [true_and] at b6
    by_cases hlv:sLv ns (5,(atT ts j).t) < least
    ·have HR:=zB (show res = some (T,sgs ns ts j (ts.length - j)) by
      rw [b6,if_neg (by omega),<- hsg])
     have HE:=zB (show ts.length - (sgs ns ts j (ts.length - j)).length = j by rw [hlen]; omega)
     have HX:=zLP (ns:=ns) (exT ns T) (atT ts j).t least wr.drew ba bp bh hk5 k1 hlv
     clear b1 b3 b4 b5 b6 hb ht hG hB hsg hfr hlen hdr HREL g0 k1 k2 k3 hlv hk5 hha hs5 hk
     go_wp2_with fail
     go_region
     go_wp2_with fail
     refine HX.mono ?_
     rintro x w2 ⟨rfl,hw2⟩
     have hw:=hw2.symm
     subst hw
     clear HX
     go_wp2_with fail
     go_ret
     exact ⟨HKD,Or.inr ⟨_,_,zA HR,rfl,HGT,by rw [zA HE]; exact HPD⟩⟩
    ·have hge:least <= sLv ns (5,(atT ts j).t):=by omega
     have hfn:Zi ns (true,d) (sgs ns ts (j + 1) (ts.length - (j + 1))):=by
      rcases zAT hfr with ⟨x,_⟩ | ⟨x,_⟩ | ⟨_,_,x⟩ | ⟨x,_⟩
      ·simp [eoS] at x
      ·simp at x
      ·exact x
      ·simp at x
     obtain ⟨nx,hnx⟩:∃ nx,nx = (if lvT ns T < sH ns (5,(atT ts j).t) false then none else some (BT.node 5 0 (atT ts j).t T .nil,sgs ns ts (j + 1) (ts.length - (j + 1)))):=⟨_,rfl⟩
     have hnxt:∀ T' r',nx = some (T',r') -> zl ns T' /\ Zi ns (true,d) r' /\ least <= lvT ns T' /\ ∃ a,sgs ns ts (j + 1) (ts.length - (j + 1)) = a ++ r':=fun T' r' h=>by
      obtain ⟨x1,x2,x3⟩:=zLw b1 hk5 hge (by rw [<- hnx]; exact h)
      exact ⟨x1,by rw [x3]; exact hfn,x2,[],by rw [x3]; rfl⟩
     have HNX:=zB hnxt
     have HR:=zB (show res = nx.bind (fun x=>RD ns least (some x.1) x.2) by
      rw [b6,if_pos hge,hnx]
      by_cases hx:lvT ns T < sH ns (5,(atT ts j).t) false
      ·rw [if_pos hx,if_pos hx]; rfl
      ·rw [if_neg hx,if_neg hx]; rfl)
     have HX:=zKG p g o ts.length c bf bb j (atT ts j).t (sgs ns ts (j + 1) (ts.length - (j + 1))) T least wr.drew ba bp bh m1 m2 m3 hk5 b1 (by rw [zBH]; omega) (zA HF).len (zA HPD) k1 k2 k3 hge nx hnx (fun T' r' h=>(hnxt T' r' h).1)
     clear b1 b3 b4 b5 b6 hb ht hG hB hsg hfr hlen hdr HREL g0 k1 k2 k3 hlv hk5 hha hs5 hk hge hfn hnx hnxt
     go_wp2_with fail
     go_region
     go_wp2_with fail
     refine HX.mono ?_
     clear HX
     rintro x w2 ⟨HK2,⟨h0,rfl⟩ | ⟨T',r',h1,rfl,HG',HP'⟩⟩
     ·have hn:res = none:=by rw [zA HR,h0]; rfl
      exact ⟨rfl,zB ((zA HKD).trans (zA HK2)),Or.inl ⟨hn,rfl⟩⟩
     ·obtain ⟨c1,c2,c3,a,c4⟩:=(zA HNX) _ _ h1
      have hsu:=zDH c4
      have hrl:=hsu.2
      have e1:j + 1 + (ts.length - (j + 1)) - r'.length = ts.length - r'.length:=by omega
      have e2:ts.length - (ts.length - r'.length) = r'.length:=by omega
      have hsr:=hsu.1
      rw [e1] at hsr
      have HREL2:=zB (show zJw ns ts w p g o c bf bb d least res T' (ts.length - r'.length) w2 from
       ⟨c1,zA HP',(zA HKD).trans (zA HK2),by rw [e2,<- hsr]; exact c2,c3,by rw [e2,<- hsr,zA HR,h1]; rfl⟩)
      have HLT:=zB (show ts.length - atOf w2 p < ts.length - atOf wr p by rw [(zA HP').atOf,zA HAT]; omega)
      have HIJ2:=zB (show i < ts.length - r'.length by omega)
      clear c1 c2 c3 c4 hsu hrl e1 e2 hsr h1 HK2 HG' HP' HR HNX
      go_wp2_with fail
      exact ⟨⟨T',_,rfl,zA HIJ2,HREL2⟩,zA HLT⟩
   ·have hg0:G (atT ts j).t = none:=(hB _).1 hno
    rw [hg0] at hlk
    simp only [Option.getD,Option.isSome] at hlk
    have HR:=zB (show res = some (T,sgs ns ts j (ts.length - j)) by
     rw [b6,if_neg (fun x=>h4 x.1),if_neg (fun x=>h5 x.1),<- hsg])
    have HE:=zB (show ts.length - (sgs ns ts j (ts.length - j)).length = j by rw [hlen]; omega)
    clear b1 b3 b4 b5 b6 hb ht hG hB hsg hfr hlen hdr HREL hno h4 h5 hg0
    go_wp2_with fail
    go_region
    go_wp2_with fail
    go_ret
    exact ⟨HKD,Or.inr ⟨_,_,zA HR,rfl,HGT,by rw [zA HE]; exact HPD⟩⟩
theorem zIQ {ns:List OpR} {ts:List zS} (hF:zLT ns ts) {p g o c bf bb:Nat}:∀ m,zHE ns ts p g o c bf bb m
 | 0=>fun i d least w h=>absurd h (Nat.not_lt_zero _)
 | m + 1=>fun i d least w h hl hf hpc hp=>
  zKZ hF i d least w (fun i' d' l' w' h'=>zIQ hF m i' d' l' w' (by omega)) hl hf hpc hp _ rfl
end Go.Proofs.YtfboipappaonhaaGreat
namespace Go.Proofs.YtfboipappaonhaaGreat
set_option linter.unusedSimpArgs false
set_option linter.unusedVariables false
set_option maxHeartbeats 16000000
set_option maxRecDepth 100000
open Go.RowKit Go.Maps
def zMn:Ending:=.panicked [{ v:=.iface 146 (.agg #[.int .i64 6,.int .i64 0]),recovered:=false }]
theorem zJA {w:World} {B:Nat} {u:Value} {us:List zD} (h:ZV w B u us) (h1:1 <= us.length):∃ g c,u = .slice (some ⟨g,0,none⟩) us.length c /\ B <= g /\ zM w g us us.length:=by
 have hh:=h
 unfold ZV at hh
 obtain ⟨_,⟨rfl,h0⟩ | ⟨g,cap,cur,rfl,_⟩⟩:=h
 ·omega
 ·have:=ZF hh
  exact ⟨g,cap,rfl,this.1,this.2⟩
theorem zE.setNf {w w':World} {p b:Nat} (h:zE w w' p) (hb:w.heap.size <= b) (o:Nat) (v:Value):zE w (w'.setCell ⟨b,o,none⟩ v) p:=
 ⟨h.os,h.tape,h.output,by simpa [World.setCell] using h.size,fun i hi hne=>(Below.heap_setCell _ _ _ _ (show i ≠ b by omega)).trans (h.block i hi hne)⟩
def zKa (ns:List OpR) (w:World) (p:Nat) (res:Option (ET × List SyR)) (x:Ending) (w':World):Prop:=
 Hid (zE w w' p) /\ ((res = none /\ x = zHC) \/ ∃ T r,res = some (T,r) /\ Hid (zl ns T) /\ ((1000 < hT T /\ x = zMn) \/
  (hT T <= 1000 /\ ∃ g' c',x = .returned (.agg #[.slice (some ⟨g',0,none⟩) (nd T 0).length c']) /\ w.heap.size <= g' /\ Hid (zM w' g' (nd T 0) (nd T 0).length))))
theorem zJB {ns:List OpR} {ts:List zS} (hF:zLT ns ts) {p g o c bf bb:Nat} (w:World) (hf:Zi ns (false,0) (sgs ns ts 0 ts.length)) (hpc:PC w p g o bf bb ns ts) (hp:ZW w p g o ts.length c 0 bf bb) (res:Option (ET × List SyR)) (hres:res = RD ns 0 none (sgs ns ts 0 ts.length)) :
  Calls Tryz.prog 43 #[.pointer (some ⟨p,0,none⟩)] w (zKa ns w p res):=by
 have hpl:=block_lt_of_cell hp.1
 simp only at hpl
 have hpn:p ≠ w.heap.size:=by omega
 have hb0:=zC w (.cells #[.slice none 0 0] 28)
 have hk0:=zE.of_below (g:=p) hb0
 have HX:=zIQ hF (ts.length - 0 + 1) 0 0 0 _ (Nat.lt_succ_self _) (by omega) (by rw [Nat.sub_zero]; exact hf) (hpc.kept hk0) (hp.below hb0)
 rw [Nat.sub_zero,<- hres] at HX
 have HT:=zB (show ∀ T r,res = some (T,r) -> tsz T <= 100000 from fun T r h=>by
  rw [hres] at h
  have h1:=Zg hF.code _ _ none _ 0 _ (by omega) hf (fun L e=>by cases e) h
  have e:=congrArg List.length h1.2.2.2.2
  simp only [yM,List.nil_append,List.length_append] at e
  rw [zBH] at e
  have:=zIl T h1.2.1
  have:=hF.len
  omega)
 have HK0:=zB hk0
 clear hF hpc hp hf hres hb0 hk0
 go_enter Tryz.func43,Tryz.ntmps43
 go_wp2_with fail
 refine HX.mono ?_
 clear HX
 rintro x w1 ⟨HK,⟨h0,rfl⟩ | ⟨T,r,h1,rfl,HG,HP⟩⟩
 ·exact ⟨rfl,zB ((zA HK0).trans (zA HK)),Or.inl ⟨h0,rfl⟩⟩
 ·have hsz:=(zA HT) T r h1
  have hh:=zLE T
  have c1:w1.cell? ⟨w.heap.size,0,none⟩ = some (.slice none 0 0):=((zA HK).cell (b:=w.heap.size) (by simp) (by omega) 0).trans (by simp [go_sem])
  have d1:w1.frozen? ⟨w.heap.size,0,none⟩ = false:=((zA HK).frozen (b:=w.heap.size) (by simp) (by omega) 0).trans (by simp [go_sem])
  have HK1:=zB ((zA HK0).trans (zA HK))
  have hz1:w.heap.size < w1.heap.size:=by have:=(zA HK).size; simp at this; omega
  have HR:=zB h1
  obtain ⟨Ty,v,f,q,he,hme,hcf,hcall⟩:=zLH ns T (zA HG) (by omega)
  have HC:=zB hcall
  have HE:=zB he
  rw [he]
  obtain ⟨hh0,hhe⟩:∃ h0,h0 = hT T:=⟨_,rfl⟩
  have HHE:=zB hhe
  have hhb:hh0 <= 100000:=by omega
  rw [<- hhe] at HC
  clear HK h1 hcall he HT HK0 HP hhe hh
  go_wp2_with fail
  refine ((zA HC) _).mono ?_
  rintro x w2 ⟨rfl,hb2⟩
  have c2:=(hb2.cell (p:=⟨w.heap.size,0,none⟩) hz1).trans c1
  have d2:=(hb2.frozen (p:=⟨w.heap.size,0,none⟩) hz1).trans d1
  have HK2:=zB ((zA HK1).trans (zE.of_below hb2))
  have hz2:w.heap.size < w2.heap.size:=by have:=hb2.size; omega
  clear hb2 c1 d1 HK1 hme hcf HC
  by_cases hgt:1000 < hh0
  ·have hgI:(1000:Int) < (hh0:Int):=by omega
   have HN:=zB (show 1000 < hT T by rw [<- zA HHE]; exact hgt)
   go_wp2_with fail
   exact ⟨rfl,HK2,Or.inr ⟨T,r,zA HR,HG,Or.inl ⟨zA HN,rfl⟩⟩⟩
  ·have hgI:(hh0:Int) <= 1000:=by omega
   have HN:=zB (show hT T <= 1000 by rw [<- zA HHE]; omega)
   obtain ⟨Ty',v',f',he',hme',hcf',hcall'⟩:=zLI ns T (zA HG)
   rw [zA HE] at he'
   obtain ⟨rfl,rfl⟩:Ty = Ty' /\ v = v':=by injection he' with a b; exact ⟨a,b⟩
   obtain ⟨vs,hvs⟩:∃ vs,vs = nd T 0:=⟨_,rfl⟩
   have hvl:vs.length = tsz T:=by rw [hvs,zj]
   have hv1:1 <= vs.length:=by rw [hvl]; exact Sh.pos (zA HG).sh
   have HCALL:=zB (hcall' w2.heap.size (.slice none 0 0) [] vs w2 (World.ownsRow_nil _ _ _ _) (Nat.le_refl _) (by rw [List.length_nil,<- hvs]; omega) (by rw [List.nil_append,List.length_nil]; exact hvs))
   have HVS:=zB hvs
   have HV1:=zB hv1
   clear hvs hvl hcall' he' hgt hsz hv1
   go_wp2_with fail
   refine (zA HCALL).mono ?_
   rintro x w3 ⟨u',rfl,HRW,HGR,HOW⟩
   obtain ⟨g3,c3,rfl,hg3,hfl⟩:=zJA (zA HRW) (zA HV1)
   have e1:w3.cell? ⟨w.heap.size,0,none⟩ = some (.slice none 0 0):=(zh (zA HGR) (b:=w.heap.size) hz2 (by simp [Value.ownBlock]) 0).trans c2
   have f1:w3.frozen? ⟨w.heap.size,0,none⟩ = false:=(World.frozen?_of_block (w:=w2) ((zA HGR).block w.heap.size hz2 (by simp [Value.ownBlock]))).trans d2
   have hb3:Below w2.heap.size w2 w3:=⟨(zA HGR).os,(zA HGR).tape,(zA HGR).output,(zA HGR).size,fun i hi=>(zA HGR).block i hi (by simp [Value.ownBlock])⟩
   have HK3:=zB ((zA HK2).trans (zE.of_below hb3))
   have HFIL:=zB hfl
   have hgw:w.heap.size < g3:=by omega
   clear HRW HGR HOW c2 d2 hcf' hme' hfl HCALL hb3 HK2 hg3
   go_wp2_with fail
   refine bodyPost_ret (v:=.agg #[.slice (some ⟨g3,0,none⟩) vs.length c3]) ?res rfl ⟨?kk,Or.inr ⟨T,r,zA HR,HG,Or.inr ⟨zA HN,g3,c3,?vv,by omega,?ff⟩⟩⟩
   case res=>simp [results,Tryz.results43,go_sem,e1]
   case kk=>exact zB ((zA HK3).setNf (Nat.le_refl _) _ _)
   case vv=>rw [<- zA HVS]
   case ff=>rw [<- zA HVS]; exact zB ((zA HFIL).setCell _ _ _ (by omega))
def zMo (ns:List OpR) (ts:List zS) (x:Ending):Prop:=
 (∃ i,i < ts.length /\ zBo ns ts i /\ ZG ns ts i < 0 /\ x = zMx 4 (zIs ts i:Int)) \/ (zBo ns ts ts.length /\ x = .returned (.tuple #[]))
theorem zEM (bo bs g o c:Nat) (ns:List OpR) (ts:List zS) (w:World) (hm:ts.length + Zn ts ts.length <= 1048576) (hc:ts.length <= c) (hc2:c <= maxLen) (hidx:Idx w bo bs ns ns.length) (hcd:zO ns 0) (hw:zEa w g o ts) (hst:zKj ts) (hB:g < w.heap.size) (hz:∀ i,i < ts.length -> (atT ts i).g.size <= 1048576)
  (hla:0 < ts.length /\ (atT ts (ts.length - 1)).k = 7) :
  Calls Tryz.prog 41 #[.agg #[.map (some bo),.map (some bs)],.slice (some ⟨g,o,none⟩) ts.length c] w fun x w'=>zMo ns ts x /\ Below w.heap.size w w':=by
 have HW:=zB hw
 have HZ:=zB hz
 have HLA:=zB hla
 have HC:=zB hcd
 have hb0:=zC w (.cells #[.map (some bo),.map (some bs)] 69)
 have HX:=zI3 bo bs g o c ns ts _ (by omega) (hidx.kept hb0) hcd (fun j hj=>(hw j hj).below hb0 hB) hst (by simp; omega)
 have HB0:=zB hb0
 clear hw hz hla hidx hst hcd hb0
 go_enter Tryz.func41,Tryz.ntmps41
 go_wp2_with fail
 refine HX.mono ?_
 rintro x w1 ⟨⟨a,c1,us,v,rfl,_,hr⟩,hb1⟩
 have bel1:Below w.heap.size w w1:=(zA HB0).trans (hb1.mono (by simp))
 clear HX HB0 hb1
 rcases hr with ⟨hn,_⟩ | ⟨_,⟨i,hi,hf,hro,rfl,rfl⟩ | ⟨hf,⟨_,rfl,rfl⟩ | ⟨hn,_⟩⟩⟩
 ·exact absurd (zA HC) hn
 ·have hb:((i:Int) != -1) = true:=by first | (simp; done) | (simp; omega)
  have HF:=zB (And.intro hf hro)
  have HX:=zDq g o c i ts w1 hm hi hc hc2 (fun j hj=>((zA HW) j hj).below bel1 hB) (by have:=bel1.size; omega) ((zA HZ) i hi)
  clear hf hro
  go_wp2_with fail
  refine HX.mono ?_
  rintro x w2 ⟨rfl,hb2⟩
  have bel2:=bel1.trans (hb2.mono bel1.size)
  clear HX hb2
  go_wp2_with fail
  exact ⟨rfl,Or.inl ⟨i,hi,(zA HF).1,(zA HF).2,rfl⟩,bel2⟩
 ·have HF:=zB hf
  clear hf
  go_wp2_with fail
  go_end0
  exact ⟨Or.inr ⟨zA HF,rfl⟩,bel1⟩
 ·exact absurd (zA HLA) hn
end Go.Proofs.YtfboipappaonhaaGreat
namespace Go.Proofs.YtfboipappaonhaaGreat
set_option maxHeartbeats 16000000
set_option maxRecDepth 100000
open Go.RowKit Go.Maps
theorem zJx {W:World} {p bo bs L:Nat} {xs:List OpR} {s:ByteArray} (hsc:Sc W p bo bs L s 0 0 (.slice none 0 0)) (hi:Idx W bo bs xs xs.length) (h1:bo < p) (h2:bs < p):zBb W W p bo bs L xs s 0 0 [] (.slice none 0 0):=
 ⟨hsc,World.ownsRow_nil _ _ _ _,by simp [Value.ownBlock],hi,Below.refl _ _,zG5.start xs s,fun q h1 h2=>by omega,Nat.le_refl _,Nat.zero_le _,h1,h2⟩
theorem zIR {w2:World} {bo bs L:Nat} {xs:List OpR} {s:ByteArray} (hi:Idx w2 bo bs xs xs.length) (h1:bo < w2.heap.size) (h2:bs < w2.heap.size) :
  zBb (w2.alloc (.cells #[.map (some bo),.map (some bs),.int .i64 (L:Int),.string s,.int .i64 0,.int .i64 0,.slice none 0 0] 152)) (w2.alloc (.cells #[.map (some bo),.map (some bs),.int .i64 (L:Int),.string s,.int .i64 0,.int .i64 0,.slice none 0 0] 152)) w2.heap.size bo bs L xs s 0 0 [] (.slice none 0 0):=by
 refine zJx ⟨?_,?_,?_,?_,?_,?_,?_,fun o=>?_⟩ (hi.kept (zC _ _)) h1 h2
 all_goals simp [go_sem]
theorem zCa (g:Nat):∀ (vs:List Value) (o:Nat) (w:World) (q:Addr),(w.setCells g o vs).frozen? q = w.frozen? q
 | [],_,_,_=>rfl
 | v :: r,o,w,q=>(zCa g r (o + 1) (w.setCell ⟨g,o,none⟩ v) q).trans (World.frozen?_setCell _ _ _ _)
theorem zB0 (g i:Nat) (hne:i ≠ g):∀ (vs:List Value) (o:Nat) (w:World),(w.setCells g o vs).heap[i]? = w.heap[i]?
 | [],_,_=>rfl
 | v :: r,o,w=>(zB0 g i hne r (o + 1) (w.setCell ⟨g,o,none⟩ v)).trans (Below.heap_setCell _ _ _ _ hne)
theorem zIS {w2:World} {p bo bs L:Nat} {xs:List OpR} {s:ByteArray} (hi:Idx w2 bo bs xs xs.length) (h1:bo < p) (h2:bs < p) (hc:∀ j,j < 7 -> (w2.cell? ⟨p,j,none⟩).isSome = true) (hf:∀ o,w2.frozen? ⟨p,o,none⟩ = false) :
  zBb (w2.setCells p 0 [.map (some bo),.map (some bs),.int .i64 (L:Int),.string s,.int .i64 0,.int .i64 0,.slice none 0 0]) (w2.setCells p 0 [.map (some bo),.map (some bs),.int .i64 (L:Int),.string s,.int .i64 0,.int .i64 0,.slice none 0 0]) p bo bs L xs s 0 0 [] (.slice none 0 0):=by
 have hin:=World.cell?_setCells_in p [.map (some bo),.map (some bs),.int .i64 (L:Int),.string s,.int .i64 0,.int .i64 0,.slice none 0 0] 0 w2 (fun j hj=>by simpa using hc j (by simpa using hj))
 refine zJx ⟨by simpa using hin 0 (by simp),by simpa using hin 1 (by simp),by simpa using hin 2 (by simp),by simpa using hin 3 (by simp),by simpa using hin 4 (by simp),by simpa using hin 5 (by simp),by simpa using hin 6 (by simp),fun o=>(zCa p _ _ _ _).trans (hf o)⟩ (hi.of_blocks (zB0 p bo (by omega) _ _ _) (zB0 p bs (by omega) _ _ _)) h1 h2
theorem zMp (bo bs:Nat) (xs:List OpR) (s:ByteArray) (w:World) (hi:Idx w bo bs xs xs.length) (hc:zO xs 0) (hsz:Zr xs) (h20:s.size <= 20000) :
  Calls Tryz.prog 39 #[.agg #[.map (some bo),.map (some bs)],.string s] w fun e w'=>(∃ (g cp:Nat) (us:List zS),e = .returned (.slice (some ⟨g,0,none⟩) us.length cp) /\ (w.heap.size <= g /\ us.length <= cp /\ cp <= maxLen) /\ Hid (zGj w' g us us.length) /\ Hid (ZP xs s 0 us)) /\ Below w.heap.size w w':=by
 have HS:=zB hsz
 have HOK:=zB (zBs hc)
 have HV:=zB (zA9 (zBs hc))
 have HK:=zB (zLg (zBs hc))
 have hbo:bo < w.heap.size:=by obtain ⟨D,hD,_⟩:=hi.ops; exact hD.lt
 have hbs:bs < w.heap.size:=by obtain ⟨D,hD,_⟩:=hi.srts; exact hD.lt
 have belI:Below w.heap.size w (w.alloc (.cells #[.map (some bo),.map (some bs)] 69)):=zC _ _
 have k0:(w.alloc (.cells #[.map (some bo),.map (some bs)] 69)).cell? ⟨w.heap.size,0,none⟩ = some (.map (some bo)):=by simp [go_sem]
 have k1:(w.alloc (.cells #[.map (some bo),.map (some bs)] 69)).cell? ⟨w.heap.size,1,none⟩ = some (.map (some bs)):=by simp [go_sem]
 have HIJ:=zB (hi.kept (zC w (.cells #[.map (some bo),.map (some bs)] 69)))
 clear hi hsz hc
 go_enter Tryz.func39,Tryz.ntmps39
 go_wp2_with fail
 obtain ⟨W0,hW0⟩:∃ W0,W0 = w.alloc (.cells #[.map (some bo),.map (some bs)] 69):=⟨_,rfl⟩
 have hz0:w.heap.size + 1 = W0.heap.size:=by rw [hW0]; simp
 rw [<- hW0] at belI k0 k1 HIJ ⊢
 clear hW0
 have n1:¬ W0.heap.size = w.heap.size:=by omega
 go_region_held (fun w'=>w'.cell? ⟨w.heap.size,0,none⟩ = some (.map (some bo)) /\ w'.cell? ⟨w.heap.size,1,none⟩ = some (.map (some bs))) (go_keep)
  (first | (go_at_call 78; refine (zEf bo bs xs _ (by first | exact (zA HIJ).kept (Below.refl _ _).drew | exact ((zA HIJ).kept (zC _ _)).kept (Below.refl _ _).drew) (zA HV) (zA HS) (zA HOK)).mono ?_; rintro e w2 ⟨⟨L,rfl,hL,hLx⟩,hb2⟩; have q0:=hb2.cell (p:=⟨w.heap.size,0,none⟩) (by first | (simp; omega)); have q1:=hb2.cell (p:=⟨w.heap.size,1,none⟩) (by first | (simp; omega)); have HLX:=zB hLx; have HB2:=zB hb2; obtain ⟨hc2,hf2⟩:=zEN hb2; clear hLx hb2))
 ·have hz2:W0.heap.size <= w2.heap.size:=(zA HB2).size
  have HSC:=zB (zIR (w2:=w2) (L:=L) (s:=s) ((zA HIJ).kept ((Below.refl _ _).drew.trans (zA HB2))) (by omega) (by omega))
  have HBEL:Below w.heap.size w (w2.alloc (.cells #[.map (some bo),.map (some bs),.int .i64 (L:Int),.string s,.int .i64 0,.int .i64 0,.slice none 0 0] 152)):=(belI.drew.trans ((zA HB2).mono belI.size)).alloc (by omega) _
  have hPW:w.heap.size <= w2.heap.size:=by omega
  have hsp:=(zA HSC).lt
  go_wp2_with fail
  refine (zIE _ bo bs L xs s _ (zA HSC) h20 hL (zA HLX) (zA HV) (zA HK)).mono ?_
  rintro e w4 ⟨rfl,g,cp,us,hcell,⟨hpg,hcp,hcpm⟩,hfil,hlex,hbel⟩
  have c6:=zA hcell
  have bel4:=HBEL.trans (hbel.mono hPW)
  go_wp2_with fail
  go_ret
  exact ⟨⟨g,cp,us,rfl,⟨by omega,hcp,hcpm⟩,hfil,hlex⟩,bel4⟩
 ·have hz2:W0.heap.size < w2.heap.size:=by have:=(zA HB2).size; simp at this; omega
  have HSC:=zB (zIS (w2:=w2) (p:=W0.heap.size) (L:=L) (s:=s) ((((zA HIJ).kept (zC _ _)).kept (Below.refl _ _).drew).kept (zA HB2)) (by omega) (by omega) (fun j hj=>by
   rw [hc2 _ _ (by simp)]
   match j,hj with
   | 0,_=>simp [go_sem]
   | 1,_=>simp [go_sem]
   | 2,_=>simp [go_sem]
   | 3,_=>simp [go_sem]
   | 4,_=>simp [go_sem]
   | 5,_=>simp [go_sem]
   | 6,_=>simp [go_sem]) (fun o=>by rw [hf2 _ _ (by simp)]; simp [go_sem]))
  have HBEL:Below w.heap.size w (w2.setCells W0.heap.size 0 [.map (some bo),.map (some bs),.int .i64 (L:Int),.string s,.int .i64 0,.int .i64 0,.slice none 0 0]):=zAW belI.size _ _ _ ((belI.alloc belI.size _).drew.trans ((zA HB2).mono (by have:=belI.size; simp; omega)))
  have hPW:w.heap.size <= W0.heap.size:=belI.size
  have hsp:=(zA HSC).lt
  go_wp2_with fail
  refine (zIE _ bo bs L xs s _ (zA HSC) h20 hL (zA HLX) (zA HV) (zA HK)).mono ?_
  rintro e w4 ⟨rfl,g,cp,us,hcell,⟨hpg,hcp,hcpm⟩,hfil,hlex,hbel⟩
  have c6:=zA hcell
  have bel4:=HBEL.trans (hbel.mono hPW)
  go_wp2_with fail
  go_ret
  exact ⟨⟨g,cp,us,rfl,⟨by omega,hcp,hcpm⟩,hfil,hlex⟩,bel4⟩
end Go.Proofs.YtfboipappaonhaaGreat
