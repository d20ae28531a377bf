import Derived.Test.YtadiaghhackbjaaGreatDoorU13
namespace Go.Proofs.YtadiaghhackbjaaGreatDoor
set_option linter.all false
set_option maxHeartbeats 0
set_option maxRecDepth 100000
open Proofs.Tryz RowKit Maps
variable{G:ByteArray -> Option Value}{dn dn':ByteArray -> Int -> Bool}{kd:Int}{lo p:Nat}{ns:List OpR}{s t:ByteArray}{v:Value}{w:World}
def zDx(lo:Nat)(w:JY)(K:FuncId)(p:Nat)(q:OpR)(x:Value):Prop:=
 ∃ba bp bh,x=.func (.func K) #[] #[Qp ba,Qp bp,Qp bh]/\lo<=ba/\lo<=bp/\lo<=bh /\
  OpC w ba q/\w.cell? (Qa bp 0)=some (Qp p)/\w.cell? (Qa bh 0)=some (Qi (ZU q.s q.k q.l q.sd false))
def zFf(lo:Nat)(w:JY)(K:FuncId)(p:Nat)(q:OpR)(x:Value):Prop:=
 ∃ba bp bh bs,x=.func (.func K) #[] #[Qp ba,Qp bp,Qp bh,Qp bs]/\lo<=ba/\lo<=bp/\lo<=bh/\lo<=bs /\
  OpC w ba q/\w.cell? (Qa bp 0)=some (Qp p)/\w.cell? (Qa bh 0)=some (Qi (ZU q.s q.k q.l q.sd false))/\w.cell? (Qa bs 0)=some (Qi (ZU q.s q.k q.l q.sd true))
theorem zDx.kept{lo:Nat}{w w':JY}{K:FuncId}{p g:Nat}{q:OpR}{x:Value}(h:zDx lo w K p q x)(hk:zJ w w' g)(hg:g<lo):zDx lo w' K p q x:=by
 obtain⟨ba,bp,bh,h0,n1,n2,n3,h1,h2,h3⟩:=h;exact⟨ba,bp,bh,h0,n1,n2,n3,h1.kept hk Jo,(hk.cell (b:=bp) (block_lt_of_cell h2) Jo 0).trans h2,(hk.cell (b:=bh) (block_lt_of_cell h3) Jo 0).trans h3⟩
theorem zFf.kept{lo:Nat}{w w':JY}{K:FuncId}{p g:Nat}{q:OpR}{x:Value}(h:zFf lo w K p q x)(hk:zJ w w' g)(hg:g<lo):zFf lo w' K p q x:=by
 obtain⟨ba,bp,bh,bs,h0,n1,n2,n3,n4,h1,h2,h3,h4⟩:=h;exact⟨ba,bp,bh,bs,h0,n1,n2,n3,n4,h1.kept hk Jo,(hk.cell (b:=bp) (block_lt_of_cell h2) Jo 0).trans h2,(hk.cell (b:=bh) (block_lt_of_cell h3) Jo 0).trans h3,(hk.cell (b:=bs) (block_lt_of_cell h4) Jo 0).trans h4⟩
theorem zDx.low{lo':Nat}{K:FuncId}{q:OpR}{x:Value}(h:zDx lo w K p q x)(hl:lo'<=lo):zDx lo' w K p q x:=by
 obtain⟨ba,bp,bh,h0,n1,n2,n3,h1,h2,h3⟩:=h;exact⟨ba,bp,bh,h0,Jo,Jo,Jo,h1,h2,h3⟩
theorem zFf.low{lo':Nat}{K:FuncId}{q:OpR}{x:Value}(h:zFf lo w K p q x)(hl:lo'<=lo):zFf lo' w K p q x:=by
 obtain⟨ba,bp,bh,bs,h0,n1,n2,n3,n4,h1,h2,h3,h4⟩:=h;exact⟨ba,bp,bh,bs,h0,Jo,Jo,Jo,Jo,h1,h2,h3,h4⟩
def BfD(lo:Nat)(w:JY)(p:Nat)(ns:List OpR)(dn:ByteArray->Int->Bool)(G:ByteArray->Option Value):Prop:=
 G opn=some (.func (.func 141) #[Qp p] #[]) /\
 ∀t,t≠opn->(dn t 1=false->G t=none)/\(dn t 1=true->∃v,G t=some v/\zDx lo w 184 p (opA ns (rt 3 t)) v)
def BbD(lo:Nat)(w:JY)(p:Nat)(ns:List OpR)(dn:ByteArray->Int->Bool)(G:ByteArray->Option Value):Prop:=
 ∀t,(dn t 2=false->dn t 3=false->G t=none) /\
 (dn t 2=true->∃v,G t=some v/\zFf lo w 185 p (opA ns (rt 4 t)) v) /\
 (dn t 3=true->∃v,G t=some v/\zDx lo w 187 p (opA ns (rt 5 t)) v)
theorem BfD.kept{lo:Nat}{w w':JY}{p g:Nat}{ns:List OpR}{dn:ByteArray->Int->Bool}{G:ByteArray->Option Value}(h:BfD lo w p ns dn G)(hk:zJ w w' g)(hg:g<lo):BfD lo w' p ns dn G:=
 ⟨h.1,fun t ht=>⟨(h.2 t ht).1,fun hb=>by obtain⟨v,h1,h2⟩:=(h.2 t ht).2 hb;exact⟨v,h1,h2.kept hk hg⟩⟩⟩
theorem BbD.kept{lo:Nat}{w w':JY}{p g:Nat}{ns:List OpR}{dn:ByteArray->Int->Bool}{G:ByteArray->Option Value}(h:BbD lo w p ns dn G)(hk:zJ w w' g)(hg:g<lo):BbD lo w' p ns dn G:=
 fun t=>⟨(h t).1,fun hb=>by obtain⟨v,h1,h2⟩:=(h t).2.1 hb;exact⟨v,h1,h2.kept hk hg⟩,fun hb=>by obtain⟨v,h1,h2⟩:=(h t).2.2 hb;exact⟨v,h1,h2.kept hk hg⟩⟩
theorem zET(h:s.data=t.data):s=t:=by cases s;cases t;simp at h;rw[h]
def zHJ(dn dn':ByteArray->Int->Bool)(s:JZ)(kd:Int):Prop:=∀t k,dn' t k=true↔dn t k=true\/(t=s/\k=kd)
theorem zHJ.other(h:zHJ dn dn' s kd){k:Int}(hn:¬ (t=s/\k=kd)):dn' t k=dn t k:=by
 have:=h t k;cases a:dn' t k<;>cases b:dn t k<;>simp[a,b,hn] at this ⊢
 all_goals exact yR this (by simp[hn])
theorem BfD.keep(h:BfD lo w p ns dn G)(hm:zHJ dn dn' s kd)(hk:kd≠1):BfD lo w p ns dn' G:=
 ⟨h.1,fun t ht=>by rw[hm.other (fun e=>hk e.2.symm)];exact h.2 t ht⟩
theorem BbD.keep(h:BbD lo w p ns dn G)(hm:zHJ dn dn' s kd)(hk:kd=1):BbD lo w p ns dn' G:=
 fun t=>by rw[hm.other (fun e=>Jo),hm.other (fun e=>Jo)];exact h t
theorem BfD.put(h:BfD lo w p ns dn G)(hm:zHJ dn dn' s 1)(hs:s≠opn)(hv:zDx lo w 184 p (opA ns (rt 3 s)) v):BfD lo w p ns dn' (fun t'=>if t'.data=s.data then some v else G t'):=by
 refine⟨?_,fun t ht=>?_⟩
 ·simp only;rw[yP (fun e=>hs (zET e).symm)];exact h.1
 ·by_cases e:t=s
  ·subst e;refine⟨fun hf=>?_,fun _=>⟨v,yQ rfl,hv⟩⟩;rw[(hm t 1).2 (yU ⟨rfl,rfl⟩)] at hf;cases hf
  ·simp only;rw[yP (fun x=>e (zET x)),hm.other (fun x=>e x.1)];exact h.2 t ht
theorem BbD.put2(h:BbD lo w p ns dn G)(hm:zHJ dn dn' s 2)(h3:dn s 3=false)(hv:zFf lo w 185 p (opA ns (rt 4 s)) v):BbD lo w p ns dn' (fun t'=>if t'.data=s.data then some v else G t'):=by
 intro t;by_cases e:t=s
 ·subst e;refine⟨fun hf=>?_,fun _=>⟨v,yQ rfl,hv⟩,fun hf=>?_⟩
  ·rw[(hm t 2).2 (yU ⟨rfl,rfl⟩)] at hf;cases hf
  ·rw[hm.other (fun x=>Jo),h3] at hf;cases hf
 ·simp only;rw[yP (fun x=>e (zET x)),hm.other (fun x=>e x.1),hm.other (fun x=>e x.1)];exact h t
theorem BbD.put3(h:BbD lo w p ns dn G)(hm:zHJ dn dn' s 3)(h2:dn s 2=false)(hv:zDx lo w 187 p (opA ns (rt 5 s)) v):BbD lo w p ns dn' (fun t'=>if t'.data=s.data then some v else G t'):=by
 intro t;by_cases e:t=s
 ·subst e;refine⟨fun _ hf=>?_,fun hf=>?_,fun _=>⟨v,yQ rfl,hv⟩⟩
  ·rw[(hm t 3).2 (yU ⟨rfl,rfl⟩)] at hf;cases hf
  ·rw[hm.other (fun x=>Jo),h2] at hf;cases hf
 ·simp only;rw[yP (fun x=>e (zET x)),hm.other (fun x=>e x.1),hm.other (fun x=>e x.1)];exact h t
theorem zF2{q:Nat}{k:Int}(h:ZF ns t k=true)(hq:(q:Int)-2=k)(b:Bool):ZU (opA ns (rt q t)).s (opA ns (rt q t)).k (opA ns (rt q t)).l (opA ns (rt q t)).sd b=sH ns (q,t) b:=by
 have hk:=zEy h hq;unfold knB at hk;unfold sH zh opA;simp only[rt] at hk ⊢;cases hf:fnd ns t ((q:Int)-2) with
 |none=>rw[hf] at hk;cases hk
 |some j=>rfl
theorem BfD.ok(h:BfD lo w p ns (ZF ns) G)(hp:p<lo):zS4 w p ns G:=by
 refine⟨h.1,fun t ht=>⟨(h.2 t ht).1,fun hb=>?_⟩⟩;obtain⟨v,h1,ba,bp,bh,rfl,n1,n2,n3,c1,c2,c3⟩:=(h.2 t ht).2 hb;rw[zF2 hb Jd] at c3;exact⟨ba,bp,bh,h1,Jo,Jo,Jo,c1,c2,c3⟩
theorem BbD.ok(h:BbD lo w p ns (ZF ns) G)(hp:p<lo):zS5 w p ns G:=by
 intro t;refine⟨fun hn=>(h t).1 ?_ ?_,fun hb=>?_,fun hb=>?_⟩
 ·cases e:ZF ns t 2 with
  |false=>rfl
  |true=>obtain⟨j,hj,e1,_⟩:=(Zl _ _ _).1 e;exact yR ⟨j,hj,e1⟩ hn
 ·cases e:ZF ns t 3 with
  |false=>rfl
  |true=>obtain⟨j,hj,e1,_⟩:=(Zl _ _ _).1 e;exact yR ⟨j,hj,e1⟩ hn
 ·obtain⟨v,h1,ba,bp,bh,bs,rfl,n1,n2,n3,n4,c1,c2,c3,c4⟩:=(h t).2.1 hb;rw[zF2 hb Jd] at c3;rw[zF2 hb Jd] at c4;exact⟨ba,bp,bh,bs,h1,Jo,Jo,Jo,Jo,c1,c2,c3,c4⟩
 ·obtain⟨v,h1,ba,bp,bh,rfl,n1,n2,n3,c1,c2,c3⟩:=(h t).2.2 hb;rw[zF2 hb Jd] at c3;exact⟨ba,bp,bh,h1,Jo,Jo,Jo,c1,c2,c3⟩
def dnL(ns:List OpR)(left:Lit->Bool)(t:JZ)(k:Int):Bool:=ZF ns t k&&!left (klO t k)
theorem zTJ{left:Lit->Bool}(hz:ZA ns)(H:zBi ns ns.length)(q:s.size<=maxLen)(K:(Lit.int .i64 kd).wf=true)(hh:ZF ns s kd=true):zHJ (dnL ns left) (dnL ns (fun z=>left z&&!z.sameKey (klO s kd))) s kd:=by
 intro t k;unfold dnL;constructor
 ·intro h;simp only[Bool.and_eq_true,Bool.not_eq_true',Bool.and_eq_false_iff,Bool.not_eq_false'] at h;obtain⟨h1,h2⟩:=h;rcases h2 with h2|h2
  ·exact yS (by simp[h1,h2])
  ·right;have e:klO t k=klO s kd:=by simpa[Lit.sameKey,klO] using h2
   obtain⟨j,hj,e1,e2⟩:=(Zl _ _ _).1 h1;have:=zLv (by rw[<-e1];exact hz j hj) q (by rw[<-e2];exact zHg (H j hj)) K e;exact this
 ·rintro(h|⟨rfl,rfl⟩)
  ·simp only[Bool.and_eq_true,Bool.not_eq_true'] at h;simp[h.1,h.2]
  ·simp[hh,Lit.sameKey,klO]
theorem zKe(p:Nat)(q:OpR)(w:JY)(hs:q.s.size<=maxLen):Calls prog 143 #[Qp p,.agg #[Qs q.s,Qi q.k,Qi q.l,Qi q.sd]] w fun x w'=>(∃v,x=.returned v/\Hid (zFf w.heap.size w' 185 p q v))/\Qb w w':=by
 obtain⟨W,hW⟩:=Jx ((w.alloc (.cells #[Qp p] 166)).alloc (.cells #[Qs q.s,Qi q.k,Qi q.l,Qi q.sd] 33));have y:w.heap.size+2<=W.heap.size:=by rw[hW];simp
 have h:Qb w W:=by rw[hW];exact(zC _ _).alloc Js _
 have g0:W.cell? (Qa w.heap.size 0)=some (Qp p):=by rw[hW];simp[go_sem]
 have g1:OpC W (w.heap.size+1) q:=by rw[hW];exact⟨Jg,Jg,Jg,Jg⟩
 have HX:=fun b W'=>zAn q.s q.k q.l q.sd b W' hs
 obtain⟨k0,k1,k2,k3⟩:=g1;have HW:=zB hW;clear hW;have Dx00:W.heap.size≠w.heap.size:=Jo;have Dy00:w.heap.size≠W.heap.size:=Jo;have Dx01:W.heap.size≠w.heap.size+1:=Jo;have Dy01:w.heap.size+1≠W.heap.size:=Jo;have Dx10:W.heap.size+1≠w.heap.size:=Jo;have Dy10:w.heap.size≠W.heap.size+1:=Jo;have Dx11:W.heap.size+1≠w.heap.size+1:=Jo;have Dy11:w.heap.size+1≠W.heap.size+1:=Jo;go_enter func143,ntmps143;go_wp2_with fail;rw[<-zA HW];go_region_held (fun w'=>w'.cell? (Qa (w.heap.size+1) 0)=some (Qs q.s)/\w'.cell? (Qa (w.heap.size+1) 1)=some (Qi q.k)/\w'.cell? (Qa (w.heap.size+1) 2)=some (Qi q.l)/\w'.cell? (Qa (w.heap.size+1) 3)=some (Qi q.sd)) (first|(go_keep;done)|exact⟨Bs0,Bs1,Bs2,Bs3⟩|exact⟨As0,As1,As2,As3⟩)
  (first|(go_at_call 183;with_reducible refine(HX false _).mono ?_;rintro e w1 ⟨rfl,hb1⟩;have Q:=hb1.size;(try simp at Q);have Ax00:w1.heap.size≠w.heap.size:=Jo;have Ay00:w.heap.size≠w1.heap.size:=Jo;have Ax01:w1.heap.size≠w.heap.size+1:=Jo;have Ay01:w.heap.size+1≠w1.heap.size:=Jo;have Ax10:w1.heap.size+1≠w.heap.size:=Jo;have Ay10:w.heap.size≠w1.heap.size+1:=Jo;have Ax11:w1.heap.size+1≠w.heap.size+1:=Jo;have Ay11:w.heap.size+1≠w1.heap.size+1:=Jo;(try(have Al0:W.heap.size<w1.heap.size:=Jo));(try(have An0:W.heap.size≠w1.heap.size:=Jo));(try(have Am0:W.heap.size≠w1.heap.size+1:=Jo));(try(have Al1:W.heap.size+1<w1.heap.size:=Jo));(try(have An1:W.heap.size+1≠w1.heap.size:=Jo));(try(have Am1:W.heap.size+1≠w1.heap.size+1:=Jo));have As0:w1.cell? (Qa (w.heap.size+1) 0)=some (Qs q.s):=(hb1.cell (p:=(Qa (w.heap.size+1) 0)) Jq).trans (by simp[*,World.cell?_alloc_some,World.cell?_setCell_far]);have As1:w1.cell? (Qa (w.heap.size+1) 1)=some (Qi q.k):=(hb1.cell (p:=(Qa (w.heap.size+1) 1)) Jq).trans (by simp[*,World.cell?_alloc_some,World.cell?_setCell_far]);have As2:w1.cell? (Qa (w.heap.size+1) 2)=some (Qi q.l):=(hb1.cell (p:=(Qa (w.heap.size+1) 2)) Jq).trans (by simp[*,World.cell?_alloc_some,World.cell?_setCell_far]);have As3:w1.cell? (Qa (w.heap.size+1) 3)=some (Qi q.sd):=(hb1.cell (p:=(Qa (w.heap.size+1) 3)) Jq).trans (by simp[*,World.cell?_alloc_some,World.cell?_setCell_far]);have As4:w1.cell? (Qa w.heap.size 0)=some (Qp p):=Jc hb1 Jh (by simp[*,World.cell?_alloc_some,World.cell?_setCell_far]);(try(have Aa0:w1.cell? (Qa W.heap.size 0)=some (Qi 0):=Jc hb1 Jh (by first|(simp[go_sem];done)|(simp[*,World.cell?_alloc_some];done)|(simp[*,go_sem];done))));(try(have Af0:w1.frozen? (Qa W.heap.size 0)=false:=(hb1.frozen (p:=Qa W.heap.size 0) Jh).trans (by first|(simp[go_sem];done)|(simp[*,go_sem];done))));(try(have Aa1:w1.cell? (Qa (W.heap.size+1) 0)=some (Qi 0):=(hb1.cell (p:=(Qa (W.heap.size+1) 0)) Jh).trans (by first|(simp[go_sem];done)|(simp[*,World.cell?_alloc_some];done)|(simp[*,go_sem];done))));(try(have Af1:w1.frozen? (Qa (W.heap.size+1) 0)=false:=(hb1.frozen (p:=(Qa (W.heap.size+1) 0)) Jh).trans (by first|(simp[go_sem];done)|(simp[*,go_sem];done))));have H:Qb w w1:=Below.trans (by repeat(first|exact h|exact h|refine Below.drew ?_|refine Below.setCell ?_ (by first|omega|(simp;omega)) _|refine Below.alloc ?_ (by first|omega|(simp;omega)) _)) (hb1.mono Jh);clear hb1)|(go_at_call 183;with_reducible refine(HX true _).mono ?_;rintro e w2 ⟨rfl,hb2⟩;have X:=hb2.size;(try simp at X);have Bx00:w2.heap.size≠w.heap.size:=Jo;have By00:w.heap.size≠w2.heap.size:=Jo;have Bx01:w2.heap.size≠w.heap.size+1:=Jo;have By01:w.heap.size+1≠w2.heap.size:=Jo;have Bx10:w2.heap.size+1≠w.heap.size:=Jo;have By10:w.heap.size≠w2.heap.size+1:=Jo;have Bx11:w2.heap.size+1≠w.heap.size+1:=Jo;have By11:w.heap.size+1≠w2.heap.size+1:=Jo;(try(have Bl0:W.heap.size<w2.heap.size:=Jo));(try(have Bn0:W.heap.size≠w2.heap.size:=Jo));(try(have Bm0:W.heap.size≠w2.heap.size+1:=Jo));(try(have Bl1:W.heap.size+1<w2.heap.size:=Jo));(try(have Bn1:W.heap.size+1≠w2.heap.size:=Jo));(try(have Bm1:W.heap.size+1≠w2.heap.size+1:=Jo));(try(have Bl2:w1.heap.size<w2.heap.size:=Jo));(try(have Bn2:w1.heap.size≠w2.heap.size:=Jo));(try(have Bm2:w1.heap.size≠w2.heap.size+1:=Jo));(try(have Bl3:w1.heap.size+1<w2.heap.size:=Jo));(try(have Bn3:w1.heap.size+1≠w2.heap.size:=Jo));(try(have Bm3:w1.heap.size+1≠w2.heap.size+1:=Jo));have Bs0:w2.cell? (Qa (w.heap.size+1) 0)=some (Qs q.s):=(hb2.cell (p:=(Qa (w.heap.size+1) 0)) Jq).trans (by simp[*,World.cell?_alloc_some,World.cell?_setCell_far]);have Bs1:w2.cell? (Qa (w.heap.size+1) 1)=some (Qi q.k):=(hb2.cell (p:=(Qa (w.heap.size+1) 1)) Jq).trans (by simp[*,World.cell?_alloc_some,World.cell?_setCell_far]);have Bs2:w2.cell? (Qa (w.heap.size+1) 2)=some (Qi q.l):=(hb2.cell (p:=(Qa (w.heap.size+1) 2)) Jq).trans (by simp[*,World.cell?_alloc_some,World.cell?_setCell_far]);have Bs3:w2.cell? (Qa (w.heap.size+1) 3)=some (Qi q.sd):=(hb2.cell (p:=(Qa (w.heap.size+1) 3)) Jq).trans (by simp[*,World.cell?_alloc_some,World.cell?_setCell_far]);have Bs4:w2.cell? (Qa w.heap.size 0)=some (Qp p):=Jc hb2 Jh (by simp[*,World.cell?_alloc_some,World.cell?_setCell_far]);(try(have Ba0:w2.cell? (Qa W.heap.size 0)=some (Qi 0):=Jc hb2 Jh (by first|(simp[go_sem];done)|(simp[*,World.cell?_alloc_some];done)|(simp[*,go_sem];done))));(try(have Bf0:w2.frozen? (Qa W.heap.size 0)=false:=(hb2.frozen (p:=Qa W.heap.size 0) Jh).trans (by first|(simp[go_sem];done)|(simp[*,go_sem];done))));(try(have Ba1:w2.cell? (Qa (W.heap.size+1) 0)=some (Qi 0):=(hb2.cell (p:=(Qa (W.heap.size+1) 0)) Jh).trans (by first|(simp[go_sem];done)|(simp[*,World.cell?_alloc_some];done)|(simp[*,go_sem];done))));(try(have Bf1:w2.frozen? (Qa (W.heap.size+1) 0)=false:=(hb2.frozen (p:=(Qa (W.heap.size+1) 0)) Jh).trans (by first|(simp[go_sem];done)|(simp[*,go_sem];done))));(try(have Ba2:w2.cell? (Qa w1.heap.size 0)=some (Qi 0):=Jc hb2 Jh (by first|(simp[go_sem];done)|(simp[*,World.cell?_alloc_some];done)|(simp[*,go_sem];done))));(try(have Bf2:w2.frozen? (Qa w1.heap.size 0)=false:=(hb2.frozen (p:=Qa w1.heap.size 0) Jh).trans (by first|(simp[go_sem];done)|(simp[*,go_sem];done))));(try(have Ba3:w2.cell? (Qa (w1.heap.size+1) 0)=some (Qi 0):=(hb2.cell (p:=(Qa (w1.heap.size+1) 0)) Jh).trans (by first|(simp[go_sem];done)|(simp[*,World.cell?_alloc_some];done)|(simp[*,go_sem];done))));(try(have Bf3:w2.frozen? (Qa (w1.heap.size+1) 0)=false:=(hb2.frozen (p:=(Qa (w1.heap.size+1) 0)) Jh).trans (by first|(simp[go_sem];done)|(simp[*,go_sem];done))));have K:Qb w w2:=Below.trans (by repeat(first|exact h|exact H|refine Below.drew ?_|refine Below.setCell ?_ (by first|omega|(simp;omega)) _|refine Below.alloc ?_ (by first|omega|(simp;omega)) _)) (hb2.mono Jh);clear hb2))
 all_goals go_wp2_with fail
 all_goals go_ret
 all_goals refine⟨⟨_,rfl,zB ⟨_,_,_,_,rfl,?_,?_,?_,?_,⟨?_,?_,?_,?_⟩,?_,?_,?_⟩⟩,?_⟩
 all_goals first
  |omega
  |(simp[*,Qa,Qi,Qs,World.cell?_alloc_some,World.cell?_setCell_far];done)
  |(simp[*,Qa,go_sem];done)
  |(simp;omega)
  |repeat(first|exact h|exact K|refine Below.drew ?_|refine Below.setCell ?_ (by first|omega|(simp;omega)) _|refine Below.alloc ?_ (by first|omega|(simp;omega)) _)
end Go.Proofs.YtadiaghhackbjaaGreatDoor
