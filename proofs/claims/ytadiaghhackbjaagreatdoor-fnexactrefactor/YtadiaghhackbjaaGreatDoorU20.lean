import Derived.Test.YtadiaghhackbjaaGreatDoorU13
namespace Go.Proofs.YtadiaghhackbjaaGreatDoor
set_option linter.all false
set_option maxHeartbeats 0
set_option maxRecDepth 100000
open Proofs.Tryz RowKit Maps
open Go.Deep (BT)
variable{ns:List OpR}
def atOf(w:JY)(p:Nat):Nat:=match w.cell? (Qa p 1) with
 |some v=>(intOf v).toNat
 |none=>0
theorem Z4.atOf{w:JY}{p g o n c i bf bb:Nat}(h:Z4 w p g o n c i bf bb):atOf w p=i:=by
 unfold Proofs.YtadiaghhackbjaaGreatDoor.atOf;rw[h.2.1];simp[intOf]
def zQa(ns:List OpR)(ts:List zU)(w:JY)(p g o c bf bb d:Nat)(h:Int)(res:Option (ET×List SyR))(T:ET)(j:Nat)(wr:JY):Prop:=
 zn ns T/\Z4 wr p g o ts.length c j bf bb/\zJ w wr p/\zAJ ns (true,d) (sgs ns ts j (ts.length-j))/\h<=lvT ns T/\res=RD ns h (some T) (sgs ns ts j (ts.length-j))
theorem zVA(hv:zO ns 0){T T':ET}{t:JZ}{d:Nat}{H:Int}{r r':List SyR}(hT:zn ns T)(hf:zAJ ns (false,d) r)(hk:knB ns (4,t)=true)(hl:H<=sLv ns (4,t))(h:(if lvT ns T<sH ns (4,t) false then none else(match RD ns (sH ns (4,t) true) none r with
   |none=>none
   |some x=>some (BT.node 4 0 t T x.1,x.2)))=some (T',r')):zn ns T'/\zAJ ns (true,d) r'/\H<=lvT ns T'/\∃a,r=a++r':=by
 by_cases k:lvT ns T<sH ns (4,t) false
 ·rw[yQ k] at h;cases h
 ·rw[yP k] at h;cases hy:RD ns (sH ns (4,t) true) none r with
  |none=>rw[hy] at h;cases h
  |some y=>
   rw[hy] at h;simp only[Option.some.injEq,Prod.mk.injEq] at h;obtain⟨rfl,rfl⟩:=h;obtain⟨a1,a2,a3,_,a5⟩:=zAG hv _ _ none r d y ((zHB hv (s:=(4,t)) (yU (yS rfl)) hk).2 rfl) hf (fun L e=>by cases e) hy;exact⟨⟨rfl,yU (yU (yU ⟨rfl,hk,hT,a2,Jo,a3⟩))⟩,a1,hl,ySy y.1,a5⟩
theorem zTI{T T':ET}{t:JZ}{H:Int}{r r':List SyR}(hT:zn ns T)(hk:knB ns (5,t)=true)(hl:H<=sLv ns (5,t))(h:(if lvT ns T<sH ns (5,t) false then none else some (BT.node 5 0 t T .nil,r))=some (T',r')):zn ns T'/\H<=lvT ns T'/\r'=r:=by
 by_cases k:lvT ns T<sH ns (5,t) false
 ·rw[yQ k] at h;cases h
 ·rw[yP k] at h;simp only[Option.some.injEq,Prod.mk.injEq] at h;obtain⟨rfl,rfl⟩:=h;exact⟨⟨rfl,yU (yU (yS ⟨yU rfl,hk,hT,rfl,Jo⟩))⟩,hl,rfl⟩
theorem zRI{ts:List zU}(hF:zS6 ns ts){p g o c bf bb:Nat}(i d:Nat)(H:Int)(w:JY)(hs:zMJ ns ts p g o c bf bb (ts.length-i))(hl:H<=1001)(hf:zAJ ns (false,d) (sgs ns ts i (ts.length-i)))(r:PC w p g o bf bb ns ts)(hp:Z4 w p g o ts.length c i bf bb)(res:Option (ET×List SyR))(M:res=RD ns H none (sgs ns ts i (ts.length-i))):Calls prog 145 #[Qp p,Qi H] w (zHC ns w p g o ts.length c bf bb res):=by
 have hi:=zMI hf;have HX:=zRD hF i d H w hs hl hf r hp;have HF:=zB hF;have HS:=zB hs;have he:=zB r;have B:=zB (show res=(match zHl ns H (sgT ns ts i) (sgs ns ts (i+1) (ts.length-(i+1))) with
  |none=>none
  |some x=>RD ns H (some x.1) x.2) by rw[M,zFc hi,zWQ];rfl)
 have L:=zB (show ∀x,zHl ns H (sgT ns ts i) (sgs ns ts (i+1) (ts.length-(i+1)))=some x->zAJ ns (true,d) x.2/\zn ns x.1/\H<=lvT ns x.1/\sgs ns ts i (ts.length-i)=ySy x.1++x.2/\x.2.length<ts.length-i from fun x hx=>by
  have hc:=hf
  rw[zFc hi] at hc
  have h:=zLH hF.code hl hc hx
  rw[<-zFc hi] at h
  refine⟨h.1,h.2.1,h.2.2.1,h.2.2.2,?_⟩
  have e:=yV List.length h.2.2.2
  rw[zAq,yq] at e
  have:1<=(ySy x.1).length:=yw (Sh.pos h.2.1.sh) (zL8 x.1 h.2.1)
  omega)
 generalize zHl ns H (sgT ns ts i) (sgs ns ts (i+1) (ts.length-(i+1)))=fr at HX B L;clear hF hs r hp M hf;go_enter func145,ntmps145;go_wp2_with fail;refine HX.mono ?_;clear HX;rintro x w1 ⟨HK,⟨h0,rfl⟩|⟨T0,r0,h1,rfl,HG,HP⟩⟩
 ·have hn:res=none:=by rw[zA B,h0]
  exact⟨rfl,HK,yS ⟨hn,rfl⟩⟩
 ·have k:=zB (show zQa ns ts w p g o c bf bb d H res T0 (ts.length-r0.length) w1 from by
   obtain⟨a1,a2,a3,a4,a5⟩:=(zA L) _ h1
   have q:=zGa a4
   have e:i+(ts.length-i)-r0.length=ts.length-r0.length:=Jo
   simp only[e] at q
   have e2:ts.length-(ts.length-r0.length)=r0.length:=Jo
   refine⟨a2,HP,HK,?_,a3,?_⟩
   ·rw[e2,<-q.1];exact a1
   ·rw[e2,<-q.1,zA B,h1])
  have n:i<ts.length-r0.length:=by
   have:=((L) _ h1).2.2.2.2;simp only at this;omega
  have hm:=zB n;clear HK h1 HG HP B L n;go_wp2_with fail;go_loopw [5] (fun lv wr=>∃(T:ET)(j:Nat),lv=exT ns T/\i<j/\Hid (zQa ns ts w p g o c bf bb d H res T j wr)) (fun _ wr=>ts.length-atOf wr p);case atStart=>exact⟨T0,_,rfl,hm,k⟩
  case round=>
   clear k;obtain⟨T,j,rfl,hq,k⟩:=hrel;have J:=zJ.of_below (g:=p) ((yJ wr.heap.size wr).drew);obtain⟨b1,b2,b3,b4,b5,b6⟩:=zA k;have hj:=zMI b4;have hb:zCm ns ts j=true:=zQO (HF.all j hj) b4;obtain⟨n1,n2,n3,ht,_,⟨m,G,hG,hB⟩⟩:=he.kept b3;have ho:=zB (he.kept (b3.trans J));obtain⟨t0,t1,t2⟩:=ht j hj;have f:=zB (b2.below ((yJ wr.heap.size wr).drew));have b:=zB (b3.trans J);have hd:=zB b2.atOf;obtain⟨q0,q1,q2,q3,q4⟩:=b2;have D:=(hG.kept J.grown (fun e=>n3 (by injection e))).look (ty:=204) (e:=213) (z:=.nilFunc) underlying204 Jk (HF.size j hj);have X:=zFc (ns:=ns) hj;have Y:=b4;rw[X] at b6 Y;rw[zIt] at b6;have W:=zB b1;have K:(sgs ns ts j (ts.length-j)).length=ts.length-j:=zAq _ _ _ _;rcases zPA (HF.role j hj) hb (HF.tok j hj) with⟨hk,v,R⟩|⟨hk,v,O⟩|⟨ha,h4,h5⟩
   ·obtain⟨ba,bp,bh,bs,g0,m1,m2,m3,m4,k1,k2,k3,k4⟩:=((hB.kept J) _).2.1 v;rw[g0] at D;simp only[Option.getD,Option.isSome] at D;have C:knB ns (4,(atT ts j).t)=true:=zEy v Jd;rw[R] at b6 Y X;simp only[true_and] at b6;by_cases U:sLv ns (4,(atT ts j).t)<H
    ·have HR:=zB (show res=some (T,sgs ns ts j (ts.length-j)) by
      rw[b6,yP Jo,yP Js,<-X])
     have HE:=zB (by rw[K];omega:ts.length-(sgs ns ts j (ts.length-j)).length=j);have HX:=zUz (ns:=ns) (exT ns T) (atT ts j).t H wr.drew ba bp bh bs C k1 U;clear b1 b3 b4 b5 b6 hb ht hG hB X Y K J k g0 k1 k2 k3 k4 U C v R hk;go_wp2_with fail;go_region;go_wp2_with fail;go_call HX as x w2 ⟨rfl,hw2⟩;have hw:=hw2.symm;subst hw;clear HX;go_wp2_with fail;go_ret;exact⟨b,yU ⟨_,_,HR,rfl,W,by rw[zA HE];exact f⟩⟩
    ·have P:H<=sLv ns (4,(atT ts j).t):=Jo;have E:zAJ ns (false,d) (sgs ns ts (j+1) (ts.length-(j+1))):=by
      rcases zBw Y with⟨x,_⟩|⟨_,_,x⟩|⟨x,_⟩|⟨x,_⟩
      ·simp[eoS] at x
      ·exact x
      ·simp at x
      ·simp at x
     obtain⟨nx,u⟩:∃nx,nx=(if lvT ns T<sH ns (4,(atT ts j).t) false then none else(match RD ns (sH ns (4,(atT ts j).t) true) none (sgs ns ts (j+1) (ts.length-(j+1))) with
      |none=>none
      |some x=>some (BT.node 4 0 (atT ts j).t T x.1,x.2))):=⟨_,rfl⟩
     have Q:∀T' r',nx=some (T',r')->zn ns T'/\zAJ ns (true,d) r'/\H<=lvT ns T'/\∃a,sgs ns ts (j+1) (ts.length-(j+1))=a++r':=fun T' r' h=>zVA HF.code b1 E C P (by rw[<-u];exact h)
     have I:=zB Q;have HR:=zB (show res=nx.bind (fun x=>RD ns H (some x.1) x.2) by
      rw[b6,yQ P,u]
      by_cases hx:lvT ns T<sH ns (4,(atT ts j).t) false
      ·rw[yQ hx,yQ hx];rfl
      ·rw[yP hx,yP hx]
       cases RD ns (sH ns (4,(atT ts j).t) true) none (sgs ns ts (j+1) (ts.length-(j+1))) with
       |none=>rfl
       |some y=>rfl)
     have HX:=zS3 p g o ts.length c bf bb j (atT ts j).t (sgs ns ts (j+1) (ts.length-(j+1))) T H wr.drew ba bp bh bs m1 m2 m3 m4 C b1 (Jy HF.len) (fun w' hg hh=>HS (j+1) d _ w' Jo ((zHB HF.code (s:=(4,(atT ts j).t)) (yU (yS rfl)) C).2 rfl) E (ho.kept hg) hh) f k1 k2 k3 k4 P nx u (fun T' r' h=>(Q T' r' h).1);clear b1 b3 b4 b5 b6 hb ht hG hB X Y K J k g0 k1 k2 k3 k4 U C v R hk P E u Q;go_wp2_with fail;go_region;go_wp2_with fail;refine HX.mono ?_;clear HX;rintro x w2 ⟨HK2,⟨h0,rfl⟩|⟨T',r',h1,rfl,HG',HP'⟩⟩
     ·have hn:res=none:=by rw[zA HR,h0];rfl
      exact⟨rfl,zB (b.trans HK2),yS ⟨hn,rfl⟩⟩
     ·obtain⟨c1,c2,c3,a,c4⟩:=(zA I) _ _ h1;have q:=zGa c4;have S:=q.2;have e1:j+1+(ts.length-(j+1))-r'.length=ts.length-r'.length:=Jo;have e2:ts.length-(ts.length-r'.length)=r'.length:=Jo;have V:=q.1;rw[e1] at V;have A:=zB (show zQa ns ts w p g o c bf bb d H res T' (ts.length-r'.length) w2 from
       ⟨c1,HP',b.trans HK2,by rw[e2,<-V];exact c2,c3,by rw[e2,<-V,zA HR,h1];rfl⟩)
      have N:=zB (by rw[(zA HP').atOf,zA hd];omega:ts.length-atOf w2 p<ts.length-atOf wr p);have F:=zB (Jo:i<ts.length-r'.length);clear c1 c2 c3 c4 q S e1 e2 V h1 HK2 HG' HP' HR I;go_wp2_with fail;exact⟨⟨T',_,rfl,F,A⟩,N⟩
   ·obtain⟨ba,bp,bh,g0,m1,m2,m3,k1,k2,k3⟩:=((hB.kept J) _).2.2 v;rw[g0] at D;simp only[Option.getD,Option.isSome] at D;have l:knB ns (5,(atT ts j).t)=true:=zEy v Jd;rw[O] at b6 Y X;rw[yP Js] at b6;simp only[true_and] at b6;by_cases U:sLv ns (5,(atT ts j).t)<H
    ·have HR:=zB (show res=some (T,sgs ns ts j (ts.length-j)) by
      rw[b6,yP Jo,<-X])
     have HE:=zB (by rw[K];omega:ts.length-(sgs ns ts j (ts.length-j)).length=j);have HX:=zS2 (ns:=ns) (exT ns T) (atT ts j).t H wr.drew ba bp bh l k1 U;clear b1 b3 b4 b5 b6 hb ht hG hB X Y K J k g0 k1 k2 k3 U l v O hk;go_wp2_with fail;go_region;go_wp2_with fail;go_call HX as x w2 ⟨rfl,hw2⟩;have hw:=hw2.symm;subst hw;clear HX;go_wp2_with fail;go_ret;exact⟨b,yU ⟨_,_,HR,rfl,W,by rw[zA HE];exact f⟩⟩
    ·have P:H<=sLv ns (5,(atT ts j).t):=Jo;have E:zAJ ns (true,d) (sgs ns ts (j+1) (ts.length-(j+1))):=by
      rcases zBw Y with⟨x,_⟩|⟨x,_⟩|⟨_,_,x⟩|⟨x,_⟩
      ·simp[eoS] at x
      ·simp at x
      ·exact x
      ·simp at x
     obtain⟨nx,u⟩:=Jx ((if lvT ns T<sH ns (5,(atT ts j).t) false then none else some (BT.node 5 0 (atT ts j).t T .nil,sgs ns ts (j+1) (ts.length-(j+1)))));have Q:∀T' r',nx=some (T',r')->zn ns T'/\zAJ ns (true,d) r'/\H<=lvT ns T'/\∃a,sgs ns ts (j+1) (ts.length-(j+1))=a++r':=fun T' r' h=>by
      obtain⟨x1,x2,x3⟩:=zTI b1 l P (by rw[<-u];exact h);exact⟨x1,by rw[x3];exact E,x2,[],by rw[x3];rfl⟩
     have I:=zB Q;have HR:=zB (show res=nx.bind (fun x=>RD ns H (some x.1) x.2) by
      rw[b6,yQ P,u]
      by_cases hx:lvT ns T<sH ns (5,(atT ts j).t) false
      ·rw[yQ hx,yQ hx];rfl
      ·rw[yP hx,yP hx];rfl)
     have HX:=zRB p g o ts.length c bf bb j (atT ts j).t (sgs ns ts (j+1) (ts.length-(j+1))) T H wr.drew ba bp bh m1 m2 m3 l b1 (by rw[zAq];omega) HF.len f k1 k2 k3 P nx u (fun T' r' h=>(Q T' r' h).1);clear b1 b3 b4 b5 b6 hb ht hG hB X Y K J k g0 k1 k2 k3 U l v O hk P E u Q;go_wp2_with fail;go_region;go_wp2_with fail;refine HX.mono ?_;clear HX;rintro x w2 ⟨HK2,⟨h0,rfl⟩|⟨T',r',h1,rfl,HG',HP'⟩⟩
     ·have hn:res=none:=by rw[zA HR,h0];rfl
      exact⟨rfl,zB (b.trans HK2),yS ⟨hn,rfl⟩⟩
     ·obtain⟨c1,c2,c3,a,c4⟩:=(zA I) _ _ h1;have q:=zGa c4;have S:=q.2;have e1:j+1+(ts.length-(j+1))-r'.length=ts.length-r'.length:=Jo;have e2:ts.length-(ts.length-r'.length)=r'.length:=Jo;have V:=q.1;rw[e1] at V;have A:=zB (show zQa ns ts w p g o c bf bb d H res T' (ts.length-r'.length) w2 from
       ⟨c1,HP',b.trans HK2,by rw[e2,<-V];exact c2,c3,by rw[e2,<-V,zA HR,h1];rfl⟩)
      have N:=zB (by rw[(zA HP').atOf,zA hd];omega:ts.length-atOf w2 p<ts.length-atOf wr p);have F:=zB (Jo:i<ts.length-r'.length);clear c1 c2 c3 c4 q S e1 e2 V h1 HK2 HG' HP' HR I;go_wp2_with fail;exact⟨⟨T',_,rfl,F,A⟩,N⟩
   ·have Z:G (atT ts j).t=none:=(hB _).1 ha;rw[Z] at D;simp only[Option.getD,Option.isSome] at D;have HR:=zB (show res=some (T,sgs ns ts j (ts.length-j)) by
     rw[b6,yP (fun x=>h4 x.1),yP (fun x=>h5 x.1),<-X])
    have HE:=zB (by rw[K];omega:ts.length-(sgs ns ts j (ts.length-j)).length=j);clear b1 b3 b4 b5 b6 hb ht hG hB X Y K J k ha h4 h5 Z;go_wp2_with fail;go_region;go_wp2_with fail;go_ret;exact⟨b,yU ⟨_,_,HR,rfl,W,by rw[zA HE];exact f⟩⟩
theorem zN6{ns:List OpR}{ts:List zU}(hF:zS6 ns ts){p g o c bf bb:Nat}:∀m,zMJ ns ts p g o c bf bb m
 |0=>fun i d H w h=>yR h (yx _)
 |m+1=>fun i d H w h hl hf k hp=>
  zRI hF i d H w (fun i' d' l' w' h'=>zN6 hF m i' d' l' w' Jo) hl hf k hp _ rfl
def zVB:Ending:=.panicked [{ v:=.iface 195 (.agg #[Qi 6,Qi 0]),recovered:=false }]
theorem zDc{w:JY}{B:Nat}{u:Value}{us:List zD}(h:ZK w B u us)(h1:1<=us.length):∃g c,u = Ql g us.length c/\B<=g/\Zn w g us us.length:=by
 have hh:=h;unfold ZK at hh;obtain⟨_,⟨rfl,h0⟩|⟨g,cap,H,rfl,_⟩⟩:=h
 ·omega
 ·have:=zBT hh;exact⟨g,cap,rfl,this.1,this.2⟩
theorem zJ.setNf{w w':JY}{p b:Nat}(h:zJ w w' p)(hb:w.heap.size<=b)(o:Nat)(v:Value):zJ w (w'.setCell (Qa b o) v) p:=
 ⟨h.os,h.tape,h.output,by simpa[World.setCell] using h.size,fun i hi H=>(je _ _ _ _ (Jo:i≠b)).trans (h.block i hi H)⟩
def zRJ(ns:List OpR)(w:JY)(p:Nat)(res:Option (ET×List SyR))(x:Ending)(w':JY):Prop:=
 Hid (zJ w w' p)/\((res=none/\x=zMD)\/∃T r,res=some (T,r)/\Hid (zn ns T)/\((1000<hT T/\x=zVB) \/
  (hT T<=1000/\∃g' c',x=.returned (.agg #[Ql g' (nd T 0).length c'])/\w.heap.size<=g'/\Hid (Zn w' g' (nd T 0) (nd T 0).length))))
theorem zPS{ts:List zU}(hF:zS6 ns ts){p g o c bf bb:Nat}(w:JY)(hf:zAJ ns (false,0) (sgs ns ts 0 ts.length))(G:PC w p g o bf bb ns ts)(hp:Z4 w p g o ts.length c 0 bf bb)(res:Option (ET×List SyR))(K:res=RD ns 0 none (sgs ns ts 0 ts.length)):Calls prog 96 #[Qp p] w (zRJ ns w p res):=by
 have s:=block_lt_of_cell hp.1;simp only at s;have ha:p≠w.heap.size:=Jo;have Y:=zC w (.cells #[.slice none 0 0] 70);have V:=zJ.of_below (g:=p) Y;have HX:=zN6 hF (ts.length-0+1) 0 0 0 _ (Nat.lt_succ_self _) Jo (by rw[Nat.sub_zero];exact hf) (G.kept V) (hp.below Y);rw[Nat.sub_zero,<-K] at HX;have HT:=zB (show ∀T r,res=some (T,r)->tsz T<=100000 from fun T r h=>by
  rw[K] at h
  have h1:=zAG hF.code _ _ none _ 0 _ Jo hf (fun L e=>by cases e) h
  have e:=yV List.length h1.2.2.2.2
  simp only[yM,List.nil_append,yq] at e
  rw[zAq] at e
  have:=zL8 T h1.2.1
  have:=hF.len
  omega)
 have j:=zB V;clear hF G hp hf K Y V;go_enter func96,ntmps96;go_wp2_with fail;refine HX.mono ?_;clear HX;rintro x w1 ⟨HK,⟨h0,rfl⟩|⟨T,r,h1,rfl,HG,HP⟩⟩
 ·exact⟨rfl,zB (j.trans HK),yS ⟨h0,rfl⟩⟩
 ·have N:=(zA HT) T r h1;have hh:=zNn T;have c1:w1.cell? (Qa w.heap.size 0)=some (.slice none 0 0):=(HK.cell (b:=w.heap.size) Js Jo 0).trans Jg;have d1:w1.frozen? (Qa w.heap.size 0)=false:=(HK.frozen (b:=w.heap.size) Js Jo 0).trans Jg;have M:=zB (j.trans HK);have d:w.heap.size<w1.heap.size:=Jz HK.size
  have HR:=zB h1;obtain⟨Ty,v,f,q,he,t,O,Q⟩:=zSg ns T HG Jo;have HC:=zB Q;have HE:=zB he;rw[he];obtain⟨y,u⟩:∃h0,h0=hT T:=⟨_,rfl⟩;have l:=zB u;have hb:y<=100000:=Jo;rw[<-u] at HC;clear HK h1 Q he HT j HP u hh;go_wp2_with fail;go_call HC _ as x w2 ⟨rfl,hb2⟩;have c2:=Jc hb2 d c1;have d2:=(hb2.frozen (p:=Qa w.heap.size 0) d).trans d1;have P:=zB (M.trans (zJ.of_below hb2));have I:w.heap.size<w2.heap.size:=Jy hb2.size
  clear hb2 c1 d1 M t O HC;by_cases E:1000<y
  ·have R:(1000:Int)<(y:Int):=Jo;have HN:=zB (by rw[<-zA l];exact E:1000<hT T);go_wp2_with fail;exact⟨rfl,P,yU ⟨T,r,HR,HG,yS ⟨HN,rfl⟩⟩⟩
  ·have R:(y:Int)<=1000:=Jo;have HN:=zB (by rw[<-zA l];omega:hT T<=1000);obtain⟨Ty',v',f',J,A,m,H⟩:=zSh ns T HG;rw[zA HE] at J;obtain⟨rfl,rfl⟩:Ty=Ty'/\v=v':=by injection J with a b;exact⟨a,b⟩
   obtain⟨vs,X⟩:=Jx (nd T 0);have D:vs.length=tsz T:=by rw[X,ZX]
   have C:1<=vs.length:=by rw[D];exact Sh.pos HG.sh
   have k:=zB (H w2.heap.size (.slice none 0 0) [] vs w2 (World.ownsRow_nil _ _ _ _) (yk _) (by rw[yZ,<-X];omega) (by rw[List.nil_append,yZ];exact X));have n:=zB X;have Z:=zB C;clear X D H J E N C;go_wp2_with fail;go_call k as x w3 ⟨u',rfl,HRW,HGR,HOW⟩;obtain⟨g3,c3,rfl,S,U⟩:=zDc HRW Z;have e1:w3.cell? (Qa w.heap.size 0)=some (.slice none 0 0):=(zK HGR (b:=w.heap.size) I Jb 0).trans c2;have f1:w3.frozen? (Qa w.heap.size 0)=false:=(yD (w:=w2) (HGR.block w.heap.size I Jb)).trans d2;have B:Qb w2 w3:=⟨HGR.os,HGR.tape,HGR.output,HGR.size,fun i hi=>HGR.block i hi Jb⟩;have W:=zB (P.trans (zJ.of_below B));have F:=zB U;have hc:w.heap.size<g3:=Jo;clear HRW HGR HOW c2 d2 m A U k B P S;go_wp2_with fail;refine yN (v:=.agg #[Ql g3 vs.length c3]) ?res rfl ⟨?kk,yU ⟨T,r,HR,HG,yU ⟨HN,g3,c3,?vv,Jo,?ff⟩⟩⟩;case res=>simp[results,results96,go_sem,e1]
   case kk=>exact zB (W.setNf (yk _) _ _)
   case vv=>rw[<-zA n]
   case ff=>rw[<-zA n];exact zB (F.setCell _ _ _ Jo)
end Go.Proofs.YtadiaghhackbjaaGreatDoor
