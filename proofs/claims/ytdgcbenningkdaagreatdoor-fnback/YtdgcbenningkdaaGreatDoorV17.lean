import Derived.Lib.AppendIntMem
import Derived.Shelf.Strconv.Itoa3
import Derived.Test.YtdgcbenningkdaaGreatDoorV09
import Derived.Test.YtdgcbenningkdaaGreatDoorV10
namespace Go.Proofs.YtdgcbenningkdaaGreatDoor
set_option linter.all false
set_option maxHeartbeats 0
set_option maxRecDepth 100000
open Proofs.Tryz RowKit
variable{N g:Nat}{T:TypeId}{e e' e1 v:Value}{ns:List Ad}{o:zD}{p:Ad}{w w':World}{xs:List zD}
open _root_.Array renaming size→O
open List renaming length→Z
open Option renaming some→E,none→JL
open Obj renaming cells→JM
open Bool renaming false→Vt,true→Vp
open Proofs.Tryz renaming prog→Vb
open Value renaming agg→b9
open Ending renaming returned→i9
def E7(w:JY)(N:Nat)(p:Ad)(e):=w.cell? (J N 0)=E (W p.s)/\w.cell? (J N 1)=E (G p.k)/\w.cell? (J N 2)=E (G p.l)/\w.cell? (J N 3)=E (G p.sd)/\w.cell? (J N 4)=E e/\w.frozen? (J N 4)=Vt
def E7.kept(h:E7 w N p e)(b:zE w w' g)(H:N≠g):E7 w' N p e:=by obtain⟨a,d,f,i,j,k⟩:=h;have K:=jl a;have c:=b.cell K H;exact⟨(c 0).trans a,(c 1).trans d,(c 2).trans f,(c 3).trans i,(c 4).trans j,(b.frozen K H 4).trans k⟩
def E7.y(h:E7 w N p e)(a:Qb w w'):E7 w' N p e:=
 h.kept (g:=O w.1) (zE.Q a) (by have:N<O w.1:=jl h.1;omega)
theorem E7.set(h:E7 w N p e)(a):E7 (w.setCell (J N 4) a) N p a:=by
 obtain⟨b,d,f,g,i,j⟩:=h;have c:∀o,o≠4->(w.setCell (J N 4) a).cell? (J N o)=w.cell? (J N o):=λo k=>yj _ _ _ _ (λx=>k (by grind))
 exact⟨(c 0 I).trans b,(c 1 I).trans d,(c 2 I).trans f,(c 3 I).trans g,yu _ _ _ i,(yx).trans j⟩
def B7.other{m o}(h:B7 w g m)(H:N≠g)(v):B7 (w.setCell (J N o) v) g m:=
 ⟨(yj _ _ _ _ (λx=>H (by injection x))).trans h.1,(yx).trans h.2⟩
def zE.far{b}(h:zE w b g)(o v)(d:O w.1<=N):zE w (b.setCell (J N o) v) g:=
 ⟨h.os,h.tape,h.output,by simpa[World.setCell] using h.size,λi c a=>(jh _ _ _ _ (λe=>by have:i=N:=e;omega)).trans (h.block i c a)⟩
def zZp(p g m l h w)(R:∃d i,e1=.iface d i)(B:B7 w g m)(b:p.s.size<=maxLen)(y:l<=100000)(P:∀a,B7 a g m->Calls Vb 221 #[Qp g,.iface T v,G (Zn p.s p.k p.l p.sd Vt)] a (EV a g l e1)):Calls Vb 221 #[Qp g,Er p (.iface T v),G h] w (EV w g (l+IF p.l h) (EL p.l h (Er p e1))):=by
 obtain⟨d,i,rfl⟩:=R;have U:=zaf (b9 #[W p.s,G p.k,G p.l,G p.sd,.iface T v]);have i1:=aC (b9 #[W p.s,G p.k,G p.l,G p.sd,.iface T v]);unfold AL zG at U;have j:=jl B.1;have C:=S P;have K:Hid (B7 (w.alloc (JM #[W p.s,G p.k,G p.l,G p.sd,.iface T v] 274)).drew g m):=B.y ((zC).drew);have H:=S (show E7 (w.alloc (JM #[W p.s,G p.k,G p.l,G p.sd,.iface T v] 274)).drew (O w.1) p (.iface T v) from
  (show E7 (w.alloc (JM #[W p.s,G p.k,G p.l,G p.sd,.iface T v] 274)) (O w.1) p (.iface T v) from⟨Jg,Jg,Jg,Jg,Jg,Jg⟩).y ((yN).drew))
 have q:Hid (zE w (w.alloc (JM #[W p.s,G p.k,G p.l,G p.sd,.iface T v] 274)).drew g):=zE.Q ((zC).drew);unfold Er;go_enter func221,ntmps221;go_wp2_with fail;obtain⟨n,s,t,u,z,A⟩:=D H;go_region_with
  (first|(go_at_call 204;refine(Lg p.s p.k p.l p.sd Vt _ b).mono ?_;rintro e w3 ⟨rfl,c⟩;replace H:=S (H.y c);replace⟨n,s,t,u,z,A⟩:=D H;replace K:=S (K.y c);replace q:=S (q.trans (zE.Q c));clear c)|(go_at_call 221;refine(C _ K).mono ?_;rintro e w4 ⟨rfl,k,f⟩;replace H:=S (H.kept f I);replace K:=k;replace q:=S (q.trans f);clear f k;replace⟨n,s,t,u,z,A⟩:=D H))
 all_goals
  replace H:=S (H.set (.iface d i))
  replace K:=S (K.other (N:=O w.1) (o:=4) I (.iface d i))
  replace q:=S (q.far 4 (.iface d i) yk)
  obtain⟨n,s,t,u,z,A⟩:=D H
  go_wp2_with fail
  go_call O3 (Ym p (.iface d i)) g l h _ K y as x w6 ⟨rfl,L,M⟩
  obtain⟨V,v6,Q⟩:=Nt p.l h 274 (b9 #[W p.s,G p.k,G p.l,G p.sd,.iface d i])
  have X:=S (q.trans M)
  unfold Er
  rw[Q]
  go_wp2
  go_ret
  exact⟨by first|rfl|(rw[Q];rfl),L,X⟩
def uI(p g m l h w)(R:∃d i,e1=.iface d i)(B:B7 w g m)(b:p.s.size<=maxLen)(y:l<=100000)(P:∀a,B7 a g m->Calls Vb 221 #[Qp g,.iface T v,G (Zn p.s p.k p.l p.sd Vt)] a (EV a g l e1)):Calls Vb 221 #[Qp g,D8 p (.iface T v),G h] w (EV w g (l+IF p.l h) (EL p.l h (D8 p e1))):=by
 obtain⟨d,i,rfl⟩:=R;obtain⟨U,V,n3⟩:=Yo (b9 #[W p.s,G p.k,G p.l,G p.sd,.iface T v]);have i1:=Yp (b9 #[W p.s,G p.k,G p.l,G p.sd,.iface T v]);unfold AL zG at U;unfold AL zP at V;unfold AL zI at n3;have j:=jl B.1;have C:=S P;have K:Hid (B7 (w.alloc (JM #[W p.s,G p.k,G p.l,G p.sd,.iface T v] 278)).drew g m):=B.y ((zC).drew);have H:=S (show E7 (w.alloc (JM #[W p.s,G p.k,G p.l,G p.sd,.iface T v] 278)).drew (O w.1) p (.iface T v) from
  (show E7 (w.alloc (JM #[W p.s,G p.k,G p.l,G p.sd,.iface T v] 278)) (O w.1) p (.iface T v) from⟨Jg,Jg,Jg,Jg,Jg,Jg⟩).y ((yN).drew))
 have q:Hid (zE w (w.alloc (JM #[W p.s,G p.k,G p.l,G p.sd,.iface T v] 278)).drew g):=zE.Q ((zC).drew);unfold D8;go_enter func221,ntmps221;go_wp2_with fail;obtain⟨n,s,t,u,z,A⟩:=D H;go_region_with
  (first|(go_at_call 204;refine(Lg p.s p.k p.l p.sd Vt _ b).mono ?_;rintro e w3 ⟨rfl,c⟩;replace H:=S (H.y c);replace⟨n,s,t,u,z,A⟩:=D H;replace K:=S (K.y c);replace q:=S (q.trans (zE.Q c));clear c)|(go_at_call 221;refine(C _ K).mono ?_;rintro e w4 ⟨rfl,k,f⟩;replace H:=S (H.kept f I);replace K:=k;replace q:=S (q.trans f);clear f k;replace⟨n,s,t,u,z,A⟩:=D H))
 all_goals
  replace H:=S (H.set (.iface d i))
  replace K:=S (K.other (N:=O w.1) (o:=4) I (.iface d i))
  replace q:=S (q.far 4 (.iface d i) yk)
  obtain⟨n,s,t,u,z,A⟩:=D H
  go_wp2_with fail
  go_call O3 (Xg p (.iface d i)) g l h _ K y as x w6 ⟨rfl,L,M⟩
  obtain⟨T6,v6,Q⟩:=Nt p.l h 278 (b9 #[W p.s,G p.k,G p.l,G p.sd,.iface d i])
  have X:=S (q.trans M)
  unfold D8
  rw[Q]
  go_wp2
  go_ret
  exact⟨by first|rfl|(rw[Q];rfl),L,X⟩
def EJ(w:JY)(N:Nat)(p:Ad)(e a):=w.cell? (J N 0)=E (W p.s)/\w.cell? (J N 1)=E (G p.k)/\w.cell? (J N 2)=E (G p.l)/\w.cell? (J N 3)=E (G p.sd)/\w.cell? (J N 4)=E e/\w.cell? (J N 5)=E a/\w.frozen? (J N 4)=Vt/\w.frozen? (J N 5)=Vt
def EJ.kept(h:EJ w N p e e')(a:zE w w' g)(H:N≠g):EJ w' N p e e':=by obtain⟨b,d,f,i,j,k,l,m⟩:=h;have K:=jl b;have c:=a.cell K H;exact⟨(c 0).trans b,(c 1).trans d,(c 2).trans f,(c 3).trans i,(c 4).trans j,(c 5).trans k,(a.frozen K H 4).trans l,(a.frozen K H 5).trans m⟩
def EJ.y(h:EJ w N p e e')(a:Qb w w'):EJ w' N p e e':=
 h.kept (g:=O w.1) (zE.Q a) (by have:N<O w.1:=jl h.1;omega)
theorem EJ.set4(h:EJ w N p e e')(u):EJ (w.setCell (J N 4) u) N p u e':=by
 obtain⟨a,b,d,f,g,i,j,k⟩:=h;have c:∀o,o≠4->(w.setCell (J N 4) u).cell? (J N o)=w.cell? (J N o):=λo l=>yj _ _ _ _ (λx=>l (by grind))
 exact⟨(c 0 I).trans a,(c 1 I).trans b,(c 2 I).trans d,(c 3 I).trans f,yu _ _ _ g,(c 5 I).trans i,(yx).trans j,(yx).trans k⟩
theorem EJ.set5(h:EJ w N p e e')(u):EJ (w.setCell (J N 5) u) N p e u:=by
 obtain⟨a,b,d,f,g,i,j,k⟩:=h;have c:∀o,o≠5->(w.setCell (J N 5) u).cell? (J N o)=w.cell? (J N o):=λo l=>yj _ _ _ _ (λx=>l (by grind))
 exact⟨(c 0 I).trans a,(c 1 I).trans b,(c 2 I).trans d,(c 3 I).trans f,(c 4 I).trans g,yu _ _ _ i,(yx).trans j,(yx).trans k⟩
def zZq{n s}(p g m m1 m2 q){e2}(w)(he:∃t u,e1=.iface t u)(P:∃t u,e2=.iface t u)(hg:B7 w g m)(Q:p.s.size<=maxLen)(a:m2<=100000)(hc:∀b,B7 b g m->Calls Vb 221 #[Qp g,.iface T v,G (Zn p.s p.k p.l p.sd Vt)] b (EV b g m1 e1))(j:∀b,B7 b g m1->Calls Vb 221 #[Qp g,.iface n s,G (Zn p.s p.k p.l p.sd Vp)] b (EV b g m2 e2)):Calls Vb 221 #[Qp g,DS p (.iface T v) (.iface n s),G q] w (EV w g (m2+IF p.l q) (EL p.l q (DS p e1 e2))):=by
 obtain⟨t,u,rfl⟩:=he;obtain⟨i,l,rfl⟩:=P;obtain⟨n1,n2⟩:=aA (b9 #[W p.s,G p.k,G p.l,G p.sd,.iface T v,.iface n s]);have i1:=aD (b9 #[W p.s,G p.k,G p.l,G p.sd,.iface T v,.iface n s]);unfold AL zG at n1;unfold AL zP at n2;have V:=jl hg.1;have HC:=S hc;have y:=S j;have H:Hid (B7 (w.alloc (JM #[W p.s,G p.k,G p.l,G p.sd,.iface T v,.iface n s] 277)).drew g m):=hg.y ((zC).drew);have h:=S (show EJ (w.alloc (JM #[W p.s,G p.k,G p.l,G p.sd,.iface T v,.iface n s] 277)).drew (O w.1) p (.iface T v) (.iface n s) from
  (show EJ (w.alloc (JM #[W p.s,G p.k,G p.l,G p.sd,.iface T v,.iface n s] 277)) (O w.1) p (.iface T v) (.iface n s) from⟨Jg,Jg,Jg,Jg,Jg,Jg,Jg,Jg⟩).y ((yN).drew))
 have K:Hid (zE w (w.alloc (JM #[W p.s,G p.k,G p.l,G p.sd,.iface T v,.iface n s] 277)).drew g):=zE.Q ((zC).drew);unfold DS;go_enter func221,ntmps221;go_wp2_with fail;obtain⟨z,A,B,C,L,M,R,U⟩:=D h;go_region_with
  (first|(go_at_call 204;refine(Lg p.s p.k p.l p.sd Vt _ Q).mono ?_;rintro e w3 ⟨rfl,d⟩;replace h:=S (h.y d);replace⟨z,A,B,C,L,M,R,U⟩:=D h;replace H:=S (H.y d);replace K:=S (K.trans (zE.Q d));clear d)|(go_at_call 221;refine(HC _ H).mono ?_;rintro e w4 ⟨rfl,k,f⟩;replace h:=S (h.kept f I);replace H:=k;replace K:=S (K.trans f);clear f k;replace⟨z,A,B,C,L,M,R,U⟩:=D h))
 all_goals
  replace h:=S ((h.set4 (.iface t u)).y ((yN).drew))
  replace H:=S ((H.other (N:=O w.1) (o:=4) I (.iface t u)).y ((yN).drew))
  replace K:=S ((K.far 4 (.iface t u) yk).trans (zE.Q ((yN).drew)))
  obtain⟨z,A,B,C,L,M,R,U⟩:=D h
  go_wp2_with fail
  go_region_with
   (first|(go_at_call 204;refine(Lg p.s p.k p.l p.sd Vp _ Q).mono ?_;rintro e w5 ⟨rfl,d⟩;replace h:=S (h.y d);replace⟨z,A,B,C,L,M,R,U⟩:=D h;replace H:=S (H.y d);replace K:=S (K.trans (zE.Q d));clear d)|(go_at_call 221;refine(y _ H).mono ?_;rintro e w6 ⟨rfl,k,f⟩;replace h:=S (h.kept f I);replace H:=k;replace K:=S (K.trans f);clear f k;replace⟨z,A,B,C,L,M,R,U⟩:=D h))
 all_goals
  replace h:=S (h.set5 (.iface i l))
  replace H:=S (H.other (N:=O w.1) (o:=5) I (.iface i l))
  replace K:=S (K.far 5 (.iface i l) yk)
  obtain⟨z,A,B,C,L,M,R,U⟩:=D h
  go_wp2_with fail
  go_call O3 (Yn p (.iface t u) (.iface i l)) g m2 q _ H a as x w7 ⟨rfl,h1,h2⟩
  obtain⟨T6,v6,X⟩:=Nt p.l q 277 (b9 #[W p.s,G p.k,G p.l,G p.sd,.iface t u,.iface i l])
  have c:=S (K.trans h2)
  unfold DS
  rw[X]
  go_wp2
  go_ret
  exact⟨by first|rfl|(rw[X];rfl),h1,c⟩
open Go.Maps
def NP(a o l s u):Z (CO a o l s u)+1=Z u+IF (AY a o) l:=by unfold CO IF;split<;>simp
def PO{j}(h:Ax ns o.t (o.k-2)=E j):Al ns o=r ns j:=by unfold Al;rw[h]
def PP{j}(h:Ax ns o.t (o.k-2)=E j)(b):zl ns o b=Zn (Al ns o).s (Al ns o).k (Al ns o).l (Al ns o).sd b:=by rw[PO h];unfold zl;rw[h];rfl
theorem Ly(c a):∀n i f,i<n->AU a i=E f->∀l,∃T v,fS c a i l=.iface T v
 |0,_,_,h,_=>yV h (yz _)
 |n+1,i,f,h,hf=>by
  intro l;have cl:∀p o e e',∃T v,EH c (Y a i) l (AT p o e e')=.iface T v:=λp o e e'=>by obtain⟨T,v,h⟩:=NA p o e e';rw[h];exact Nt (AY c (Y a i)) l T v
  rcases Ge hf with⟨b,d,j,X⟩|⟨b,K,d,x,H⟩|⟨b,K,x,g,Q,q,d,H⟩
  .rw[PY b];exact cl _ _ _ _
  .by_cases h6:(Y a i).k=6
   .rw[Si h6 K H];exact Ly c a n (i-1) f I H l
   .rw[Qh b h6 K H];exact cl _ _ _ _
  .rw[Tg b K Q q d H];exact cl _ _ _ _
def LI{m b}(d:m=b)(c:e=e'){f a}(h:Calls Vb f a w (EV w g m e)):Calls Vb f a w (EV w g b e'):=by subst d;subst c;exact h
theorem Qc(N M)(X:∀i,i<Z M->BK (Y M i))(p:DM N M)(P:ZO N):∀n i f,i<n->i<Z M->AU M i=E f->∀(g m:Nat)(H:Int)(w:JY),B7 w g m->m+2*(i+1-f)<=90000 ->
  Calls Vb 221 #[Qp g,CU N M i,G H] w (EV w g (m+Z (gS N M i H 0)) (fS N M i H))
 |0,_,_,h,_,_=>yV h (yz _)
 |n+1,i,f,h,hi,hf=>by
  intro g m H w hg hm;have y:Zx (Y M i)->∃j,Ax N (Y M i).t ((Y M i).k-2)=E j:=λho=>by
   cases e:Ax N (Y M i).t ((Y M i).k-2) with
   |none=>exact yV e (p i hi ho)
   |some j=>exact⟨j,F⟩
  have x:Zx (Y M i)->AY N (Y M i)=(Al N (Y M i)).l:=λho=>by obtain⟨j,hj⟩:=y ho;rw[PO hj];exact Yq ho.1 ho.2 hj
  have u:Zx (Y M i)->(Al N (Y M i)).s.size<=maxLen:=λho=>by obtain⟨j,hj⟩:=y ho;rw[PO hj];exact P j (ED hj).1
  rcases Ge hf with⟨R,ha,hb,s⟩|⟨R,q,ha,B,K⟩|⟨R,q,B,f2,Q,C,ha,K⟩
  .rcases(X i hi).2 with⟨h1,_⟩|⟨h2,_⟩|⟨h6,_⟩|⟨L,_⟩
   .have hl:AY N (Y M i)=1001:=Sl I;have e0:CU N M i=IE (Y M i).t:=by rw[LN];simp only[AT,h1,if_true]
    have e1:fS N M i H=EL 1001 H (IE (Y M i).t):=by rw[PY R,EH,hl];simp only[AT,h1,if_true];rfl
    have e2:=NP N (Y M i) H 0 [⟨(Y M i).k,(Y M i).t,0,0⟩];rw[<-LB R,hl]at e2;simp only[yB,je]at e2;rw[e0];exact LI I e1.symm (Xh (zae _) (X6 _) g m H w hg I)
   .have hl:AY N (Y M i)=1001:=Sl I;have e0:CU N M i=Iu (Y M i).t:=by rw[LN];simp only[AT,h2];rfl
    have e1:fS N M i H=EL 1001 H (Iu (Y M i).t):=by rw[PY R,EH,hl];simp only[AT,h2];rfl
    have e2:=NP N (Y M i) H 0 [⟨(Y M i).k,(Y M i).t,0,0⟩];rw[<-LB R,hl]at e2;simp only[yB,je]at e2;rw[e0];exact LI I e1.symm (Xh (wE _) (Xf _) g m H w hg I)
   .rw[h6]at R;simp[zY]at R
   .rcases L with h|h|h<;>rw[h]at R<;>simp[zY]at R
  .have k:=Ct K;have ih:=Qc N M X p P n (i-1) f I I K;have b:=E3 N M i (i-1) f I K;obtain⟨T,v,t⟩:=Lq N M (i-1);rw[t]at ih;have ex:=vR (ns:=N) q ha .nilIface R;rw[t]at ex;rcases(X i hi).2 with⟨h1,_⟩|⟨h2,_⟩|⟨h6,_⟩|⟨L,_⟩
   .rw[h1]at R;simp[zY]at R
   .rw[h2]at R;simp[zY]at R
   .have e0:CU N M i=EK (.iface T v):=by rw[ex];simp only[AT,h6];rfl
    rw[e0];refine LI F (Si h6 q K H).symm (wF g _ H w (Ly N M i (i-1) f I K H) (λo=>?_));refine LI (by rw[My h6 q K]) F (ih g m H _ (hg.y zC) I)
   .rcases L with h|h|h
    .have ho:Zx (Y M i):=⟨I,I⟩;obtain⟨j,hj⟩:=y ho;have e0:CU N M i=Er (Al N (Y M i)) (.iface T v):=by rw[ex];simp only[AT,h];rfl
     have e1:fS N M i H=EL (Al N (Y M i)).l H (Er (Al N (Y M i)) (fS N M (i-1) (zl N (Y M i) Vt))):=by rw[Qh R I q K,EH,x ho];simp only[AT,h];rfl
     have e2:=NP N (Y M i) H 0 (gS N M (i-1) (zl N (Y M i) Vt) 0++[⟨(Y M i).k,(Y M i).t,((0+Z (gS N M (i-1) (zl N (Y M i) Vt) 0):Nat):Int)-1,0⟩]);rw[<-LL R I q K H 0 rfl,x ho,yr]at e2;simp only[yB,je]at e2;have d:=(b (zl N (Y M i) Vt) 0).2;rw[e0];refine LI ?_ e1.symm (zZp (Al N (Y M i)) g m (m+Z (gS N M (i-1) (zl N (Y M i) Vt) 0)) H w (Ly N M i (i-1) f I K _) hg (u ho) I (λz hW=>?_))
     .omega
     .rw[<-PP hj Vt];exact ih g m _ z hW I
    .rw[h]at R;simp[zY]at R
    .have ho:Zx (Y M i):=⟨I,I⟩;obtain⟨j,hj⟩:=y ho;have e0:CU N M i=D8 (Al N (Y M i)) (.iface T v):=by rw[ex];simp only[AT,h];rfl
     have e1:fS N M i H=EL (Al N (Y M i)).l H (D8 (Al N (Y M i)) (fS N M (i-1) (zl N (Y M i) Vt))):=by rw[Qh R I q K,EH,x ho];simp only[AT,h];rfl
     have e2:=NP N (Y M i) H 0 (gS N M (i-1) (zl N (Y M i) Vt) 0++[⟨(Y M i).k,(Y M i).t,((0+Z (gS N M (i-1) (zl N (Y M i) Vt) 0):Nat):Int)-1,0⟩]);rw[<-LL R I q K H 0 rfl,x ho,yr]at e2;simp only[yB,je]at e2;have d:=(b (zl N (Y M i) Vt) 0).2;rw[e0];refine LI ?_ e1.symm (uI (Al N (Y M i)) g m (m+Z (gS N M (i-1) (zl N (Y M i) Vt) 0)) H w (Ly N M i (i-1) f I K _) hg (u ho) I (λz hW=>?_))
     .omega
     .rw[<-PP hj Vt];exact ih g m _ z hW I
  .have k:=Ct Q;have l:=Ct K;have h4:(Y M i).k=4:=by
    unfold zY at R;split at R
    .assumption
    .split at R<;>omega
   have ho:Zx (Y M i):=⟨I,I⟩;obtain⟨j,hj⟩:=y ho;have ih1:=Qc N M X p P n (f2-1) f I I K;have ih2:=Qc N M X p P n (i-1) f2 I I Q;have c:=(E3 N M i (f2-1) f I K (zl N (Y M i) Vt) 0).2;have a:=(E3 N M i (i-1) f2 I Q (zl N (Y M i) Vp) 0).2;obtain⟨T,v,t⟩:=Lq N M (f2-1);obtain⟨T2,v2,V⟩:=Lq N M (i-1);rw[t]at ih1;rw[V]at ih2;have ex:=vU (ns:=N) (j:=f2-1) q (by rw[ha];omega) I B;rw[t,V]at ex;have e0:CU N M i=DS (Al N (Y M i)) (.iface T v) (.iface T2 v2):=by rw[ex];simp only[AT,h4];rfl
   have e1:fS N M i H=EL (Al N (Y M i)).l H (DS (Al N (Y M i)) (fS N M (f2-1) (zl N (Y M i) Vt)) (fS N M (i-1) (zl N (Y M i) Vp))):=by rw[Tg R q Q C ha K,EH,x ho];simp only[AT,h4];rfl
   obtain⟨u1,U⟩:=Jx (gS N M (f2-1) (zl N (Y M i) Vt) 0);obtain⟨u2,A⟩:=Jx (gS N M (i-1) (zl N (Y M i) Vp) (0+Z u1));have e2:=NP N (Y M i) H 0 ((u1++u2)++[⟨(Y M i).k,(Y M i).t,((0+Z u1:Nat):Int)-1,((0+Z u1+Z u2:Nat):Int)-1⟩]);rw[<-MP R q Q C ha K H 0 U A,x ho,yr,yr]at e2;simp only[yB,je]at e2;have e3:Z u2=Z (gS N M (i-1) (zl N (Y M i) Vp) 0):=by rw[A];exact Nr N M i (i-1) f2 I Q _ _ _
   rw[<-U]at c;rw[<-e3]at a;rw[e0];refine LI ?_ e1.symm (zZq (Al N (Y M i)) g m (m+Z u1) (m+Z u1+Z u2) H w (Ly N M i (f2-1) f I K _) (Ly N M i (i-1) f2 I Q _) hg (u ho) I (λz hW=>?_) (λz hW=>?_))
   .omega
   .rw[<-PP hj Vt,U];exact ih1 g m _ z hW I
   .rw[<-PP hj Vp,e3];exact ih2 g _ _ z hW I
def SA{v}(h:S5 ns o p v)(c:Zx o)(b:Ax ns o.t (o.k-2)≠JL):p=Al ns o:=by
 rcases h with⟨j,_,a,_,rfl⟩|⟨h,_⟩
 .exact(PO a).symm
 .exact yV (h c) b
def Q6(g i b o e f w)(m:AH w g i b (Z b))(l:zM b 0)(K:Bg b (Z b))(n:o.t.size<=maxLen)(c:o.k=1\/o.k=2):Calls Vb 243 #[b9 #[.map (E g),.map (E i)],b9 #[G o.k,W o.t,G o.a,G o.b],e,f] w λx w'=>x=i9 (AT (Al b o) o e f)/\Qb w w':=by
 have k:=S (λq s=>(m.kept (@zC w q)).kept (@zC _ s));go_enter func243,ntmps243;go_wp2_with fail;go_call PL g i b o _ (k _ _) l K n as x d ⟨⟨p,v,rfl,u⟩,a⟩;have h:Qb w d:=((zC).alloc Js _).trans (a.mono Jq);have y:O w.1+2<=O d.1:=Jz a.size
 have j:(d.alloc (JM #[W p.s,G p.k,G p.l,G p.sd] 25)).cell? (J (O w.1+1) 0)=E (G o.k):=((zC).cell (p:=(J (O w.1+1) 0)) (I:O w.1+1<O d.1)).trans ((a.cell (p:=(J (O w.1+1) 0)) Js).trans Jg);have t:(d.alloc (JM #[W p.s,G p.k,G p.l,G p.sd] 25)).cell? (J (O w.1+1) 1)=E (W o.t):=((zC).cell (p:=(J (O w.1+1) 1)) (I:O w.1+1<O d.1)).trans ((a.cell (p:=(J (O w.1+1) 1)) Js).trans Jg);rcases c with c|c
 .have HE:=S (by simp only[AT,c];rfl:AT (Al b o) o e f=IE o.t);rw[c]at j;go_wp2;go_ret;exact⟨by rw[D HE];rfl,h.alloc h.size _⟩
 .have HE:=S (by simp only[AT,c];rfl:AT (Al b o) o e f=Iu o.t);rw[c]at j;go_wp2;go_ret;exact⟨by rw[D HE];rfl,h.alloc h.size _⟩
def Ri(f g a o T u d w)(m:AH w f g a (Z a))(l:zM a 0)(Q:Bg a (Z a))(q:o.t.size<=maxLen)(b:o.k=3\/o.k=5\/o.k=6)(K:Zx o->Ax a o.t (o.k-2)≠JL):Calls Vb 243 #[b9 #[.map (E f),.map (E g)],b9 #[G o.k,W o.t,G o.a,G o.b],.iface T u,d] w λx w'=>x=i9 (AT (Al a o) o (.iface T u) d)/\Qb w w':=by
 have k:=S (λs t=>(m.kept (@zC w s)).kept (@zC _ t));have H:=S K;go_enter func243,ntmps243;go_wp2_with fail;go_call PL f g a o _ (k _ _) l Q q as x e ⟨⟨p,v,rfl,n⟩,c⟩;have j:=S n;have h:Qb w e:=((zC).alloc Js _).trans (c.mono Jq);have y:O w.1+2<=O e.1:=Jz c.size
 have i:(e.alloc (JM #[W p.s,G p.k,G p.l,G p.sd] 25)).cell? (J (O w.1+1) 0)=E (G o.k):=((zC).cell (p:=(J (O w.1+1) 0)) (I:O w.1+1<O e.1)).trans ((c.cell (p:=(J (O w.1+1) 0)) Js).trans Jg);rcases b with b|b|b
 .have HE:=S (show AT (Al a o) o (.iface T u) d=Er p (.iface T u) by
   rw[SA (D j) ⟨I,I⟩ ((D H) ⟨I,I⟩)]
   simp only[AT,b];rfl)
  rw[b]at i;go_wp2;go_ret;exact⟨by rw[D HE];rfl,h.alloc h.size _⟩
 .have HE:=S (show AT (Al a o) o (.iface T u) d=D8 p (.iface T u) by
   rw[SA (D j) ⟨I,I⟩ ((D H) ⟨I,I⟩)]
   simp only[AT,b];rfl)
  rw[b]at i;go_wp2;go_ret;exact⟨by rw[D HE];rfl,h.alloc h.size _⟩
 .have HE:=S (by simp only[AT,b];rfl:AT (Al a o) o (.iface T u) d=EK (.iface T u));rw[b]at i;go_wp2;go_ret;exact⟨by rw[D HE];rfl,h.alloc h.size _⟩
def fO(g i b o T d u e w)(j:AH w g i b (Z b))(t:zM b 0)(q:Bg b (Z b))(y:o.t.size<=maxLen)(c:o.k=4)(H:Zx o->Ax b o.t (o.k-2)≠JL):Calls Vb 243 #[b9 #[.map (E g),.map (E i)],b9 #[G o.k,W o.t,G o.a,G o.b],.iface T u,.iface d e] w λx w'=>x=i9 (AT (Al b o) o (.iface T u) (.iface d e))/\Qb w w':=by
 have m:=S (λz A=>(j.kept (@zC w z)).kept (@zC _ A));have K:=S H;have X:=S c;clear j H c;go_enter func243,ntmps243;go_wp2_with fail;go_call PL g i b o _ (m _ _) t q y as x f ⟨⟨p,v,rfl,k⟩,a⟩;have n:=S k;have h:Qb w f:=((zC).alloc Js _).trans (a.mono Jq);have B:O w.1+2<=O f.1:=Jz a.size
 have s:(f.alloc (JM #[W p.s,G p.k,G p.l,G p.sd] 25)).cell? (J (O w.1+1) 0)=E (G o.k):=((zC).cell (p:=(J (O w.1+1) 0)) (I:O w.1+1<O f.1)).trans ((a.cell (p:=(J (O w.1+1) 0)) Js).trans Jg);clear k a;have c:=D X;have l:=S (show AT (Al b o) o (.iface T u) (.iface d e)=DS p (.iface T u) (.iface d e) by
  rw[SA (D n) ⟨I,I⟩ ((D K) ⟨I,I⟩)]
  simp only[AT,c];rfl)
 rw[c]at s;clear c K;go_wp2;go_ret;exact⟨by rw[D l];rfl,h.alloc h.size _⟩
def fP(b c a o T g u i w)(e:AH w b c a (Z a))(d:zM a 0)(H:Bg a (Z a))(f:o.t.size<=maxLen)(j:BK o)(K:Zx o->Ax a o.t (o.k-2)≠JL):Calls Vb 243 #[b9 #[.map (E b),.map (E c)],b9 #[G o.k,W o.t,G o.a,G o.b],.iface T u,.iface g i] w λx w'=>x=i9 (AT (Al a o) o (.iface T u) (.iface g i))/\Qb w w':=by
 rcases j.2 with⟨h,_⟩|⟨h,_⟩|⟨h,_⟩|⟨h|h|h,_⟩
 .exact Q6 b c a o _ _ w e d H f (yW h)
 .exact Q6 b c a o _ _ w e d H f (yX h)
 .exact Ri b c a o _ _ _ w e d H f (yX (yX h)) K
 .exact Ri b c a o _ _ _ w e d H f (yW h) K
 .exact fO b c a o _ _ _ _ w e d H f h K
 .exact Ri b c a o _ _ _ w e d H f (yX (yW h)) K
def IK(w:JY)(g)(b:Jf)(a:Jj)(k:Nat):=g<O w.1/\∀j,j<Z a->w.cell? (J g j)=E ((Dy b a k).getD j .nilIface)/\w.frozen? (J g j)=Vt
def IK.y{k}(h:IK w g ns xs k)(a:Qb w w'):IK w' g ns xs k:=
 ⟨ym h.1 a.size,λj b=>⟨Jc a h.1 (h.2 j b).1,(a.frozen (p:=J g j) h.1).trans (h.2 j b).2⟩⟩
def IK.set{k}(h:IK w g ns xs k)(f:k<Z xs)(d:v=CU ns xs k):IK (w.setCell (J g k) v) g ns xs (k+1):=by
 refine⟨by simpa[World.setCell] using h.1,λj a=>⟨?_,(yx).trans (h.2 j a).2⟩⟩;by_cases e:j=k
 .subst e;rw[yu _ _ _ (h.2 j a).1,d];rfl
 .rw[yj _ _ _ _ (λx=>e (by injection x with _ x;exact x.symm)),(h.2 j a).1];have c:=PX ns xs k;congr 1;show _=(Dy ns xs k++[_]).getD j .nilIface;simp only[List.getD,List.getElem?_append,c];by_cases b:j<k
  .rw[yU b]
  .rw[yS b,List.getElem?_eq_none I,List.getElem?_eq_none Jq]
def zb2:(prog.info? 227).map (λi=>(i.zero,i.size,i.bytes))=E (E .nilIface,1,16):=Jk
def zZr(a:JY)(n j)(c:j<n):(a.alloc (JM (madeCells #[.nilIface] n) 227)).cell? (J (O a.1) j)=E .nilIface/\(a.alloc (JM (madeCells #[.nilIface] n) 227)).frozen? (J (O a.1) j)=Vt:=by have b:(a.alloc (JM (madeCells #[.nilIface] n) 227)).heap[O a.1]?=E (JM (madeCells #[.nilIface] n) 227 (0,0)):=jL a _;refine⟨?_,frozen_of_row _ _ _ _ _ b⟩;rw[cell_of_row _ (O a.1) j _ 227 (0,0) b];simp[madeCells,c,Nat.mod_one]
def nP(h:Zk xs){k}(g:k<Z xs)(b:1<=k):∃d e:Nat,(Y xs k).a=(d:Int)/\(Y xs k).b=(e:Int)/\d<k/\e<k:=by
 rcases h.kidsAt g with⟨i,c,a⟩|⟨_,f,c,a⟩|⟨_,f,a,K,H⟩
 .exact⟨0,0,c,a,b,b⟩
 .exact⟨k-1,0,I,a,I,I⟩
 .exact⟨(Y xs k).a.toNat,k-1,I,I,I,I⟩
def EO(w:JY)(X N g e f a b:Nat)(o:zD)(c d):=
 w.cell? (J X 0)=E (.map (E a))/\w.cell? (J X 1)=E (.map (E b))/\w.cell? (J N 0)=E (G o.k)/\w.cell? (J N 1)=E (W o.t)/\w.cell? (J N 2)=E (G o.a)/\w.cell? (J N 3)=E (G o.b)/\w.cell? (J g e)=E c/\w.cell? (J g f)=E d
def EO.y{X i j a d e f}(h:EO w X N g i j a d o e f)(u:Qb w w'):EO w' X N g i j a d o e f:=by
 have c:∀{b o':Nat}{v:Value},w.cell? (J b o')=E v->w'.cell? (J b o')=E v:=λh=>Jc u (jl h) h
 obtain⟨k,l,m,n,p,q,s,t⟩:=h;exact⟨c k,c l,c m,c n,c p,c q,c s,c t⟩
def EO.set{X d e f i k j l}(h:EO w X N g d e f i o j l)(m:X≠g)(a:N≠g)(B:d≠k)(C:e≠k)(v):EO (w.setCell (J g k) v) X N g d e f i o j l:=by
 have c:∀{b o':Nat}{u:Value},(b≠g\/o'≠k)->w.cell? (J b o')=E u->(w.setCell (J g k) v).cell? (J b o')=E u:=λH h=>(yj _ _ _ _ (λx=>by
  injection x with K L
  rcases H with h|h
  .exact h K.symm
  .exact h L.symm)).trans h
 obtain⟨n,p,q,s,t,y,z,A⟩:=h;exact⟨c (yW m) n,c (yW m) p,c (yW a) q,c (yW a) s,c (yW a) t,c (yW a) y,c (yX B) z,c (yX C) A⟩
def nQ(bo bs bn V cn ns xs w)(hi:AH w bo bs ns (Z ns))(hc:zM ns 0)(ho:Bg ns (Z ns))(hm:Z2 w bn V xs)(hf:C5 xs)(hE:bn<O w.1)(e:Zk xs)(s:DM ns xs):Calls Vb 222 #[b9 #[.map (E bo),.map (E bs)],b9 #[Je bn V (Z xs) cn]] w λx w'=>x=i9 (CU ns xs (Z xs-1))/\Below (O w.1) w w':=by
 have hv:=e.1;have hy:=e.2.1;obtain⟨iX,he,o,l,L⟩:=Ic zb2;have hu:∀hB:JY,(Instr.makeSlice 313 (G (Z xs:Int)) (G (Z xs:Int))).run Vb hB=.ok (Ql (O hB.1) (Z xs) (Z xs)) (hB.alloc (JM (madeCells #[.nilIface] (Z xs)) 227)):=by intro hB;have:=run_make (P:=Vb) hB 313 227 iX _ underlying313 he o .i64 .i64 (Z xs) (Z xs) I (Int.le_refl _) (by rw[L];omega) I;simpa[l,Value.cells] using this
 obtain⟨W1,A⟩:∃W1,Hid (W1=((w.alloc (JM #[.map (E bo),.map (E bs)] 173)).alloc (JM #[Je bn V (Z xs) cn] 40)).alloc (JM (madeCells #[.nilIface] (Z xs)) 227)):=⟨_,S F⟩;have hp:Below (O w.1) w W1:=by rw[D A];exact((zC).alloc Js _).alloc Jq _
 have hw:O W1.1=O w.1+3:=by rw[D A];simp
 have hD:=S (show IK W1 (O w.1+1+1) ns xs 0 by
  rw[D A]
  refine⟨Js,λj hj=>?_⟩
  have:=zZr ((w.alloc (JM #[.map (E bo),.map (E bs)] 173)).alloc (JM #[Je bn V (Z xs) cn] 40)) (Z xs) j hj
  simpa[Dy] using this)
 have X0:W1.cell? (J (O w.1) 0)=E (.map (E bo)):=by rw[D A];simp[go_sem]
 have X1:W1.cell? (J (O w.1) 1)=E (.map (E bs)):=by rw[D A];simp[go_sem]
 have HX:=S (yO X0 X1);have HT:W1.cell? (J (O w.1+1) 0)=E (Je bn V (Z xs) cn):=by rw[D A];simp[go_sem]
 go_enter func222,ntmps222;go_wp2;go_loopw [15] (λiv wr=>∃k:Nat,k<=Z xs/\iv=G k/\Hid (IK wr (O w.1+1+1) ns xs k)/\Hid (wr.cell? (J (O w.1) 0)=E (.map (E bo))/\wr.cell? (J (O w.1) 1)=E (.map (E bs)))/\Below (O w.1) w wr/\O w.1+3<=O wr.1) (λiv _=>Z xs-(intOf iv).toNat);case atStart=>
  rw[<-D A];exact⟨0,yn,F,hD,HX,hp,I⟩
 case round=>
  obtain⟨k,hk,rfl,B,hx,H,hz⟩:=hrel;by_cases Q:k<Z xs
  .have hs:(k:Int)<Z xs:=I;obtain⟨a0,a1,a2,a3⟩:=((hm) k Q).y H hE;obtain⟨m0,m1⟩:=B.2 k Q;have ht:Below (O w.1) w (wr.alloc (JM #[G (Y xs k).k,W (Y xs k).t,G (Y xs k).a,G (Y xs k).b] 108)).drew:=(H.alloc H.size _).drew;by_cases n:k=0
   .subst n;have n:=e.first;obtain⟨hn,q⟩:(Y xs 0).a=0/\(Y xs 0).b=0:=by
     rcases e.kidsAt (k:=0) I with⟨_,ha,hb⟩|⟨_,h,_⟩|⟨_,h,_⟩
     .exact⟨ha,hb⟩
     .omega
     .omega
    rw[hn]at a2;rw[q]at a3;simp only[Nat.zero_mul,Nat.add_zero]at a0 a1 a2 a3;have e0:((Dy ns xs 0).getD 0 Value.nilIface)=.nilIface:=F;rw[e0]at m0;obtain⟨T,u,U⟩:=NA (Al ns (Y xs 0)) (Y xs 0) .nilIface .nilIface;have a:=S (show(Value.iface T u)=CU ns xs 0 by
     rw[LN,<-U]
     simp[Dy])
    have hg:(Y xs 0).k=1\/(Y xs 0).k=2:=by
     rcases(e.2.2.2 0 I).2 with⟨h,_⟩|⟨h,_⟩|⟨h,_⟩|⟨h|h|h,_⟩
     .exact yW h
     .exact yX h
     all_goals(rw[h]at n;simp[zY]at n)
    have y:=S (λ(hB:JY)(h1:AH hB bo bs ns (Z ns))=>Q6 bo bs ns (Y xs 0) .nilIface .nilIface hB h1 hc ho (hf 0 Q) hg);rw[U,hn,q]at y;have hC:=S (show EO (wr.alloc (JM #[G (Y xs 0).k,W (Y xs 0).t,G 0,G 0] 108)).drew (O w.1) (O wr.1) (O w.1+1+1) 0 0 bo bs ⟨(Y xs 0).k,(Y xs 0).t,0,0⟩ .nilIface .nilIface from by
     have q:=@zC wr (JM #[G (Y xs 0).k,W (Y xs 0).t,G 0,G 0] 108)
     refine EO.y (w:=wr.alloc (JM #[G (Y xs 0).k,W (Y xs 0).t,G 0,G 0] 108)) ?_ (yN).drew
     refine⟨?_,?_,Jg,Jg,Jg,Jg,?_,?_⟩
     .exact Jc q (I:O w.1<O wr.1) hx.1
     .exact Jc q (I:O w.1<O wr.1) hx.2
     .exact(q.cell (p:=(J (O w.1+1+1) 0)) (I:O w.1+1+1<O wr.1)).trans m0
     .exact(q.cell (p:=(J (O w.1+1+1) 0)) (I:O w.1+1+1<O wr.1)).trans m0)
    have v:=S ((B.y (@zC wr (JM #[G (Y xs 0).k,W (Y xs 0).t,G 0,G 0] 108))).y (yN).drew);have X:Hid (Below (O w.1) w (wr.alloc (JM #[G (Y xs 0).k,W (Y xs 0).t,G 0,G 0] 108)).drew):=(H.alloc H.size _).drew;have hd:=S (Js:O wr.1+1<=(wr.alloc (JM #[G (Y xs 0).k,W (Y xs 0).t,G 0,G 0] 108)).drew.heap.size);obtain⟨q0,q1,q2,q3,q4,q5,q6,q7⟩:=D hC;go_wp2_with fail;refine wp_region_held_drew (S:=λw'=>w'.cell? (J (O w.1) 0)=E (.map (E bo))/\w'.cell? (J (O w.1) 1)=E (.map (E bs))/\w'.cell? (J (O wr.1) 0)=E (G (Y xs 0).k)/\w'.cell? (J (O wr.1) 1)=E (W (Y xs 0).t)/\w'.cell? (J (O wr.1) 2)=E (G 0)/\w'.cell? (J (O wr.1) 3)=E (G 0)) Jk ⟨q0,q1,q2,q3,q4,q5⟩ (λhHeld=>?_);refine Ap 0 Ja ?_;refine Ap 1 Ja ?_;refine Ap 2 Ja ?_;refine Ap 3 Ja ?_;refine Ap 4 Ja ?_;refine Ap 5 Ja ?_;refine Ap 6 Ja ?_;refine Ap 7 Ja ?_;refine Ap 9 Ja ?_;refine Ap 10 Ja ?_;refine Ap 11 Ja ?_;refine Ap 12 Ja ?_;refine yR (rs:=[8,13]) Jk Js ?_;refine yK F (λK hK=>?_) (yK F (λK hK=>?_) yL);focus
     go_simp
     refine hK.out _ _ hHeld (λ_=>?_)
     refine yR (rs:=[13]) Jk Js ?_
    rotate_left
    focus
     go_simp
     refine hK.out _ _ hHeld (λ_=>?_)
     refine yR (rs:=[8]) Jk Js ?_
    all_goals
     refine yK F (λK hK=>?_) yL
     go_simp
     refine hK.out _ _ hHeld (λ_=>?_)
     refine yR (rs:=[14]) Jk Js ?_
     refine yK F (λK hK=>?_) yL
     go_simp
     go_wp2_with ((go_at_call 243;refine(y _ (hi.kept X)).mono ?_;rintro x w3 ⟨rfl,hb3⟩;replace hC:=S (hC.y hb3);replace v:=S (v.y hb3);replace X:=S (X.trans (hb3.mono X.size));replace hd:=S (yy hd hb3.size);clear hb3))
     replace⟨q0,q1,q2,q3,q4,q5,q6,q7⟩:=D hC
     refine hK.out _ _ ⟨q0,q1,q2,q3,q4,q5⟩ (λhHeld=>?_)
     obtain⟨m0,m1⟩:=v.2 0 Q
     have e0:((Dy ns xs 0).getD 0 Value.nilIface)=.nilIface:=F
     rw[e0]at m0
     refine Ap 15 Ja ?_
     refine yR (rs:=[16]) Jk Js ?_
     refine yK F (λK hK=>?_) yL
     go_simp
     have C:=S (show(w3.setCell (J (O w.1+1+1) 0) (.iface T u)).cell? (J (O w.1) 0)=E (.map (E bo))/\(w3.setCell (J (O w.1+1+1) 0) (.iface T u)).cell? (J (O w.1) 1)=E (.map (E bs))/\(w3.setCell (J (O w.1+1+1) 0) (.iface T u)).cell? (J (O wr.1) 0)=E (G (Y xs 0).k)/\(w3.setCell (J (O w.1+1+1) 0) (.iface T u)).cell? (J (O wr.1) 1)=E (W (Y xs 0).t)/\(w3.setCell (J (O w.1+1+1) 0) (.iface T u)).cell? (J (O wr.1) 2)=E (G 0)/\(w3.setCell (J (O w.1+1+1) 0) (.iface T u)).cell? (J (O wr.1) 3)=E (G 0) from
      have c:∀{b o':Nat}{x:Value},b≠O w.1+1+1->w3.cell? (J b o')=E x->(w3.setCell (J (O w.1+1+1) 0) (.iface T u)).cell? (J b o')=E x:=λhl h=>(yj _ _ _ _ (λx=>hl (by injection x with x1;exact x1.symm))).trans h
      ⟨c I q0,c I q1,c I q2,c I q3,c I q4,c I q5⟩)
     refine hK.out _ _ C (λ_=>?_)
     refine wpAnyH_done Jk ?_ _
     have d:=S (v.set Q a)
     have R:=S (yO C.1 C.2.1)
     have z:Below (O w.1) w (w3.setCell (J (O w.1+1+1) 0) (.iface T u)):=X.setCell Jq _
     have g:O w.1+3<=(w3.setCell (J (O w.1+1+1) 0) (.iface T u)).heap.size:=by have:=D hd;simp[World.setCell];omega
     go_wp2
     exact⟨⟨1,I,Jn,d,R,z,g⟩,Ji⟩
   .obtain⟨ja,jb,i,N,t,f⟩:=nP e Q I;obtain⟨Ta,ua,m⟩:=Lq ns xs ja;obtain⟨Tb,ub,M⟩:=Lq ns xs jb;have ca:=B.2 ja I;have cb:=B.2 jb I;rw[Ip ns xs k ja t,m]at ca;rw[Ip ns xs k jb f,M]at cb;obtain⟨T,u,U⟩:=NA (Al ns (Y xs k)) (Y xs k) (.iface Ta ua) (.iface Tb ub);have a:=S (show(Value.iface T u)=CU ns xs k by rw[LN,i,N,Int.toNat_natCast,Int.toNat_natCast,Ip ns xs k ja t,Ip ns xs k jb f,m,M,U])
    have y:=S (λ(hB:JY)(h1:AH hB bo bs ns (Z ns))=>fP bo bs ns (Y xs k) Ta Tb ua ub hB h1 hc ho (hf k Q) (e.2.2.2 k Q) (s k Q));rw[U,i,N]at y;rw[i]at a2;rw[N]at a3;have hr:(ja:Int)<Z xs:=I;have hq:(jb:Int)<Z xs:=I;have hC:=S (show EO (wr.alloc (JM #[G (Y xs k).k,W (Y xs k).t,G ja,G jb] 108)).drew (O w.1) (O wr.1) (O w.1+1+1) ja jb bo bs ⟨(Y xs k).k,(Y xs k).t,(ja:Int),(jb:Int)⟩ (.iface Ta ua) (.iface Tb ub) from by
     have q:=@zC wr (JM #[G (Y xs k).k,W (Y xs k).t,G ja,G jb] 108)
     refine EO.y (w:=wr.alloc (JM #[G (Y xs k).k,W (Y xs k).t,G ja,G jb] 108)) ?_ (yN).drew
     refine⟨?_,?_,Jg,Jg,Jg,Jg,?_,?_⟩
     .exact Jc q (I:O w.1<O wr.1) hx.1
     .exact Jc q (I:O w.1<O wr.1) hx.2
     .exact(q.cell (p:=(J (O w.1+1+1) ja)) (I:O w.1+1+1<O wr.1)).trans ca.1
     .exact(q.cell (p:=(J (O w.1+1+1) jb)) (I:O w.1+1+1<O wr.1)).trans cb.1)
    have v:=S ((B.y (@zC wr (JM #[G (Y xs k).k,W (Y xs k).t,G ja,G jb] 108))).y (yN).drew);have X:Hid (Below (O w.1) w (wr.alloc (JM #[G (Y xs k).k,W (Y xs k).t,G ja,G jb] 108)).drew):=(H.alloc H.size _).drew;have hd:O wr.1+1<=(wr.alloc (JM #[G (Y xs k).k,W (Y xs k).t,G ja,G jb] 108)).drew.heap.size:=Js;have hd:=S hd;go_wp2_with fail;go_region_held (λw'=>w'.cell? (J (O w.1) 0)=E (.map (E bo))/\w'.cell? (J (O w.1) 1)=E (.map (E bs))/\w'.cell? (J (O wr.1) 0)=E (G (Y xs k).k)/\w'.cell? (J (O wr.1) 1)=E (W (Y xs k).t)/\w'.cell? (J (O wr.1) 2)=E (G ja)/\w'.cell? (J (O wr.1) 3)=E (G jb)/\w'.cell? (J (O w.1+1+1) ja)=E (.iface Ta ua)/\w'.cell? (J (O w.1+1+1) jb)=E (.iface Tb ub)) (first|exact D hC|exact hC.set I I I I _)
     ((go_at_call 243;refine(y _ (hi.kept X)).mono ?_;rintro x w3 ⟨rfl,hb3⟩;replace hC:=S (hC.y hb3);replace v:=S (v.y hb3);replace X:=S (X.trans (hb3.mono X.size));replace hd:=S (yy hd hb3.size);clear hb3;obtain⟨m0,m1⟩:=v.2 k Q))
    have d:=S (v.set Q a);have C:=S (show(w3.setCell (J (O w.1+1+1) k) (.iface T u)).cell? (J (O w.1) 0)=E (.map (E bo))/\(w3.setCell (J (O w.1+1+1) k) (.iface T u)).cell? (J (O w.1) 1)=E (.map (E bs)) from
     have h:=hC.set (k:=k) I I I I (.iface T u)
     ⟨h.1,h.2.1⟩)
    have z:Below (O w.1) w (w3.setCell (J (O w.1+1+1) k) (.iface T u)):=X.setCell Jq _;have g:O w.1+3<=(w3.setCell (J (O w.1+1+1) k) (.iface T u)).heap.size:=by have:=D hd;simp[World.setCell];omega
    go_wp2;exact⟨⟨k+1,I,Jn,d,C,z,g⟩,Ji⟩
  .have h0:k=Z xs:=I;have HL:=S (B.2 (Z xs-1) I);rw[Ip ns xs k (Z xs-1) I]at HL;obtain⟨T,u,U⟩:=Lq ns xs (Z xs-1);rw[U]at HL;have hh:=S U;have c1:=HL.1;have ei:(Z xs:Int)-1=((Z xs-1:Nat):Int):=I;have e2:((Z xs-1:Nat):Int)<(Z xs:Int):=I;go_wp2;go_ret;exact⟨by rw[D hh];rfl,H⟩
open Go.Deep (BT)
def Ga:ET->Prop
 |.nil=>True
 |.node b _ t l a=>BK (rt b t)/\Ga l/\Ga a
def uJ(h:∀i,i<Z xs->BK (Y xs i)):∀(T:ET)(s:Nat),B1 xs T s->s+Ab T<=Z xs->Ga T:=by
 intro T;induction T with
 |nil=>intro s _ _;trivial
 |node b o t l a ihl ihr=>rintro s ⟨d,e,f⟩ g;simp only[Ab]at g;have c:=h (s+Ab l+Ab a) I;rw[f]at c;exact⟨c,ihl s d I,ihr _ e I⟩
theorem zbU:∀(T:ET)(s:Nat),Ga T->∀o∈nd T s,BK o:=by
 intro T;induction T with
 |nil=>intro s _ o d;simp[nd]at d
 |node b o t l a ihl ihr=>
  rintro s ⟨c,e,f⟩ x hx;simp only[nd,ju,jE]at hx;rcases hx with(hx|hx)|hx
  .grind
  .grind
  .subst hx;exact c
def zZs(f):∀(T:ET)(l:Int),Ga T->Ga (AZ f T l):=by
 intro T;induction T with
 |nil=>intro l _;trivial
 |node b o t l a ihl ihr=>
  rintro h ⟨d,c,e⟩;simp only[AZ];split
  .exact ihl _ c
  .unfold Fk;split
   .exact⟨⟨Jd,yX (yX (yW ⟨F,F⟩))⟩,⟨d,ihl _ c,ihr _ e⟩,trivial⟩
   .exact⟨d,ihl _ c,ihr _ e⟩
theorem YQ{i}(h:i<Z xs):Y xs i∈xs:=by grind [Y]
theorem bG{T}(a:Sh T)(f:Ab T<=20000)(d:Ga T):Zk (nd T 0):=by have e:=a.pos;have b:=IT T 0 a (Gc T);rw[jd]at b;refine⟨by grind [ZN],by grind [ZN],by grind [ZN],λi c=>zbU T 0 d _ (YQ c)⟩
theorem uK:∀(T:ET)(s:Nat),Dn ns T->∀o∈nd T s,Zx o->Ax ns o.t (o.k-2)≠none:=by
 intro T;induction T with
 |nil=>intro s h;exact h.elim
 |node b o t l a ihl ihr=>
  rintro s ⟨_,h⟩ x hx c;simp only[nd,ju,jE]at hx;rcases hx with(hx|hx)|hx
  .grind [nd]
  .grind [nd]
  .subst hx;have d:3<=(b:Int)/\(b:Int)<=5:=c;have e:AC ns (b,t)=Vp:=by grind
   show Ax ns t ((b:Int)-2)≠JL;grind [AC]
def uL{T}(h:Dn ns T):DM ns (nd T 0):=λi a H=>uK T 0 h _ (YQ a) H
def Cp:ET->ET
 |.nil=>.nil
 |.node b _ t l a=>if b=6 then Cp l else .node b 0 t (Cp l) (Cp a)
theorem zZt(c):∀(T:ET)(l:Int),Cp (AZ c T l)=Cp T:=by
 intro T;induction T with
 |nil=>intro l;rfl
 |node b o t l a ihl ihr=>grind [AZ,Cp,Fk]
def zZu:∀(T:ET)(s:Nat),Sh T->B1 xs T s->er xs (s+Ab T)=er xs s++nd (Cp T) (Am xs s)/\Am xs (s+Ab T)=Am xs s+Ab (Cp T):=by
 intro T;induction T with
 |nil=>intro s h;exact h.elim
 |node b o t l a ihl ihr=>
  rintro s ⟨_,h⟩ ⟨k,v,m⟩;have u:s+Ab (.node b o t l a:ET)=(s+Ab l+Ab a)+1:=by simp only[Ab];omega
  have n:(Y xs (s+Ab l+Ab a)).k=(b:Int):=by rw[m];rfl
  have hL:er xs (s+Ab l)=er xs s++nd (Cp l) (Am xs s)/\Am xs (s+Ab l)=Am xs s+Ab (Cp l):=by
   rcases h with⟨_,rfl,_⟩|⟨_,c,_⟩|⟨_,c,_⟩
   .exact⟨by simp[Ab,Cp,nd],by simp[Ab,Cp]⟩
   .exact ihl s c k
   .exact ihl s c k
  have i:er xs (s+Ab l+Ab a)=er xs (s+Ab l)++nd (Cp a) (Am xs (s+Ab l))/\Am xs (s+Ab l+Ab a)=Am xs (s+Ab l)+Ab (Cp a):=by
   rcases h with⟨_,_,rfl⟩|⟨_,_,rfl⟩|⟨_,_,j⟩
   .exact⟨by simp[Ab,Cp,nd],by simp[Ab,Cp]⟩
   .exact⟨by simp[Ab,Cp,nd],by simp[Ab,Cp]⟩
   .exact ihr _ j v
  rw[u];by_cases e:b=6
  .subst e;have q:a=.nil:=by
    rcases h with⟨h,_⟩|⟨_,_,h⟩|⟨h,_⟩
    .exact yV h Jd
    .exact h
    .exact yV h Jd
   subst q;have d:(Y xs (s+Ab l+Ab (BT.nil:ET))).k=6:=n;rw[Py d];have g:Am xs (s+Ab l+Ab (BT.nil:ET)+1)=Am xs (s+Ab l+Ab (BT.nil:ET)):=by
    conv=>lhs;unfold Am
    rw[yU d]
   rw[g];simp only[Cp,if_true];exact⟨hL.1,hL.2⟩
  .have d:(Y xs (s+Ab l+Ab a)).k≠6:=by rw[n];omega
   rw[Lw d];have g:Am xs (s+Ab l+Ab a+1)=Am xs (s+Ab l+Ab a)+1:=by
    conv=>lhs;unfold Am
    rw[yS d]
   rw[g,i.1,i.2,hL.1,hL.2,m];simp only[Cp,yS e,nd,Ab];refine⟨?_,I⟩;rw[yD (er xs s),yD (er xs s)];congr 2;have hx:BS xs (tN b t l a s)=tN b t (Cp l) (Cp a) (Am xs s):=by
    unfold BS tN Fp;rcases h with⟨K,rfl,rfl⟩|⟨Q,c,rfl⟩|⟨H,c,j⟩
    .simp[K]
    .have hp:=c.pos;have f:(((s+Ab l:Nat):Int)-1).toNat+1=s+Ab l:=I;simp only[Q,Nat.one_ne_zero,if_false];rw[f,hL.2];simp
    .have hp:=c.pos;have w:=j.pos;have f:(((s+Ab l:Nat):Int)-1).toNat+1=s+Ab l:=I;have p:(((s+Ab l+Ab a:Nat):Int)-1).toNat+1=s+Ab l+Ab a:=I;simp only[H,if_true,(Jd:¬ (2=0)),if_false];rw[f,p,i.2,hL.2]
   rw[hx]
theorem cE{T}(h:Sh T):er (nd T 0) (Z (nd T 0))=nd (Cp T) 0:=by have:=(zZu (xs:=nd T 0) T 0 h (Gc T)).1;grind [ZN,er,Am]
open Go.Shelf
def qD:Go.Shelf.Ren:=⟨fun|171=>178|243=>217|246=>238|283=>254|284=>255|285=>256|286=>257|129=>263|317=>262|318=>264|319=>265|320=>266|337=>267|338=>268|n=>n,fun|3=>3|9=>9|2=>2|4=>4|171=>322|0=>0|53=>316|37=>22|5=>5|173=>325|212=>340|51=>332|20=>20|213=>341|46=>315|232=>344|233=>345|n=>n,fun|17=>5|18=>6|19=>7|n=>n⟩
def zb3:Go.Proofs.LaysM.n171 Vb qD:=by constructor<;>first|kernel_rfl|(intro w;kernel_rfl)|(constructor<;>first|kernel_rfl|(intro w;kernel_rfl))
def CH(w):=Lib.TabIs Vb w "internal/strconv.uint64pow10" .u64 Lib.pow10Tab
def CH.y(h:CH w)(a:Qb w w'):CH w':=
 Go.Joins.tab_stays (g:=5) Jk h a yk
theorem bH:∀(f n:Nat),n<10 ^ f->1<=f->(⟨(Lib.decDigits n).toArray⟩:JZ)=AN f n
 |0,n,_,h=>I
 |f+1,n,hn,_=>by
  rw[Lib.decDigits];by_cases h:n<10
  .rw[dif_pos h];simp only[AN,yU h];rfl
  .rw[dif_neg h];have a:1<=f:=by
    rcases Nat.eq_zero_or_pos f with rfl|x
    .simp at hn;omega
    .exact x
   have:=bH f (n/10) (by rw[Nat.pow_succ]at hn;omega) a;simp only[AN,yS h];rw[<-this];apply jy;simp[one]
def uM(n:Nat)(w)(h:n<1000000)(a:CH w):Calls Vb 178 #[G n] w λe w'=>e=i9 (W (AN 7 n))/\Qb w w':=by go_call Any.strconv_Itoa zb3 (n:Int) I I w a as e w' ⟨rfl,k,b,rfl⟩;have e1:Lib.itoa (n:Int)=Lib.decDigits n:=Lib.itoa_nonneg n;rw[e1,bH 7 n I I];exact⟨F,Lib.below_grow _ w yk k b⟩
def eG(a w):Calls Vb 179 #[G a] w λe w'=>e=i9 (W (Fr a))/\w'=w:=by
 unfold Fr;by_cases b:a=1
 .subst b;go_enter func179,ntmps179;go_wp2;go_ret;exact⟨F,F⟩
 have e1:(a==1)=Vt:=by simp[b]
 rw[yS b];by_cases c:a=2
 .subst c;go_enter func179,ntmps179;go_wp2;go_ret;exact⟨F,F⟩
 have d:(a==2)=Vt:=by simp[c]
 rw[yS c];go_enter func179,ntmps179;go_wp2;go_ret;exact⟨F,F⟩
theorem cX(o w)(h:Cz o)(hs:o.s.size<=16)(ht:CH w):Calls Vb 128 #[b9 #[W o.s,G o.k,G o.l,G o.sd]] w λe w'=>e=i9 (W (ZR (dW o)))/\Qb w w':=by
 obtain⟨V,⟨n,U,y⟩,C⟩:=h;have u:=aU (o:=o);have K:=YB (o:=o);have H:=zav (o:=o);obtain⟨f,R⟩:=Jx (ZR (dW o));rw[<-R]at u K H ⊢;obtain⟨s,k,l,v⟩:=o;simp only at U C hs u K H ⊢;subst U;have e:((n:Nat):Int).toNat=n:=F;rw[e]at u K H;have B:=S (uM n (w.alloc (JM #[W s,G k,G n,G v] 25)) y (ht.y zC));have m:=N6 7 n;obtain⟨c,M⟩:=Jx (AN 7 n);rw[<-M]at B m u K H;obtain⟨g,T⟩:=Jx (Fr v);have X:=Su v;have x:=S (λi=>eG v i);rw[<-T]at X H x;clear R M e V T;have A:=S (yO u (yO K H));clear u K H;go_enter func128,ntmps128;go_wp2_with fail;go_call D B as e L ⟨rfl,t⟩;have Q:=S ((@zC w _).trans (t.mono Js));have z:=λq=>t.cell (p:=J (O w.1) q) Js
 have c0:L.cell? (J (O w.1) 0)=E (W s):=(z 0).trans Jg;have c1:L.cell? (J (O w.1) 1)=E (G k):=(z 1).trans Jg;have c3:L.cell? (J (O w.1) 3)=E (G v):=(z 3).trans Jg;clear z t B;rcases C with⟨rfl,_⟩|⟨rfl,_⟩|⟨rfl,C⟩
 .have e:=A.1 F;go_wp2;go_ret;exact⟨by rw[e];first|rfl|(congr 2;apply jy;simp[TN,one]),Q⟩
 .have e:=A.2.1 F;go_wp2;go_ret;exact⟨by rw[e];first|rfl|(congr 2;apply jy;simp[TH,one]),Q⟩
 .have HE:=S (by rw[(D A).2.2 rfl];apply jy;simp[Qz,one]:f=⟨#[105,110,102,105,120,32]⟩++s++⟨#[32]⟩++c++⟨#[32]⟩++g);obtain⟨d,N⟩:∃d:JZ,d=⟨#[105,110,102,105,120,32]⟩:=⟨_,F⟩;have j:d.size=6:=by rw[N];rfl
  have hB:(⟨#[32]⟩:JZ).size=1:=F;have q:=λ(a b:JZ)(h:a.size+b.size<=200)(i:JY)=>run_string_add_sum (P:=Vb) (w:=i) a b I
  have r1:=q d s I;have r2:=q (d++s) ⟨#[32]⟩ (by grind);have r3:=q (d++s++⟨#[32]⟩) c (by grind);have r4:=q (d++s++⟨#[32]⟩++c) ⟨#[32]⟩ (by grind);have r5:=q (d++s++⟨#[32]⟩++c++⟨#[32]⟩) g (by grind);rw[N]at r1 r2 r3 r4 r5;go_wp2_with fail;go_quiet ((go_at_call 179;exact Calls.quiet_of_same (x _)));go_wp2;go_ret;exact⟨by rw[D HE];rfl,Up Q nq⟩
theorem eH(s z w)(l:s.size<=20000)(m:z<=s.size):Calls Vb 74 #[W s,W (s.extract z s.size)] w λe w'=>e=i9 (W (s.extract 0 z))/\w'=w:=by
 obtain⟨b,a⟩:=Jx (s.extract z s.size);have H:b.size=s.size-z:=by grind [ZW]
 rw[<-a];have c:Calls Vb 172 #[W s,W b] w λe w'=>e=i9 (.bool Vp)/\w'=w:=by
  have k:(b.size:Int)<=s.size:=I;have i:(s.size:Int)-b.size=(z:Int):=I;have j:((s.extract z s.size).toList==b.toList)=Vp:=by rw[a];simp
  clear a H;go_enter func172,ntmps172;go_wp2;go_ret;exact⟨F,F⟩
 have d:=S c;have f:Calls Vb 124 #[W s,W b] w λe w'=>e=i9 (W (s.extract 0 z))/\w'=w:=by have i:(s.size:Int)-b.size=(z:Int):=I;have j:(z:Int)<=s.size:=I;clear a H c;go_enter func124,ntmps124;go_wp2_with fail;go_call D d as e w' ⟨rfl,h⟩;obtain rfl:=h.symm;go_wp2;go_ret;exact⟨F,F⟩
 have g:=S f;clear f c d a H;go_enter func74,ntmps74;go_wp2_with fail;go_call D g as e w' ⟨rfl,h⟩;obtain rfl:=h.symm;go_wp2;go_ret;exact⟨F,F⟩
theorem UT{u s}:∀(a:JA)(i:Nat),Zr u s i a->∀j,j<Z a->((Aa a j).k=1->C2 (Aa a j).t)/\((Aa a j).k=2->Cv (Aa a j).t)
 |[],_,h,_,_=>h.elim
 |t::out,i,h,j,hj=>by
  rcases h with⟨rfl,_,_,rfl⟩|⟨p,n,k,_,_,_,_,m,rfl,o⟩
  .have:j=0:=by simp at hj;omega
   subst this;refine⟨λh=>?_,λh=>?_⟩
   .exact yV h (by show ¬ ((7:Int)=1);decide)
   .exact yV h (by show ¬ ((7:Int)=2);decide)
  .cases j with
   |succ j=>exact UT out _ o j (Ju hj)
   |zero=>
    obtain⟨v,d,g⟩:=m;have w:=FB d;have f:=λ(q:Nat)(c:q<n)=>GP (s:=s) d c
    refine⟨λh=>?_,λh=>?_⟩
    .have H:(k:Int)=1:=h;show C2 (sub s p n);rcases g with⟨_,_,b,_⟩|⟨_,e,_⟩|⟨_,e,_⟩|⟨_,e,_⟩|⟨_,⟨e,_⟩|⟨e,_⟩⟩|⟨_,e,_⟩
     .exact⟨I,λq c=>by rw[f q I];exact b q I⟩
     all_goals omega
    .have H:(k:Int)=2:=h;show Cv (sub s p n);rcases g with⟨_,e,_⟩|⟨l,_,b,_⟩|⟨_,e,_⟩|⟨_,e,_⟩|⟨_,⟨e,_⟩|⟨e,_⟩⟩|⟨_,e,_⟩
     .omega
     .refine⟨I,λq c=>?_⟩;rw[f q I];by_cases e:q=0
      .subst e;exact yW l
      .rcases b q I with h|h
       .exact yX ⟨e,h⟩
       .exact yW h
     all_goals omega
theorem zZv{a i}(b:(Aa a i).k=3)(c:0<=zh ns a i):1<=zh ns a i:=by grind [zh,ZT]
theorem bI(c:zM ns 0){b t}(h:AC ns (b,t)=Vp):DR t=Vp:=by
 unfold AC at h;cases e:Ax ns t ((b:Int)-2) with
 |none=>simp only[e]at h;cases h
 |some j=>obtain⟨a,d,_⟩:=ED e;have H:=(No c).1 j a;grind [Ad.ok,Bv]
theorem qE(i:zM ns 0):∀(T:ET),Dn ns T->(∀q∈Ak T,q.2.size<=20000/\(q.1=1->C2 q.2)/\(q.1=2->Cv q.2))->Ga T:=by
 intro T;induction T with
 |nil=>intro h;exact h.elim
 |node b o t l c ihl ihr=>
  rintro⟨rfl,h⟩ d;rcases h with⟨K,rfl,rfl⟩|⟨rfl,rfl,e,rfl⟩|⟨H,f,e,rfl⟩|⟨rfl,f,e,m⟩
  .rw[FD K]at d;obtain⟨a,j,k⟩:=d (b,t) Js;refine⟨⟨a,?_⟩,trivial,trivial⟩;rcases K with rfl|rfl
   .exact yW ⟨F,j F⟩
   .exact yX (yW ⟨F,k F⟩)
  .rw[FG]at d;exact⟨⟨Jd,yX (yX (yW ⟨F,F⟩))⟩,ihl e (λx hx=>d x (by simp[hx])),trivial⟩
  .have g:=bI i f;have Q:∀q∈Ak l,q.2.size<=20000/\(q.1=1->C2 q.2)/\(q.1=2->Cv q.2):=by
    rcases H with rfl|rfl
    .grind [EF]
    .rw[EQ]at d;exact λx hx=>d x (by simp[hx])
   have X:t.size<=20000:=by
    rcases H with rfl|rfl
    .rw[EF]at d;exact(d (3,t) Js).1
    .rw[EQ]at d;exact(d (5,t) Js).1
   refine⟨⟨X,yX (yX (yX ⟨?_,g⟩))⟩,ihl e Q,trivial⟩;show(b:Int)=3\/(b:Int)=4\/(b:Int)=5;omega
  .rw[Gi]at d;have g:=bI i f;exact⟨⟨(d (4,t) Js).1,yX (yX (yX ⟨yX (yW F),g⟩))⟩,ihl e (λx hx=>d x (by simp[hx])),ihr m (λx hx=>d x (by simp[hx]))⟩
theorem Ww{s t p}(h:Zs ns s t 0 p):∃T,zM ns 0/\ZF ns T/\t=nd T 0/\Ga T/\Ab T<=20000/\hT T<=1000:=by
 rcases h with⟨_,_,h,_⟩|⟨n,⟨_,_,h,_⟩|⟨u,f,hx,⟨i,_,_,_,_,h,_⟩|⟨P,⟨i,_,_,_,_,h,_⟩|⟨o,h⟩⟩⟩⟩
 .omega
 .omega
 .omega
 .omega
 .rcases h with⟨_,_,h,_⟩|⟨T,d,hr,⟨_,_,h,_⟩|⟨y,rfl,_,_⟩⟩
  .omega
  .omega
  .have hl:=I1 f 0 hx;have q:=P4 o hl 0 hl.1;rw[Nat.sub_zero]at q;have g:=DF n _ _ JL _ 0 _ I q (λL e=>by cases e) hr;have a:=g.1;have l:=g.2.2.2.2;simp only[yM,jF]at l;have e:=yY List.length l;simp only[yr]at e;rw[DI]at e;have j:=MO T g.2.1;have v:=(Ms hx).2.1;have U:1<=Z d:=by
    cases m:d with
    |nil=>
     exfalso;rw[m,List.append_nil]at l;have H:Aw ns f (Z f-1)∈Aj ns f 0 (Z f):=by grind [Aj]
     have X:Aw ns f (Z f-1)=BH:=by grind [Aw]
     rw[X,l]at H;have:=RU T g.2.1.well _ H;have N:BH.1=8:=F;omega
    |cons x r'=>simp
   refine⟨T,n,g.2.1,F,qE n T g.2.1.well (λx Q=>?_),I,y⟩;have K:x∈Aj ns f 0 (Z f):=by grind
   have b:=RU T g.2.1.well x Q;unfold Aj at K;obtain⟨i,R,rfl⟩:=List.mem_map.1 K;rw[List.mem_range'_1]at R;have V:=(Mi f 0 hx i I).2;have c:=UT f 0 hx i I;have A:=λ(h:(Aa f i).k=3)=>zZv h (o i I)
   have key:∀z:Nat,(z=1\/z=2)->(Aw ns f i).1=z->(Aa f i).k=(z:Int)/\(Aw ns f i).2=(Aa f i).t:=by
    intro z hz k;unfold Aw at k ⊢;by_cases w:(Aa f i).k=3
    .grind
    .rw[yS w]at k ⊢;by_cases B:(Aa f i).k=4
     .grind
     .rw[yS B]at k ⊢;by_cases C:(Aa f i).k=5
      .grind
      .rw[yS C]at k ⊢;by_cases M:(Aa f i).k=7
       .rw[yU M]at k;have N:BH.1=8:=F;omega
       .grind
   refine⟨XG I I,λh=>?_,λh=>?_⟩;all_goals grind
