import Derived.Laws.CopyOwn
import Derived.Test.YtdgcbenningkdaaGreatDoorV02
import Derived.Test.YtdgcbenningkdaaGreatDoorV03
namespace Go.Proofs.YtdgcbenningkdaaGreatDoor
set_option linter.all false
set_option maxHeartbeats 0
set_option maxRecDepth 100000
open Proofs.Tryz RowKit
variable{B g:Nat}{st:List Nat}{w w':World}{xs:List zD}
open _root_.Array renaming size→O
open List renaming length→Z
open Option renaming some→E,none→JL
open Obj renaming cells→JM
open Bool renaming false→Vt,true→Vp
open Proofs.Tryz renaming prog→Vb
open Value renaming agg→b9,slice→i6,ownBlock→i8
def fX(k w):Calls Vb 87 #[G k] w λe w'=>e=.returned (G (zY k:Int))/\w'=w:=by
 rcases(I:k=4\/k=3\/k=5\/k=6\/(k≠4/\k≠3/\k≠5/\k≠6)) with rfl|rfl|rfl|rfl|⟨b,a,c,d⟩;rotate_right;have h:(k==4)=Vt:=Ju b
 have g:(k==3)=Vt:=Ju a
 have i:(k==5)=Vt:=Ju c
 have j:(k==6)=Vt:=Ju d
 have f:=S (by simp[zY,b,a,c,d]:zY k=0);all_goals
  go_enter func87,ntmps87
  go_wp2
  go_ret
  exact⟨zK (by first|(rw[D f];rfl)|simp[zY]),F⟩
def Rl{k n}(h:zY k=n)(z)(a:(n:Int)=z)(w):Calls Vb 87 #[G k] w λe w'=>e=.returned (G z)/\w'=w:=by subst a;subst h;exact fX k w
def fY(o w)(k:o.t.size<=maxLen):Calls Vb 89 #[b9 #[G o.k,W o.t,G o.a,G o.b]] w λe w'=>Bj e (BK o)/\Qb w w':=by
 have d:=S k;unfold maxLen at k;by_cases q:20000<o.t.size
 .have H:(20000:Int)<o.t.size:=I;have l:=S (VB q);go_enter func89,ntmps89;go_wp2;go_ret;exact⟨⟨_,F,zT l⟩,zC⟩
 have H:¬ (20000:Int)<o.t.size:=I;have K:o.t.size<=20000:=I;by_cases g:o.k=1
 .have a:=S ((XX K g).trans (Yc _).symm);rw[g];go_enter func89,ntmps89;go_wp2_with (go_at_call 142;refine(O8 2 _ _ d).mono ?_;rintro e w' ⟨⟨v,rfl,f⟩,hx⟩;obtain rfl:=hx.symm);go_ret;exact⟨⟨_,F,f.trans a.symm⟩,zC⟩
 by_cases i:o.k=2
 .have a:=S ((XY K i).trans (Yd _).symm);rw[i];go_enter func89,ntmps89;go_wp2_with (go_at_call 142;refine(O8 3 _ _ d).mono ?_;rintro e w' ⟨⟨v,rfl,f⟩,hx⟩;obtain rfl:=hx.symm);go_ret;exact⟨⟨_,F,f.trans a.symm⟩,zC⟩
 by_cases j:o.k=6
 .have a:=S (XZ j);rw[j];by_cases c:o.t.size=0
  .rw[Pk c];go_enter func89,ntmps89;go_wp2;go_ret;exact⟨⟨_,F,Zt (a.2 c)⟩,zC⟩
  .have Q:o.t.toList.isEmpty=Vt:=Pj c;go_enter func89,ntmps89;go_wp2;go_ret;exact⟨⟨_,F,zT (λh=>c (a.1 h))⟩,zC⟩
 have m:(o.k==1)=Vt:=Ju g
 have n:(o.k==2)=Vt:=Ju i
 have u:(o.k==6)=Vt:=Ju j
 by_cases b:o.k=3\/o.k=4\/o.k=5
 .have a:=S (X2 K b);rcases b with b|b|b;all_goals
   rw[b]
   go_enter func89,ntmps89
   go_wp2_with (go_at_call 119;refine(Ni _ _ d).mono ?_;rintro e w' ⟨rfl,hx⟩;obtain rfl:=hx.symm)
   go_ret
   exact⟨⟨_,F,a.symm⟩,zC⟩
 have p:(o.k==3)=Vt:=Jq;have s:(o.k==4)=Vt:=Jq;have t:(o.k==5)=Vt:=Jq;have a:=S (SJ (o:=o) I);go_enter func89,ntmps89;go_wp2;go_ret;exact⟨⟨_,F,zT a⟩,zC⟩
def Tz:(prog.info? 3).map (·.size)=E 1:=Jk
def WG(o:zD)(a c w):Calls Vb 88 #[b9 #[G o.k,W o.t,G o.a,G o.b],i6 a 0 c] w λe w'=>Bj e (o.a=0/\o.b=0)/\Qb w w':=by
 have H:∀b:JY,(Builtin.copy_ #[72,72] 3 #[Ql (O w.1+1) 2 2,i6 a 0 c]).run Vb b=.ok (goInt 0) b:=λb=>run_copy_none b _ _ _ 3 _ _ _ _ _ _ underlying72 Tz Js
 have g:=S H;clear H;by_cases d:o.a=0;by_cases f:o.b=0;all_goals
  first|rw[d]|(have K:(o.a==0)=Vt:=Ju d)
  first|rw[f]|(have q:(o.b==0)=Vt:=Ju f)|skip
  go_enter func88,ntmps88
  go_wp2
  rw[D g]
  simp only[Result.andThen]
  rw[Oper.upon_value]
  go_wp2
  go_ret
  exact⟨⟨_,F,by first|exact Zt Js|exact zT (λh=>f h.2)|exact zT (λh=>d h.1)⟩,(zC).alloc Js _⟩
def qS(o:zD)(g H b t w)(i:w.cell? (J g H)=E (G t)):Calls Vb 88 #[b9 #[G o.k,W o.t,G o.a,G o.b],Je g H 1 b] w λe w'=>Bj e (o.a=t/\o.b=0)/\Qb w w':=by
 have l:=S (show ∀(x y:Int),(Builtin.copy_ #[72,72] 3 #[Ql (O w.1+1) 2 2,Je g H 1 b]).run Vb ((w.alloc (JM #[G o.k,W o.t,G x,G y] 108)).alloc (JM #[G 0,G 0] 198))=.ok (goInt 1) (((w.alloc (JM #[G o.k,W o.t,G x,G y] 108)).alloc (JM #[G 0,G 0] 198)).setCells (O w.1+1) 0 [G t]) from λx y=>by
  have K:g<O w.1:=jl i
  have c:Qb w ((w.alloc (JM #[G o.k,W o.t,G x,G y] 108)).alloc (JM #[G 0,G 0] 198)):=(zC).alloc Js _
  exact run_copy_cells _ _ _ _ 3 _ _ _ _ _ _ _ [G t] underlying72 Tz F (λj v a=>by
   rw[jO]
   match j,a with
   |0,a=>
    simp only[jm,jw]at a
    rw[<-a]
    exact Jc c K i) (λj a=>by simp at a;subst a;simp[go_sem]) (λj a=>Jg) (λv k=>by simp at k;rw[k];rfl))
 by_cases d:o.a=t;by_cases f:o.b=0;all_goals
  first|rw[d]|(have Q:(o.a==t)=Vt:=Ju d)
  first|rw[f]|(have q:(o.b==0)=Vt:=Ju f)|skip
  go_enter func88,ntmps88
  go_wp2
  rw[D l]
  simp only[Result.andThen,World.setCells]
  rw[Oper.upon_value]
  go_wp2
  go_ret
  exact⟨⟨_,F,by first|exact Zt Js|exact zT (λh=>f h.2)|exact zT (λh=>d h.1)⟩,(zC).alloc Js _⟩
def qT(o:zD)(g H d t b w)(k:w.cell? (J g H)=E (G t))(n:w.cell? (J g (H+1))=E (G b)):Calls Vb 88 #[b9 #[G o.k,W o.t,G o.a,G o.b],Je g H 2 d] w λe w'=>Bj e (o.a=t/\o.b=b)/\Qb w w':=by
 have m:=S (show ∀(x y:Int),(Builtin.copy_ #[72,72] 3 #[Ql (O w.1+1) 2 2,Je g H 2 d]).run Vb ((w.alloc (JM #[G o.k,W o.t,G x,G y] 108)).alloc (JM #[G 0,G 0] 198))=.ok (goInt 2) (((w.alloc (JM #[G o.k,W o.t,G x,G y] 108)).alloc (JM #[G 0,G 0] 198)).setCells (O w.1+1) 0 [G t,G b]) from λx y=>by
  have K:g<O w.1:=jl k
  have c:Qb w ((w.alloc (JM #[G o.k,W o.t,G x,G y] 108)).alloc (JM #[G 0,G 0] 198)):=(zC).alloc Js _
  exact run_copy_cells _ _ _ _ 3 _ _ _ _ _ _ _ [G t,G b] underlying72 Tz F (λj v a=>by
   rw[jO]
   match j,a with
   |0,a=>
    simp only[jm,jw]at a
    rw[<-a]
    exact Jc c K k
   |1,a=>
    simp only[jp,jm,jw]at a
    rw[<-a]
    exact(c.cell (p:=(J g (H+1))) K).trans n) (λj a=>by simp at a;rcases(I:j=0\/j=1) with rfl|rfl<;>simp[go_sem]) (λj a=>Jg) (λv l=>by simp at l;rcases l with rfl|rfl<;>rfl))
 by_cases f:o.a=t;by_cases i:o.b=b;all_goals
  first|rw[f]|(have Q:(o.a==t)=Vt:=Ju f)
  first|rw[i]|(have q:(o.b==b)=Vt:=Ju i)|skip
  go_enter func88,ntmps88
  go_wp2
  rw[D m]
  simp only[Result.andThen,World.setCells]
  rw[Oper.upon_value]
  go_wp2
  go_ret
  exact⟨⟨_,F,by first|exact Zt Js|exact zT (λh=>i h.2)|exact zT (λh=>f h.1)⟩,(zC).alloc Js _⟩
def ZQ(a:List Nat):JG:=a.reverse.map λ(n:Nat)=>(n:Int)
def Mm(a):Z (ZQ a)=Z a:=by simp[ZQ]
def UH{o k}(h:Z st<zY o.k):D7 o k st=none:=by
 unfold D7;rcases Mq o.k with a|a|a
 .omega
 .rw[yS I,yU a];match st,h with
  |[],_=>rfl
  |_::_,h=>simp[a]at h
 .rw[yS I,yS I];match st,h with
  |[],_=>rfl
  |[_],_=>rfl
  |_::_::_,h=>simp[a]at h;omega
def qU{o k m}(h:m+zY o.k=Z st):D7 o k st=if o.a=((ZQ st).drop m).getD 0 0/\o.b=((ZQ st).drop m).getD 1 0 then E (k::st.drop (zY o.k)) else none:=by
 unfold D7;rcases Mq o.k with b|b|b
 .rw[yU b,b];have:(ZQ st).drop m=[]:=by apply List.drop_eq_nil_of_le;rw[Mm];omega
  rw[this];simp
 .rw[yS I,yU b,b];match st,h with
  |[],h=>simp[b]at h
  |t::a,h=>
   have c:m=Z (ZQ a):=by rw[Mm];simp[b]at h;omega
   have:(ZQ (t::a)).drop m=[(t:Int)]:=by
    rw[c];have e:ZQ (t::a)=ZQ a++[(t:Int)]:=by simp[ZQ]
    rw[e];simp
   rw[this];simp
 .rw[yS I,yS I,b];match st,h with
  |[],h=>simp[b]at h
  |[_],h=>simp[b]at h
  |t2::t1::a,h=>
   have c:m=Z (ZQ a):=by rw[Mm];simp[b]at h;omega
   have:(ZQ (t2::t1::a)).drop m=[(t1:Int),(t2:Int)]:=by
    rw[c];have e:ZQ (t2::t1::a)=ZQ a++[(t1:Int),(t2:Int)]:=by simp[ZQ]
    rw[e];simp
   rw[this];simp
def fZ{k m c}(h:m+c=Z st):ZQ (k::st.drop c)=(ZQ st).take m++[(k:Int)]:=by unfold ZQ;rw[List.reverse_cons,List.map_append,jC,List.map_nil,<-List.map_take,List.reverse_drop];congr 3;omega
def gM(o:zD)(a c b w n)(k:n=Z b)(i:Z b<=2)(d:Z b=0\/∃g h,a=E (J g h)/\∀j,j<Z b->w.cell? (J g (h+j))=E (G (b.getD j 0))):Calls Vb 88 #[b9 #[G o.k,W o.t,G o.a,G o.b],i6 a n c] w λe w'=>Bj e (o.a=b.getD 0 0/\o.b=b.getD 1 0)/\Qb w w':=by
 subst k;match b,i,d with
 |[],_,_=>exact WG o a c w
 |[t],_,d=>
  rcases d with d|⟨g,h,f,H⟩
  .simp at d
  .subst f;exact qS o g h c t w (H 0 Js)
 |[t,t'],_,d=>
  rcases d with d|⟨g,h,f,H⟩
  .simp at d
  .subst f;exact qT o g h c t t' w (H 0 Js) (H 1 Js)
def oW{e c n m a}(h:w.ownsRow B e 1 (Ql g n c) n (zz a))(k:m<=n):w.ownsRow B e 1 (Ql g m c) m (zz (a.take m)):=by
 obtain⟨i,h|⟨j,x,K,b,d,H,l,f,Q,q⟩⟩:=h
 .simp at h
 .simp only[Value.slice.injEq,jw,Addr.mk.injEq]at b;obtain⟨⟨rfl,_⟩,_,rfl⟩:=b;rw[Ru]at i;refine⟨by rw[Ru];simp;omega,yX ⟨g,c,K,F,d,H,I,f,Q,?_⟩⟩;have:zz (a.take m)=(zz a).take m:=by simp[zz,List.map_take]
  rw[this,<-q,List.take_take];congr 1;omega
def qV:(prog.info? 3).map (λi=>(i.zero,i.size,i.bytes))=E (E (G 0),1,8):=Jk
def Vl(w:JY)(v):∀j u,(zz [v])[j]?=E u->(w.alloc (JM #[G v] 3)).cell? ((J (O w.1) 0).add j)=E u:=by intro j u a;rw[jO];have:=yF (w:=w.alloc (JM #[G v] 3)) (b:=O w.1) (jL w _) 0 1;exact this j u (by simpa[zz] using a)
def V1{e a n v j}(h:w.ownsRow B e a v n j):(v=Jl/\n=0)\/∃g c,v = Ql g n c/\B<=g/\g<O w.1/\n<=c:=by
 have d:=h;obtain⟨_,b|⟨g,c,H,b,f,k,i,_⟩⟩:=h
 .exact yW b
 .refine yX ⟨g,c,b,f,?_,i⟩;subst b;exact(d.lt g F).2
def Vm{a}(h:Below B a w)(c:w'.os=w.os)(d:w'.tape=w.tape)(e:w'.output=w.output)(b:w'.heap=w.heap):Below B a w':=
 ⟨c.trans h.os,d.trans h.tape,e.trans h.output,by rw[b];exact h.size,λi f=>by rw[b];exact h.block i f⟩
def Qi(b k m a):=(Y b k).a=((ZQ a).drop m).getD 0 0/\(Y b k).b=((ZQ a).drop m).getD 1 0
def Rh{k}(b:CW xs k=E st)(d:k<Z xs)(h:D7 (Y xs k) k st=JL):¬ Zk xs:=λa=>by obtain⟨c,H⟩:=a.stkS (k:=k+1) I;rw[Lv b,h]at H;cases H
def N4(w:JY)(g)(o:zD):=w.cell? (J g 0)=E (G o.k)/\w.cell? (J g 1)=E (W o.t)/\w.cell? (J g 2)=E (G o.a)/\w.cell? (J g 3)=E (G o.b)
def N4.y{o}(h:N4 w g o)(b:Below B w w')(a:g<B):N4 w' g o:=
 ⟨Jc b a h.1,Jc b a h.2.1,Jc b a h.2.2.1,Jc b a h.2.2.2⟩
def N4.new(w:JY)(o):N4 (w.alloc (JM #[G o.k,W o.t,G o.a,G o.b] 108)).drew (O w.1) o:=
 (show N4 (w.alloc (JM #[G o.k,W o.t,G o.a,G o.b] 108)) (O w.1) o from⟨Jg,Jg,Jg,Jg⟩)
def UI(b M cap xs w)(hm:Z xs<=1048576)(hw:Z2 w b M xs)(hs:C5 xs)(hB:b<O w.1):Calls Vb 48 #[b9 #[Je b M (Z xs) cap]] w λe w'=>Bj e (Zk xs)/\Qb w w':=by
 by_cases h2:20000<Z xs
 .have hg:(20000:Int)<Z xs:=I;have HN:Hid (¬ Zk xs):=λh=>Jy h.2.1
  go_enter func48,ntmps48;go_wp2;go_ret;exact⟨⟨_,F,zT HN⟩,zC⟩
 have hg:¬ (20000:Int)<Z xs:=I;obtain⟨i0,N,s,R,L⟩:∃i,prog.info? 3=E i/\i.zero=E (G 0)/\i.size=1/\i.bytes=8:=by obtain⟨i,hi,hz⟩:=jx.1 qV;simp only[Prod.mk.injEq]at hz;exact⟨i,hi,hz.1,hz.2.1,hz.2.2⟩
 have HI:=S N;have HZ:=S (yO s (yO R L));clear N s R L;go_enter func48,ntmps48;go_wp2;go_loopw [3,14] (λlv iv wr=>∃(k:Nat)(st:List Nat)(v:Value),k<=Z xs/\iv=G k/\lv=v/\Hid (CW xs k=E st)/\Hid (wr.ownsRow (O w.1) 3 1 v (Z st) (zz (ZQ st)))/\Hid (Z st<=k)/\Hid (k=0->v=Jl/\st=[])/\Hid (0<k->0<Z st)/\Hid (∀j,j<k->BK (Y xs j))/\Qb w wr) (λ_ iv _=>Z xs-(intOf iv).toNat);case atStart=>exact⟨0,[],_,yn,F,F,S F,S jt,S yn,S (λ_=>⟨F,F⟩),S (λh=>yV h (Nat.lt_irrefl _)),S (λj hj=>yV hj (yz j)),zC⟩
 case round=>
  obtain⟨k,st,v,hk,rfl,rfl,y,x,u,hp,hO,hM,H⟩:=hrel;by_cases hN:k<Z xs
  .obtain⟨c0,c1,c2,c3⟩:=((hw) k hN).y H hB;have h9:(k:Int)<Z xs:=I;have B:Z st<=20000:=Jy (D u)
   obtain⟨c,HC⟩:∃c:Nat,Hid (zY (Y xs k).k=c):=⟨_,S F⟩;have hD:c<=2:=by have:=D HC;have:=Mq (Y xs k).k;omega
   have hf:=S (hs k hN);have HB:=S (@zC wr (JM #[G (Y xs k).k,W (Y xs k).t,G (Y xs k).a,G (Y xs k).b] 108)).drew;have t:=S (show O wr.1<(wr.alloc (JM #[G (Y xs k).k,W (Y xs k).t,G (Y xs k).a,G (Y xs k).b] 108)).drew.heap.size from(Js:O wr.1<O (wr.alloc (JM #[G (Y xs k).k,W (Y xs k).t,G (Y xs k).a,G (Y xs k).b] 108)).1));have he:=S (N4.new wr (Y xs k));rcases V1 x with⟨hv,hJ⟩|⟨g,cp,hv,h4,hP,hS⟩;all_goals subst hv
   focus
    obtain rfl:st=[]:=List.eq_nil_of_length_eq_zero hJ
    clear hJ B hO hp x u
    rcases(I:c=0\/c=1\/c=2) with hc|hc|hc
    all_goals subst hc
    rotate_left
    iterate 2
     focus
      have K:=S (Rh y hN (UH (by rw[D HC];decide)))
      go_wp2_with (go_at_call 87;refine(Rl HC _ F _).mono ?_;rintro e w' ⟨rfl,hx⟩;obtain rfl:=hx.symm)
      go_quiet (fail)
      go_wp2
      go_ret
      exact⟨⟨_,F,zT K⟩,Vm (H.alloc H.size _) F rfl rfl rfl⟩
    have HK:=S (WG (Y xs k) JL 0 (wr.alloc (JM #[G (Y xs k).k,W (Y xs k).t,G (Y xs k).a,G (Y xs k).b] 108)).drew)
    have A:=S (show((Y xs k).a=0/\(Y xs k).b=0->D7 (Y xs k) k []=E [k])/\(¬ ((Y xs k).a=0/\(Y xs k).b=0)->D7 (Y xs k) k []=JL) by
     unfold D7
     rw[yU (D HC)]
     exact⟨λh=>yU h,λh=>yS h⟩)
    by_cases hR:(Y xs k).a=0/\(Y xs k).b=0
    by_cases U:BK (Y xs k)
   rotate_left 3
   focus
    obtain⟨n,hn⟩:=Jx (Z st)
    rw[<-hn]at B hS
    have HN:=S hn
    rw[<-hn]
    have HO:=S (by rw[hn];exact D x:wr.ownsRow (O w.1) 3 1 (Ql g n cp) n (zz (ZQ st)))
    clear hn x
    by_cases h5:n<c
    .have K:=S (Rh y hN (UH (by rw[D HC,<-D HN];exact h5)))
     have h7:(n:Int)-c<0:=I
     go_wp2_with (go_at_call 87;refine(Rl HC _ F _).mono ?_;rintro e w' ⟨rfl,hx⟩;obtain rfl:=hx.symm)
     go_quiet (fail)
     go_wp2
     go_ret
     exact⟨⟨_,F,zT K⟩,Vm (H.alloc H.size _) F rfl rfl rfl⟩
    obtain⟨m,d⟩:∃m,n=m+c:=⟨n-c,I⟩
    have hE:(n:Int)-c=(m:Int):=I
    have hH:(m:Int)<=n:=I
    have hI:n-m=c:=I
    have V:=S d
    have hA:(m:Int)<=cp:=I
    have hF:decide ((m:Int)<0)=Vt:=Js
    have hC:m<=k:=by have:=D u;have:=D HN;omega
    have h0:=S (show ∀(hQ:JY)(a:Option Addr)(cp':Nat),Qb wr hQ->(c=0\/a=E (J g m))->Calls Vb 88 #[b9 #[G (Y xs k).k,W (Y xs k).t,G (Y xs k).a,G (Y xs k).b],i6 a c cp'] hQ λe w'=>Bj e (Qi xs k m st)/\Qb hQ w' from λhQ a cp' hW ha=>by
     have hl:Z ((ZQ st).drop m)=c:=by rw[List.length_drop,Mm,<-D HN];omega
     refine gM (Y xs k) _ cp' ((ZQ st).drop m) hQ c hl.symm I ?_
     rcases ha with ha|ha
     .exact yW I
     .refine yX ⟨g,m,ha,λj hj=>?_⟩
      rw[hW.cell (p:=(J g (m+j))) hP]
      have hb:m+j<n:=I
      have e1:=HO.cellAt (m+j) I
      have e2:=VU (ZQ st) (m+j) (by rw[Mm,<-D HN];exact hb)
      rw[e1,e2]
      simp[AB,List.getElem?_drop])
    obtain⟨ad,hu⟩:∃ad,(if cp=m then E (J g 0) else E (J g m))=ad:=⟨_,F⟩
    have h6:=S (show c=0\/ad=E (J g m) by
     by_cases h:cp=m
     .exact yW I
     .exact yX (hu.symm.trans (yS h)))
    have A:=S (show(Qi xs k m st->D7 (Y xs k) k st=E (k::st.drop c))/\(¬ Qi xs k m st->D7 (Y xs k) k st=JL) by
     have:=qU (o:=Y xs k) (k:=k) (m:=m) (st:=st) (by rw[D HC,<-D HN];exact d.symm)
     rw[D HC]at this
     exact⟨λh=>this.trans (yU h),λh=>this.trans (yS h)⟩)
    have HK:=S (h0 (wr.alloc (JM #[G (Y xs k).k,W (Y xs k).t,G (Y xs k).a,G (Y xs k).b] 108)).drew ad (cp-m) HB h6)
    clear d
    by_cases hR:Qi xs k m st
    by_cases U:BK (Y xs k)
   all_goals
    first|(have K:=S (Rh y hN (A.2 hR)))|(have K:=S (show ¬ Zk xs from λh=>U (h.2.2.2 k hN)))|skip
    have HF:=S hR
    first|(have HX:=S U;clear U)|skip
    clear hR
    go_wp2_with (go_at_call 87;refine(Rl HC _ F _).mono ?_;rintro e w' ⟨rfl,hx⟩;obtain rfl:=hx.symm)
    go_region_with (first|(go_at_call 88;refine HK.mono ?_;rintro e w2 ⟨⟨v2,rfl,hv2⟩,hb2⟩;(first|(have hh:v2=Vp:=hv2.2 HF;subst hh)|(have hh:v2=Vt:=Bool.eq_false_iff.2 (λh=>HF (hv2.1 h));subst hh));have z2:O wr.1<O w2.1:=ym t hb2.size;have HQ:=S (he.y hb2 t);obtain⟨q20,q21,q22,q23⟩:=D HQ;have G2:=S (HB.trans (hb2.mono (Nat.le_of_lt t)));clear hb2 hv2)|(go_at_call 89;refine(fY (Y xs k) _ hf).mono ?_;rintro e w3 ⟨⟨v3,rfl,hv3⟩,hb3⟩;(first|(have hh:v3=Vp:=hv3.2 HX;subst hh)|(have hh:v3=Vt:=Bool.eq_false_iff.2 (λh=>HX (hv3.1 h));subst hh));obtain⟨q30,q31,q32,q33⟩:=HQ.y hb3 z2;replace G2:=S (G2.trans (hb3.mono G2.size));clear hb3 hv3))
    have B3:=S (H.trans (G2.mono H.size))
    first|(have _:=K;go_wp2;go_ret;exact⟨⟨_,F,zT K⟩,B3⟩)|skip
   .have hy:=S (oW (HO.kept (zH G2 JL) (yX Jb)) (m:=m) I);have hr:O w.1<=O w3.1:=B3.size;have hG:Z ((ZQ st).take m)=m:=by rw[List.length_take,Mm,<-D HN];omega
    go_wp2_with (at_builtin;refine yP _ F (.tmp 42) (.tmp 44) 72 F (O w.1) 3 i0 _ 1 8 underlying72 HI HZ.1 HZ.2.1 HZ.2.2 F Jd _ m (zz ((ZQ st).take m)) F (hy.alloc _) (J (O w3.1) 0) 1 1 (zz [(k:Int)]) F rfl (Vl w3 (k:Int)) (I0 _) Jm I Jq ?_);intro v4 w4 X Q hK hU;have l:=S ((B3.alloc B3.size _).grown Q Jq (λq hq=>by simp[i8]at hq;omega));have f:=S (show w4.ownsRow (O w.1) 3 1 v4 (Z (k::st.drop c)) (zz (ZQ (k::st.drop c))) by
     rw[fZ (m:=m) (by rw[<-D HN];exact(D V).symm),Nd]
     have:Z (k::st.drop c)=m+1:=by have:=D HN;have:=D V;simp;omega
     rw[this]
     exact X)
    have hd:=S (by have:=D HN;have:=D V;simp;omega:Z (k::st.drop c)<=k+1);have z:=S (by rw[Lv (D y),(D A).1 (D HF)]:CW xs (k+1)=E (k::st.drop c));go_wp2;refine⟨⟨k+1,k::st.drop c,v4,I,Jn,F,z,f,hd,S (λh=>I),S (λ_=>Js),S (λj hj=>?_),l⟩,Ji⟩;by_cases e:j=k
    .subst e;exact HX
    .exact hM j I
   .have hr:O w.1<=O w3.1:=B3.size;go_wp2_with (at_builtin;refine yP _ F (.tmp 42) (.tmp 44) 72 F (O w.1) 3 i0 _ 1 8 underlying72 HI HZ.1 HZ.2.1 HZ.2.2 F Jd _ 0 [] F jt (J (O w3.1) 0) 1 1 (zz [(k:Int)]) F rfl (Vl w3 (k:Int)) (I0 _) Jm I Jq ?_);intro v4 w4 X Q hK hU;have l:=S ((B3.alloc B3.size _).grown Q Jq (λq hq=>by simp[i8]at hq));have f:Hid (w4.ownsRow (O w.1) 3 1 v4 [k].length (zz (ZQ [k]))):=X;have z:=S (by rw[Lv (D y),(D A).1 (D HF)]:CW xs (k+1)=E [k]);go_wp2;refine⟨⟨k+1,[k],v4,I,Jn,F,z,f,S Js,S (λh=>I),S (λ_=>Js),S (λj hj=>?_),l⟩,Ji⟩;by_cases e:j=k
    .subst e;exact HX
    .exact hM j I
  .have h3:k=Z xs:=I;have P:=S h3;rcases V1 x with⟨hv,hJ⟩|⟨g,cp,hv,h4,hP,hS⟩
   .subst hv;have K:Hid (¬ Zk xs):=λh=>by have:=(D hO) (by have:=h.1;have:=D P;omega);omega
    go_wp2;go_ret;exact⟨⟨_,F,zT K⟩,H⟩
   .subst hv;by_cases C:Z st=1
    .have T:=S (show Zk xs by
      have h1:1<=Z xs:=by have:=D u;have:=D P;omega
      exact⟨h1,I,(RO h1).2 ⟨st,by rw[<-D P];exact y,C⟩,λi hi=>hM i (Jy (D P))⟩)
     rw[C];go_wp2;go_ret;exact⟨⟨_,F,Zt T⟩,H⟩
    .have K:=S (show ¬ Zk xs from λh=>by
      obtain⟨st',ht,ho⟩:=(RO h.1).1 h.2.2.1
      have e:=D y
      rw[D P,ht]at e
      injection e with e
      subst e
      exact C ho)
     have h8:((Z st:Int)==1)=Vt:=Jq;go_wp2;go_ret;exact⟨⟨_,F,zT K⟩,H⟩
def mv(a:Jj)(k j:Nat):Int:=if j<k then(Am a (j+1):Int)-1 else 0
def F5(w:JY)(g)(a:Jj)(k:Nat):=g<O w.1/\∀j,j<Z a->w.cell? (J g j)=E (G (mv a k j))/\w.frozen? (J g j)=Vt
def F5.y{k}(h:F5 w g xs k)(a:Qb w w'):F5 w' g xs k:=
 ⟨ym h.1 a.size,λj b=>⟨Jc a h.1 (h.2 j b).1,(a.frozen (p:=J g j) h.1).trans (h.2 j b).2⟩⟩
def F5.kept{g' k}(h:F5 w g xs k)(a:zE w w' g')(H:g≠g'):F5 w' g xs k:=
 ⟨ym h.1 a.size,λj b=>⟨(a.cell h.1 H j).trans (h.2 j b).1,(a.frozen h.1 H j).trans (h.2 j b).2⟩⟩
def F5.set{k}(h:F5 w g xs k)(d:k<Z xs){v}(c:v=(Am xs (k+1):Int)-1):F5 (w.setCell (J g k) (G v)) g xs (k+1):=by
 refine⟨by simpa[World.setCell] using h.1,λj a=>⟨?_,(yx).trans (h.2 j a).2⟩⟩;by_cases e:j=k
 .subst e;rw[yu _ _ _ (h.2 j a).1,c];simp[mv]
 .rw[yj _ _ _ _ (λx=>e (by injection x with _ x;exact x.symm)),(h.2 j a).1];unfold mv;by_cases b:j<k
  .rw[yU b,yU I]
  .rw[yS b,yS I]
def mP(h:Zk xs){k}(n:k<Z xs)(p:(Y xs k).k≠6):∃i j:Nat,(Y xs k).a=(i:Int)/\(Y xs k).b=(j:Int)/\i<Z xs/\j<Z xs/\BS xs (Y xs k)=⟨(Y xs k).k,(Y xs k).t,mv xs k i,mv xs k j⟩:=by
 have H:=VA h;have b:mv xs k 0=0:=by
  unfold mv;split
  .rw[jd,H];rfl
  .rfl
 rcases h.kidsAt n with⟨l,g,a⟩|⟨f,m,g,a⟩|⟨f,m,a,q,K⟩
 .refine⟨0,0,g,a,I,I,?_⟩;simp[BS,l,b]
 .refine⟨k-1,0,I,a,I,I,?_⟩;have e:((k:Int)-1).toNat+1=k:=I;have c:k-1+1=k:=I;have d:k-1<k:=I;simp[BS,f,b,g,Fp,e,mv,c,d];intro h;omega
 .refine⟨(Y xs k).a.toNat,k-1,I,I,I,I,?_⟩;have e:((k:Int)-1).toNat+1=k:=I;have c:k-1+1=k:=I;have d:k-1<k:=I;have o:(Y xs k).a.toNat<k:=I;simp[BS,f,a,Fp,e,mv,c,d];intro h;omega
def zaj:(prog.info? 3).map (λi=>(i.zero,i.size,i.bytes))=E (E (G 0),1,8):=Jk
def mQ(a:JY)(n j)(c:j<n):(a.alloc (JM (madeCells #[G 0] n) 3)).cell? (J (O a.1) j)=E (G 0)/\(a.alloc (JM (madeCells #[G 0] n) 3)).frozen? (J (O a.1) j)=Vt:=by have b:(a.alloc (JM (madeCells #[G 0] n) 3)).heap[O a.1]?=E (JM (madeCells #[G 0] n) 3 (0,0)):=jL a _;refine⟨?_,frozen_of_row _ _ _ _ _ b⟩;rw[cell_of_row _ (O a.1) j _ 3 (0,0) b];simp[madeCells,c,Nat.mod_one]
def Ud(b U cap xs w)(hm:Z xs<=1048576)(hw:Z2 w b U xs)(hs:C5 xs)(hB:b<O w.1):Calls Vb 15 #[b9 #[Je b U (Z xs) cap]] w λe w'=>(∃(a:Option Addr)(c:Nat)(us:Jj)(v:Bool),e=.returned (.tuple #[b9 #[.slice a (Z us) c],.bool v])/\Hid (ZS w' (O w.1) a us)/\Hid (Zy xs us v))/\Qb w w':=by
 obtain⟨iN,n,hE,A,t⟩:=Ic BB;have hC:=S n;have hD:=S (yO hE (yO A t));obtain⟨iI,s,i,L,l⟩:=Ic zaj;have h0:∀hM:JY,(Instr.makeSlice 38 (G 0) (G (Z xs:Int))).run Vb hM=.ok (Ql (O hM.1) 0 (Z xs)) (hM.alloc (JM (madeCells #[G 0,W ⟨#[]⟩,G 0,G 0] (Z xs*4)) 108)):=by intro hM;have:=run_make (P:=Vb) hM 38 108 iN _ underlying38 n hE .i64 .i64 0 (Z xs) I I (by rw[t];omega) I;simpa[A,Value.cells] using this
 have h2:∀hM:JY,(Instr.makeSlice 72 (G (Z xs:Int)) (G (Z xs:Int))).run Vb hM=.ok (Ql (O hM.1) (Z xs) (Z xs)) (hM.alloc (JM (madeCells #[G 0] (Z xs)) 3)):=by intro hM;have:=run_make (P:=Vb) hM 72 3 iI _ underlying72 s i .i64 .i64 (Z xs) (Z xs) I (Int.le_refl _) (by rw[l];omega) I;simpa[L,Value.cells] using this
 clear n hE A t s i L l;go_enter func15,ntmps15;go_wp2_with fail;go_call UI b U cap xs _ hm (hw.y ((zC).alloc Js _) hB) hs Jq as e w1 ⟨⟨v,rfl,hv⟩,hb1⟩;have HV:=S hv;have f:Qb w w1:=((zC).alloc Js _).trans (hb1.mono Jq);have z1:O w.1+2<=O w1.1:=Jz hb1.size
 have c0:w1.cell? (J (O w.1) 0)=E (Je b U (Z xs) cap):=Jc hb1 Jh Jg;have c1:w1.cell? (J (O w.1+1) 0)=E Jl:=(hb1.cell (p:=(J (O w.1+1) 0)) Js).trans Jg;have d1:w1.frozen? (J (O w.1+1) 0)=Vt:=(hb1.frozen (p:=(J (O w.1+1) 0)) Js).trans Jg;clear hv hb1;cases v
 .go_wp2_with fail;refine yQ (v:=.tuple #[b9 #[Jl],.bool Vt]) ?res F ⟨⟨JL,0,[],Vt,F,S (yW ⟨F,F⟩),S (yX ⟨λh=>jq (HV.2 h),F,F⟩)⟩,?_⟩;case res=>simp[results,results15,go_sem,c1]
  exact f.setCell Js _
 have HO:=S (HV.1 F);have h8:=HO.2.1;have h1:=HO.1;clear HV;have hd:=S (show ∀o:Obj,F5 ((w1.alloc o).alloc (JM (madeCells #[G 0] (Z xs)) 3)) (O w1.1+1) xs 0 from λo=>by
  refine⟨Js,λj hj=>?_⟩
  have:=mQ (w1.alloc o) (Z xs) j hj
  simpa[mv] using this)
 have he:=S (show ∀o:Obj,AS ((w1.alloc (JM (madeCells #[G 0,W ⟨#[]⟩,G 0,G 0] (Z xs*4)) 108)).alloc o) (O w1.1) (O w1.1) (Z xs) [] from λo=>by
  have hb:AS (w1.alloc (JM (madeCells #[G 0,W ⟨#[]⟩,G 0,G 0] (Z xs*4)) 108)) (O w1.1) (O w1.1) (Z xs) []:=
   ⟨by simp[zO],yX ⟨O w1.1,Z xs,_,F,yk,jL w1 _,yn,Jm,by rw[size_madeCells],by simp[zO]⟩⟩
  exact hb.y zC)
 have c0a:(w1.alloc (JM (madeCells #[G 0,W ⟨#[]⟩,G 0,G 0] (Z xs*4)) 108)).cell? (J (O w.1) 0)=E (Je b U (Z xs) cap):=Jc zC (I:O w.1<O w1.1) c0;have c0b:((w1.alloc (JM (madeCells #[G 0,W ⟨#[]⟩,G 0,G 0] (Z xs*4)) 108)).alloc (JM (madeCells #[G 0] (Z xs)) 3)).cell? (J (O w.1) 0)=E (Je b U (Z xs) cap):=((zC).cell (p:=J (O w.1) 0) (Jq:O w.1<O (w1.alloc (JM (madeCells #[G 0,W ⟨#[]⟩,G 0,G 0] (Z xs*4)) 108)).1)).trans c0a;go_wp2;go_loopw [4,23] (λnv iv wr=>∃(k g c:Nat)(us:Jj),k<=Z xs/\iv=G k/\nv = Ql g (Z us) c/\Hid (us=er xs k)/\Hid (AS wr (O w1.1) g c us)/\Hid (F5 wr (O w1.1+1) xs k)/\g≠O w1.1+1/\Z us<=20000/\O w1.1+2<=O wr.1/\Qb w1 wr) (λ_ iv _=>Z xs-(intOf iv).toNat);case atStart=>exact⟨0,O w1.1,Z xs,[],yn,F,F,S F,he _,hd _,I,Js,Js,(zC).alloc Js _⟩
 case round=>
  clear hd he;obtain⟨k,g,c,us,hk,rfl,rfl,hF,hN,H,ho,hp,h9,K⟩:=hrel;have belw:=f.trans (K.mono f.size);have hA:=hN.lt;by_cases x:k<Z xs
  .obtain⟨a0,a1,a2,a3⟩:=((hw) k x).y belw hB;have h3:(k:Int)<Z xs:=I;obtain⟨mk0,mk1⟩:=H.2 k x;by_cases h6:(Y xs k).k=6
   .have hG:=HO.kidsAt x;have M:1<=k/\(Y xs k).a=(k:Int)-1:=by
     have h7:zY (Y xs k).k=1:=by rw[h6];rfl
     rcases hG with h|h|h
     .omega
     .exact⟨h.2.1,h.2.2.1⟩
     .omega
    obtain⟨M,hn⟩:=M;have m:(Y xs k).a=((k-1:Nat):Int):=I;rw[h6]at a0;rw[m]at a2;have h4:((k-1:Nat):Int)<(Z xs:Int):=I;have hP:=S (by rw[D hF,Py h6]:us=er xs (k+1));have C:=S (H.y (@zC wr (JM #[G 6,W (Y xs k).t,G ((k-1:Nat):Int),G (Y xs k).b] 108)));have m0:=(C.2 (k-1) I).1;obtain⟨m1,m2⟩:=C.2 k x;obtain⟨mvv,B⟩:∃z,z=mv xs k (k-1):=⟨_,F⟩;obtain⟨mvk,y⟩:∃z,z=mv xs k k:=⟨_,F⟩;rw[<-B]at m0;rw[<-y]at m1;have ha:=S (C.set x (v:=mvv) (by
     rw[B]
     unfold mv
     rw[yU I,Nat.sub_add_cancel M]
     show _=((if(Y xs k).k=6 then Am xs k else Am xs k+1:Nat):Int)-1
     rw[yU h6]))
    clear B y mk0 mk1 hG hn h6 m H;go_wp2;refine⟨⟨k+1,g,c,us,I,Jn,F,hP,S ((hN.y zC).set _ _ _ I),ha,ho,hp,by simp[World.setCell];omega,(K.alloc K.size _).setCell Js _⟩,Ji⟩
   .obtain⟨ja,jb,hf,hc,hI,X,d⟩:=mP HO x h6;have hg:((Y xs k).k==6)=Vt:=Ju h6
    rw[hf]at a2;rw[hc]at a3;obtain⟨va,u⟩:∃z,z=mv xs k ja:=⟨_,F⟩;obtain⟨vb,V⟩:∃z,z=mv xs k jb:=⟨_,F⟩;rw[<-u,<-V]at d;obtain⟨vs,N⟩:∃vs,Hid (vs=er xs (k+1)):=⟨_,S F⟩;have hu:=S (by rw[D N,Lw h6,D hF,d]:vs=us++[⟨(Y xs k).k,(Y xs k).t,va,vb⟩]);have hh:Z vs<=20000:=by have:=GQ xs (k+1);rw[D N,D5];omega
    have h5:(ja:Int)<Z xs:=I;have hz:(jb:Int)<Z xs:=I;have ma0:(wr.alloc (JM #[G (Y xs k).k,W (Y xs k).t,G ja,G jb] 108)).cell? (J (O w1.1+1) ja)=E (G va):=by rw[u];exact((H.y (@zC wr _)).2 ja hI).1
    have mb0:(wr.alloc (JM #[G (Y xs k).k,W (Y xs k).t,G ja,G jb] 108)).cell? (J (O w1.1+1) jb)=E (G vb):=by rw[V];exact((H.y (@zC wr _)).2 jb X).1
    have ma1:(wr.alloc (JM #[G (Y xs k).k,W (Y xs k).t,G ja,G vb] 108)).cell? (J (O w1.1+1) ja)=E (G va):=by rw[u];exact((H.y (@zC wr _)).2 ja hI).1
    have mb1:(wr.alloc (JM #[G (Y xs k).k,W (Y xs k).t,G ja,G vb] 108)).cell? (J (O w1.1+1) jb)=E (G vb):=by rw[V];exact((H.y (@zC wr _)).2 jb X).1
    have ma2:(wr.alloc (JM #[G (Y xs k).k,W (Y xs k).t,G va,G jb] 108)).cell? (J (O w1.1+1) ja)=E (G va):=by rw[u];exact((H.y (@zC wr _)).2 ja hI).1
    have mb2:(wr.alloc (JM #[G (Y xs k).k,W (Y xs k).t,G va,G jb] 108)).cell? (J (O w1.1+1) jb)=E (G vb):=by rw[V];exact((H.y (@zC wr _)).2 jb X).1
    have ma3:(wr.alloc (JM #[G (Y xs k).k,W (Y xs k).t,G va,G vb] 108)).cell? (J (O w1.1+1) ja)=E (G va):=by rw[u];exact((H.y (@zC wr _)).2 ja hI).1
    have mb3:(wr.alloc (JM #[G (Y xs k).k,W (Y xs k).t,G va,G vb] 108)).cell? (J (O w1.1+1) jb)=E (G vb):=by rw[V];exact((H.y (@zC wr _)).2 jb X).1
    clear mk0 mk1 h6 hf hc d u V;go_wp2;go_region;have BD:Qb wr (wr.alloc (JM #[G (Y xs k).k,W (Y xs k).t,G va,G vb] 108)).drew:=(zC).drew;have z5:(wr.alloc (JM #[G (Y xs k).k,W (Y xs k).t,G va,G vb] 108)).drew.heap.size=O wr.1+1:=(Js:O (wr.alloc (JM #[G (Y xs k).k,W (Y xs k).t,G va,G vb] 108)).1=O wr.1+1);have n0:(wr.alloc (JM #[G (Y xs k).k,W (Y xs k).t,G va,G vb] 108)).drew.cell? (J (O wr.1) 0)=E (G (Y xs k).k):=(Jg:(wr.alloc (JM #[G (Y xs k).k,W (Y xs k).t,G va,G vb] 108)).cell? (J (O wr.1) 0)=E (G (Y xs k).k));have n1:(wr.alloc (JM #[G (Y xs k).k,W (Y xs k).t,G va,G vb] 108)).drew.cell? (J (O wr.1) 1)=E (W (Y xs k).t):=(Jg:(wr.alloc (JM #[G (Y xs k).k,W (Y xs k).t,G va,G vb] 108)).cell? (J (O wr.1) 1)=E (W (Y xs k).t));have n2:(wr.alloc (JM #[G (Y xs k).k,W (Y xs k).t,G va,G vb] 108)).drew.cell? (J (O wr.1) 2)=E (G va):=(Jg:(wr.alloc (JM #[G (Y xs k).k,W (Y xs k).t,G va,G vb] 108)).cell? (J (O wr.1) 2)=E (G va));have n3:(wr.alloc (JM #[G (Y xs k).k,W (Y xs k).t,G va,G vb] 108)).drew.cell? (J (O wr.1) 3)=E (G vb):=(Jg:(wr.alloc (JM #[G (Y xs k).k,W (Y xs k).t,G va,G vb] 108)).cell? (J (O wr.1) 3)=E (G vb));generalize(wr.alloc (JM #[G (Y xs k).k,W (Y xs k).t,G va,G vb] 108)).drew=w5 at BD z5 n0 n1 n2 n3 ⊢;have hH:=S (H.y BD);have hi:=S (hN.y BD);have B5:=K.trans (BD.mono K.size);obtain⟨m1,m2⟩:=hH.2 k x;obtain⟨mvk,y⟩:∃z,z=mv xs k k:=⟨_,F⟩;rw[<-y]at m1;have hK:=S (hH.set x (v:=(Z us:Int)) (by
     rw[D hF,D5]
     have e:(Y xs k).k≠6:=Ju hg
     show _=((if(Y xs k).k=6 then Am xs k else Am xs k+1:Nat):Int)-1
     rw[yS e]
     omega))
    have ht:=S (hi.set (O w1.1+1) k (G (Z us:Int)) I);have B6:Qb w1 (w5.setCell (J (O w1.1+1) k) (G (Z us:Int))):=B5.setCell Js _;have z6:(w5.setCell (J (O w1.1+1) k) (G (Z us:Int))).heap.size=O wr.1+1:=by simpa[World.setCell] using z5
    have p0:(w5.setCell (J (O w1.1+1) k) (G (Z us:Int))).cell? (J (O wr.1) 0)=E (G (Y xs k).k):=(yj _ _ _ _ (λe=>by injection e with e;omega)).trans n0;have p1:(w5.setCell (J (O w1.1+1) k) (G (Z us:Int))).cell? (J (O wr.1) 1)=E (W (Y xs k).t):=(yj _ _ _ _ (λe=>by injection e with e;omega)).trans n1;have p2:(w5.setCell (J (O w1.1+1) k) (G (Z us:Int))).cell? (J (O wr.1) 2)=E (G va):=(yj _ _ _ _ (λe=>by injection e with e;omega)).trans n2;have p3:(w5.setCell (J (O w1.1+1) k) (G (Z us:Int))).cell? (J (O wr.1) 3)=E (G vb):=(yj _ _ _ _ (λe=>by injection e with e;omega)).trans n3;have NW:=S (GH (w5.setCell (J (O w1.1+1) k) (G (Z us:Int))) (O wr.1+1) ⟨(Y xs k).k,(Y xs k).t,va,vb⟩ z6);go_wp2_with (at_builtin;refine As BB underlying38 (.tmp 56) (.tmp 58) F rfl (O w1.1) _ (Z us) (zO us) F (ht.y zC) (J (O wr.1+1) 0) 1 1 (zO [⟨(Y xs k).k,(Y xs k).t,va,vb⟩]) F rfl NW (zf _) Jm I (by simp[World.setCell];omega) ?_);intro v4 w4 hJ Q R T;obtain⟨g4,c4,rfl,hr⟩:=AS.snoc hJ (by simp[R]) hu;have hy:=S hr;have B4:=S ((B6.alloc B6.size _).grown Q Jq (λq hq=>by simp[i8]at hq;omega));have hl:g4≠O w1.1+1:=by simp[i8,World.setCell]at T;omega
    have hO:=S (((hK.y zC).kept (g':=g) ((zE.refl _ _).grownRow Q (λq hq=>by simp[i8]at hq;omega)) I));have z4:O w1.1+2<=O w4.1:=Jz Q.size
    go_wp2;exact⟨⟨k+1,g4,c4,vs,I,Jn,F,N,hy,hO,hl,hh,z4,B4⟩,Ji⟩
  .have hx:k=Z xs:=I;have e1:=Jc K I c1;have f1:=Vf K I d1;have hP:=S (by rw[D hF,hx]:us=er xs (Z xs));go_wp2_with fail;refine yQ (v:=.tuple #[b9 #[Ql g (Z us) c],.bool Vp]) ?res F ⟨⟨E (J g 0),c,us,Vp,F,S (yX ⟨g,F,I,?_⟩),S (yW ⟨HO,F,hP⟩)⟩,?_⟩;case res=>simp[results,results15,go_sem,e1]
   .exact(Ib hN).2.setCell _ _ _ I
   .exact belw.setCell Js _
