import Derived.Test.YtdgcbenningkdaaGreatDoorV05
import Derived.Test.YtdgcbenningkdaaGreatDoorV06
import Derived.Test.YtdgcbenningkdaaGreatDoorV09
import Derived.Test.YtdgcbenningkdaaGreatDoorV10
namespace Go.Proofs.YtdgcbenningkdaaGreatDoor
set_option linter.all false
set_option maxHeartbeats 0
set_option maxRecDepth 100000
open Proofs.Tryz RowKit
variable{B P b e i m p s:Nat}{a X w w' w1 w2 wr:World}{cs:List Value}{o:Ad}{ps:List ByteArray}{st:List ByteArray × Int}{u v:Value}
open _root_.Array renaming size→O
open List renaming length→Z
open Option renaming some→E,none→JL
open Obj renaming cells→JM
open Bool renaming false→Vt,true→Vp
open Proofs.Tryz renaming prog→Vb
open Value renaming agg→b9,tuple→i5,slice→i6,bool→i7,ownBlock→i8
open Ending renaming returned→i9
open _root_.ByteArray renaming empty→j6
def Fe(w:JY)(B:Nat)(v)(l:Jw):=
 ∃g a,v = Ql g (Z l) a/\B<=g/\g<O w.1/\Z l<=a/\a<=maxLen/\(∀j,j<a->(w.cell? (J g j)).isSome=Vp/\w.frozen? (J g j)=Vt)/\∀j u,(Ag l)[j]?=E u->w.cell? (J g j)=E u
theorem Fe.y{l}(h:Fe w B v l)(b:Qb w w'):Fe w' B v l:=by obtain⟨g,d,rfl,i,a,k,m,o,n⟩:=h;refine⟨g,d,F,i,ym a b.size,k,m,λj e=>?_,λj u e=>Jc b a (n j u e)⟩;have c:=b.cell (p:=J g j) a;have f:=b.frozen (p:=J g j) a;grind
theorem tY(a s)(e:s.size<=10000000000000):∃(v:Value)(b:JY),(convert 9 22 (W s)).run Vb a=.ok v b/\Fe b (O a.1) v s.data.toList/\Qb a b:=by
 have d:=run_bytes_of_string (P:=Vb) a 9 22 5 s underlying9 underlying22 underlying5;have H:Z s.data.toList=s.size:=Js;have Q:=grownCap_ge a s.size 0 5;have h:=jL a.drew (JM (bytesRow s (grownCap a s.size 0 5)) 5 ((bytesRow s (grownCap a s.size 0 5)).size,(bytesRow s (grownCap a s.size 0 5)).size+1));have q:(bytesRow s (grownCap a s.size 0 5)).size=grownCap a s.size 0 5:=by unfold bytesRow;grind
 refine⟨_,_,d,⟨O a.1,grownCap a s.size 0 5,by rw[H],yk,Js,by grind,grownCap_le_maxLen a s.size 0 5 Jm,λj c=>⟨?_,?_⟩,λj u c=>?_⟩,(yN).drew.alloc yk _⟩
 .rw[cell_of_row _ (O a.1) j _ 5 _ h];simp[q,c]
 .have hn:(a.drew.alloc (JM (bytesRow s (grownCap a s.size 0 5)) 5 ((bytesRow s (grownCap a s.size 0 5)).size,(bytesRow s (grownCap a s.size 0 5)).size+1))).heap[O a.1]?=_:=h;unfold World.frozen?;grind
 .rw[cell_of_row _ (O a.1) j _ 5 _ h];have K:j<s.data.size:=by grind [Z6]
  rw[bytesRow_at s _ j K];grind [Ag]
theorem tZ(w z B v l)(b:UInt8)(h:Fe w B v l)(o:B<=O w.1)(m)(hx:w.cell? (m.add 0)=E (.int .u8 (b.toNat:Int)))(hl:Z l<=1000000):∃A w',(Builtin.append_ #[22,22] z #[v,i6 (E m) 1 1]).run Vb w=.ok A w'/\Fe w' B A (l++[b])/\Below B w w':=by
 obtain⟨g,f,rfl,M,N,h3,R,n,T⟩:=h;obtain⟨i,s,t⟩:=jx.1 infoByte;simp only[Prod.mk.injEq]at t;obtain⟨p,q,a⟩:=t;have H:∀j u,([.int .u8 (b.toNat:Int)]:JD)[j]?=E u->w.cell? (m.add j)=E u:=λj u k=>by grind
 have c:Z (l++[b])=Z l+1:=Js;by_cases Q:Z l+1<=f
 .have hf:=run_firstCells_some (P:=Vb) w i.size 1 m 1 1 [.int .u8 (b.toNat:Int)] (by rw[q];rfl) H;obtain⟨C,L⟩:=n (Z l) I;obtain⟨u0,X⟩:=Option.isSome_iff_exists.1 C;have d:(J g (Z l)).add 0=(J g (Z l)):=by unfold Addr.add;split<;>simp_all
  have V:(storeCells (J g (Z l)) [.int .u8 (b.toNat:Int)] 0).run Vb w=.ok () (w.setCell (J g (Z l)) (.int .u8 (b.toNat:Int))):=by simp only[storeCells,Sem.run_bind];rw[d,run_store Vb w _ _ _ rfl,X];simp[L]
  refine⟨Ql g (Z l+1) f,w.setCell (J g (Z l)) (.int .u8 (b.toNat:Int)),?_,?_,(yN).setCell (by grind) _⟩
  .rw[q]at hf;simp[Builtin.append_,run_underlying underlying22,sizeOf,typeInfo,s,q,Builtin.lenOf,Q,hf,Addr.add_lit,V]
  .refine⟨g,f,by rw[c],M,by simpa[World.setCell] using N,by grind,R,λj k=>?_,λj u k=>?_⟩
   .refine⟨?_,(yx).trans (n j k).2⟩;by_cases e:j=Z l
    .subst e;rw[yu _ _ _ X];rfl
    .rw[yj _ _ _ _ (λx=>e (by grind))];exact(n j k).1
   .rw[IV]at k;by_cases e:j=Z l
    .subst e;rw[yu _ _ _ X];grind [Z6,Ag]
    .rw[yj _ _ _ _ (λx=>e (by grind))];grind [Z6]
 .have y:∀j u,(Ag l)[j]?=E u->w.cell? ((J g 0).add j)=E u:=λj u k=>by rw[jO,jd];exact T j u k
  have hr:=run_append_grow (P:=Vb) w 22 z 5 i _ underlying22 s p (J g 0) (Z l) f (Ag l) (by grind [Z6]) y m 1 1 [.int .u8 (b.toNat:Int)] (by rw[q];rfl) H I I (growslice_fits I (by grind));have U:=grownCap_ge w (Z l+1) f 5;have K:=jL w.drew (JM ((Ag l).toArray++[Value.int .u8 (b.toNat:Int)].toArray++Builtin.zeroCells (Value.int .u8 0).cells (grownCap w (Z l+1) f 5-(Z l+1))) 5);refine⟨_,_,hr,⟨O w.1,grownCap w (Z l+1) f 5,by rw[c],o,Js,by grind,grownCap_le_maxLen w (Z l+1) f 5 Jm,λj k=>⟨?_,frozen_of_row _ _ _ _ _ K⟩,λj u k=>?_⟩,((yN).drew.alloc yk _).mono o⟩
  .rw[cell_of_row _ (O w.1) j _ 5 _ K];have:j<((Ag l).toArray++[Value.int .u8 (b.toNat:Int)].toArray++Builtin.zeroCells (Value.int .u8 0).cells (grownCap w (Z l+1) f 5-(Z l+1))).size:=by simp[size_zeroCells,Z6,Value.cells];omega
   grind
  .rw[cell_of_row _ (O w.1) j _ 5 _ K];grind [IV,Z6,Ag]
def UR{d c o a}{Q:Exit->Act->World->Prop}(q:o.guard=JL)(s x)(n:o.op=.call { callee:=.builtin .append,args:=#[s,x],argTypes:=#[22,22] })(B v l)(b:UInt8)(t:a.eval s=v)(H:Fe w B v l)(j:B<=O w.1)(f)(hx:a.eval x=i6 (E f) 1 1)(k:w.cell? (f.add 0)=E (.int .u8 (b.toNat:Int)))(m:Z l<=1000000)(h:∀e w',Fe w' B e (l++[b])->Below B w w'->wpList Vb d Q c (a.put o.dst e) w'):wpList Vb d Q (o::c) a w:=by
 refine wpList_plain q λK hK=>?_
 obtain⟨e,w',p,g,i⟩:=tZ w o.type B v l b H j f k m;unfold Oper.wp execOp;simp only[n,resolve,invoke,builtin,Sem.run_bind,Sem.run_pure,Result.andThen_ok,List.map_toArray,jC,List.map_nil,t,hx,p];exact hK _ _ (h e w' g i)
open Go.Deep (BT)
def Oh(T):Z (yT T)=Z (Ak T):=by simp[yT]
def jT(p f w ns k B)(X:p<B)(x:Z k<=20000):∀(T:ET),Dn ns T->∀(s:Nat)(g n:List ZJ),B1 k T s->s+Ab T<=Z k->Z g+Z (Ak T)<=90000->n=g++yT T->M5 p f w k B (s+Ab T-1) g n:=by
 intro T;induction T with
 |nil=>intro h;exact h.elim
 |node b o t l d ihl ihr=>
  rintro⟨rfl,h⟩ s g n ⟨L,R,U⟩ C Q i;simp only[Ab]at C;have e:s+Ab (.node b 0 t l d)-1=s+Ab l+Ab d:=by simp only[Ab];omega
  rw[e];intro u a A z K;have H:∀M N:Nat,(if zY (b:Int)=0 then(0:Int) else((s+Ab l:Nat):Int)-1)=(M:Int)->(if zY (b:Int)=2 then((s+Ab l+Ab d:Nat):Int)-1 else 0)=(N:Int)->Y k (s+Ab l+Ab d)=⟨(b:Int),t,(M:Int),(N:Int)⟩:=λM N V hb=>by rw[U,tN,V,hb]
  rcases h with⟨j,rfl,rfl⟩|⟨rfl,rfl,m,rfl⟩|⟨c,hk,m,rfl⟩|⟨rfl,hk,m,P⟩
  .have y:zY (b:Int)=0:=by rcases j with h|h<;>subst h<;>decide
   refine Ol p f w _ k (b:Int) t 0 0 B u g n a A X z K (by simp only[Ab]at C ⊢;omega) x (H 0 0 (by rw[yU y];rfl) (by rw[yS I];rfl)) I (yW ⟨y,?_⟩);rw[i];have:yT (.node b 0 t .nil .nil)=[⟨t,Vt,Vt⟩]:=by simp only[yT,Ak];rw[yS I,yS I,yS I,yS I];simp[wS];omega
   rw[this]
  .have hp:=m.sh.pos;have v:yT (.node 6 0 j6 l .nil)=⟨opn,Vt,Vt⟩::(yT l++[⟨Bs,Vt,Vt⟩]):=by simp[yT,Ak,wS]
   have q:Z (Ak (.node 6 0 j6 l .nil))=Z (Ak l)+2:=by simp[Ak]
   rw[q]at Q;refine Ol p f w _ k 6 j6 (s+Ab l-1) 0 B u g n a A X z K (by simp only[Ab]at C ⊢;omega) x (H _ 0 (by rw[yS Jd];omega) (by rw[yS Jd];rfl)) I (yX (yX (yW ⟨F,g++[⟨opn,Vt,Vt⟩],g++[⟨opn,Vt,Vt⟩]++yT l,F,ihl m s _ _ L I Jq F,?_,?_⟩)))
   .rw[i,v];simp
   .simp[Oh];omega
  .have hp:=m.sh.pos;rcases c with rfl|rfl
   .have v:yT (.node 3 0 t l .nil)=⟨t,Vp,Vt⟩::yT l:=by simp[yT,Ak,wS]
    have q:Z (Ak (.node 3 0 t l .nil))=Z (Ak l)+1:=by simp[Ak]
    rw[q]at Q;refine Ol p f w _ k 3 t (s+Ab l-1) 0 B u g n a A X z K (by simp only[Ab]at C ⊢;omega) x (H _ 0 (by rw[yS Jd];omega) (by rw[yS Jd];rfl)) I (yX (yW ⟨F,g++[⟨t,Vp,Vt⟩],F,ihl m s _ _ L I Jq ?_⟩));rw[i,v];simp
   .have v:yT (.node 5 0 t l .nil)=yT l++[⟨t,Vp,Vt⟩]:=by simp[yT,Ak,wS]
    have q:Z (Ak (.node 5 0 t l .nil))=Z (Ak l)+1:=by simp[Ak]
    rw[q]at Q;refine Ol p f w _ k 5 t (s+Ab l-1) 0 B u g n a A X z K (by simp only[Ab]at C ⊢;omega) x (H _ 0 (by rw[yS Jd];omega) (by rw[yS Jd];rfl)) I (yX (yX (yX (yW ⟨F,g++yT l,ihl m s _ _ L I I F,?_,?_⟩))))
    .rw[i,v];simp
    .simp[Oh];omega
  .have hp:=m.sh.pos;have hq:=P.sh.pos;have v:yT (.node 4 0 t l d)=yT l++(⟨t,Vp,Vp⟩::yT d):=by simp[yT,Ak,wS]
   have q:Z (Ak (.node 4 0 t l d))=Z (Ak l)+Z (Ak d)+1:=by simp[Ak];omega
   rw[q]at Q;refine Ol p f w _ k 4 t (s+Ab l-1) (s+Ab l+Ab d-1) B u g n a A X z K I x (H _ _ (by rw[yS Jd];omega) (by rw[yU Jd];omega)) I (yX (yX (yX (yX ⟨F,g++yT l,g++yT l++[⟨t,Vp,Vp⟩],ihl m s _ _ L I I F,F,ihr P (s+Ab l) _ _ R I (by simp[Oh];omega) ?_,?_⟩))))
   .rw[i,v];simp
   .simp[Oh];omega
def pY(w:JY)(c):∀j u,(Ag [c])[j]?=E u->(w.alloc (JM #[.int .u8 (c.toNat:Int)] 5)).cell? ((J (O w.1) 0).add j)=E u:=by intro j u a;rw[jO];have:=yF (w:=w.alloc (JM #[.int .u8 (c.toNat:Int)] 5)) (b:=O w.1) (jL w _) 0 1;exact this j u (by simpa[Ag] using a)
def QH(a:List ZJ)(k:Nat):Bool:=decide (k≠0)&&Ec (A1 a (k-1)) (A1 a k)
def uA(a k):BL a (k+1)=(BL a k++(if QH a k then[32] else[]))++(A1 a k).t.data.toList:=by simp only[BL,QH,ne_eq,jB,jM,decide_not,Bool.not_eq_true',yZ,yD]
def fC(b hu cap bn t cn ns xs w)(hm:Z ns<=1048576)(Hc:Z xs<=1048576)(hw:Au w b hu ns)(hD:ZO ns)(hB:b<O w.1)(hE:Z2 w bn t xs)(h9:C5 xs)(hW:bn<O w.1):Calls Vb 35 #[b9 #[Je b hu (Z ns) cap],b9 #[Je bn t (Z xs) cn]] w λe w'=>(∃(s:JZ)(v:Bool),e=i9 (i5 #[W s,i7 v])/\Hid (FH ns xs s v))/\Below (O w.1) w w':=by
 have hb:Hid (∀o1 o2:Obj,Below (O w.1) w ((w.alloc o1).alloc o2)):=λo1 o2=>(@zC w o1).alloc Js o2
 go_enter func35,ntmps35;go_wp2_with fail;go_call Q4 b hu cap bn t cn ns xs _ hm Hc (hw.y (hb _ _) hB) hD Jq (hE.y (hb _ _) hW) h9 Jq as e w1 ⟨⟨a,c,us,v,rfl,K,hgi⟩,hb1⟩;have U:Below (O w.1) w w1:=((hb) _ _).trans (hb1.mono Jq);clear hb1 hb hw hE;rcases D hgi with⟨hy,rfl,hI⟩|⟨hn,rfl,rfl⟩;case inr=>
  have HN:=S hn;clear hn hgi K;go_wp2;go_ret2;exact⟨⟨_,_,F,S (yX ⟨HN,F,F⟩)⟩,U.alloc U.size _⟩
 case inl=>
  obtain⟨z,hG,V,hz,hF,h6,hY⟩:=Ph hy;have m:=hI.trans h6;have hH:Z us=Ab z:=by rw[m,ZN]
  have hV:=V.sh.pos;obtain⟨g2,rfl,Hq,l⟩:∃g,a=E (J g 0)/\O w.1+2<=g/\ZD w1 g us (Z us):=by
   rcases D K with⟨h,_⟩|⟨g,h1,h2,h3⟩
   .omega
   .exact⟨g,h1,Ju h2,h3⟩
  have hS:=l.1;have Hd:1<=Z us:=I;have hA:Z us<=20000:=I;have ei:(Z us:Int)-1=((Z us-1:Nat):Int):=I;obtain⟨W3,f⟩:∃W3,Hid (W3=(w1.alloc (JM #[Ql g2 (Z us) c] 40)).alloc (JM #[] 126)):=⟨_,S F⟩;have hl:Below (O w1.1) w1 W3:=by rw[D f];exact(zC).alloc Js _
  have s3:O W3.1=O w1.1+2:=by rw[D f];simp
  have qc:=U.trans (hl.mono U.size);have h8:=S (show C9 W3 (O w1.1+1) (Ql (O w1.1+1) 0 0) [] by
   rw[D f]
   have:=yJ (base:=O w1.1+1) (e:=126) (size:=3) (w1.alloc (JM #[Ql g2 (Z us) c] 40)) #[] 0 Js yn F
   simpa[C9,Zf] using this)
  have Ha:=Om z;have hO:=jT g2 0 c ns us (O w1.1+1) I hA z V.well 0 [] (yT z) (by rw[m];exact Gc z) I Jq Js;rw[jd,<-hH]at hO;have P:=S (hO (Ql (O w1.1+1) 0 0) W3 (l.ops.y hl hS) I h8);rw[D f]at P;obtain⟨ws,p⟩:∃ws,Hid (ws=yT z):=⟨_,S F⟩;rw[<-D p]at P;have Hi:Z ws<=40000:=by rw[D p,Oh];omega
  have Hl:1<=Z ws:=by rw[D p];exact Y8 V.sh
  have hP:=S (by rw[<-hG,D p];rfl:(⟨(Ia (AZ ns (JQ xs) 0)).toArray⟩:JZ)=⟨(BL ws (Z ws)).toArray⟩);have hZ:=S (show ∀k,k<=Z ws->Z (BL ws k)<=20001*k from Sq ws (λx hx=>by
   rw[D p]at hx
   simp only[yT,List.mem_map]at hx
   obtain⟨q,hq,rfl⟩:=hx
   exact RS z hz q hq))
  have hU:=S (show ∀k,k<Z ws->(A1 ws k).t.size<=20000 from λk hk=>by
   have hx:A1 ws k∈ws:=by simp[A1,List.getD,hk]
   rw[D p]at hx
   simp only[yT,List.mem_map]at hx
   obtain⟨q,hq,e⟩:=hx
   have e':wS q=A1 ws k:=by rw[D p];exact e
   rw[<-e']
   exact RS z hz q hq)
  have HY:=S hy;clear hy hgi K hG V hz hF h6 hY hI m hH hV l Ha hO h8;go_wp2_with fail;refine P.mono ?_;rw[<-D f];rintro x w4 ⟨u',rfl,hr,hg,ho⟩;obtain⟨g4,c4,rfl⟩:∃g k,u' = Ql g (Z ws) k:=by
   obtain⟨_,⟨rfl,h0⟩|⟨g,cap,Ho,h,_⟩⟩:=D hr
   .omega
   .exact⟨_,_,h⟩
  have hJ:=S hr.ops;have ht:=(hr.lt g4 F).2;have he:Below (O w.1) w w4:=qc.trans ⟨hg.os,hg.tape,hg.output,hg.size,λi hi=>hg.block i (Jy qc.size) (by simp[i8];have:=U.size;omega)⟩;clear hr hg ho P f qc hl s3;have HO:=S (show(w4.alloc (JM #[] 5)).ownsRow (O w4.1) 5 1 (Ql (O w4.1) 0 0) 0 (Ag (BL ws 0)) by
   show(w4.alloc (JM #[] 5)).ownsRow (O w4.1) 5 1 (Ql (O w4.1) 0 0) 0 []
   simpa using yJ (base:=O w4.1) (e:=5) (size:=1) w4 #[] 0 yk yn F)
  go_wp2;go_loopw [9,10] (λhX i wr=>∃(k go co n:Nat),k<=Z ws/\i=G k/\hX = Ql go n co/\Hid (n=Z (BL ws k))/\Hid (wr.ownsRow (O w4.1) 5 1 (Ql go n co) n (Ag (BL ws k)))/\Below (O w4.1) w4 wr) (λ_ i _=>Z ws-(intOf i).toNat);case atStart=>exact⟨0,O w4.1,0,0,yn,F,F,S F,HO,zC⟩
  case round=>
   clear HO;obtain⟨k,go,co,n,hk,rfl,rfl,hn,K,qe⟩:=hrel;by_cases hC:k<Z ws
   .obtain⟨x0,x1,x2⟩:=(hJ.y qe ht) k hC;have Hk:(k:Int)<Z ws:=I;obtain⟨xt,qf⟩:=Jx ((A1 ws k).t);obtain⟨xo,h4⟩:=Jx ((A1 ws k).o);obtain⟨xi,hs⟩:=Jx ((A1 ws k).i);obtain⟨yo,hf⟩:=Jx ((A1 ws (k-1)).o);obtain⟨yi,hp⟩:=Jx ((A1 ws (k-1)).i);obtain⟨gp,qd⟩:∃gp,Hid (gp=QH ws k):=⟨_,S F⟩;have R:=S (by rw[D qd,QH,Ec,h4,hs,hf,hp]:gp=(decide (k≠0)&&(xi||yi||(xo&&yo))));rw[<-qf]at x0;rw[<-h4]at x1;rw[<-hs]at x2;have ha:=S (show k≠0->wr.cell? (J g4 ((k-1)*3+1))=E (i7 yo)/\wr.cell? (J g4 ((k-1)*3+2))=E (i7 yi) from λh=>by
     obtain⟨_,y1,y2⟩:=(hJ.y qe ht) (k-1) I
     rw[hf,hp]
     exact⟨y1,y2⟩)
    have Hn:xt.size<=20000:=by rw[qf];exact hU k hC
    have hK:=S qf;have h7:=(D hZ) k I;rw[<-D hn]at h7;have Hm:n<=800040000:=I;have hM:=ym ht qe.size;clear qf h4 hs hf hp h7;go_upto_region 10 with fail
    go_cut [64] (λs64 wx=>s64=i7 gp/\wx=wr.alloc (JM #[W xt,i7 xo,i7 xi] 126));case first=>
     clear K x0 x1 x2;have fin:∀g:Bool,g=gp->Value.bool g=i7 gp:=λg h=>by rw[h]
     have HF:=S fin;clear fin;by_cases qb:k=0
     .have HE:=S (by rw[D R];simp[qb]:Vt=gp);have hQ:¬ (0:Int)<k:=I;clear ha R qd qb;go_wp2;go_meet;exact⟨HF _ HE,F⟩
     .obtain⟨y1,y2⟩:=(D ha) qb;have HE:=S (by rw[D R];simp[qb]:(xi||yi||(xo&&yo))=gp);have hQ:(0:Int)<k:=I;have Hf:(k:Int)-1=((k-1:Nat):Int):=I;have Hh:((k-1:Nat):Int)<(Z ws:Int):=I;have y1':=Jc (@zC wr (JM #[W xt,i7 xo,i7 xi] 126)) hM y1;have y2':=Jc (@zC wr (JM #[W xt,i7 xo,i7 xi] 126)) hM y2;clear ha R qd qb;cases xi
      .cases yi
       .cases xo
        .go_wp2;go_meet;exact⟨HF _ (by rw[<-D HE];rfl),F⟩
        .go_wp2;go_meet;exact⟨HF _ (by rw[<-D HE];rfl),F⟩
       .go_wp2;go_meet;exact⟨HF _ (by rw[<-D HE];rfl),F⟩
      .go_wp2;go_meet;exact⟨HF _ (by rw[<-D HE];rfl),F⟩
    case rest=>
     obtain⟨rfl,rfl⟩:=hcut;have u:=S (qe.alloc qe.size (JM #[W xt,i7 xo,i7 xi] 126));have L:=S (K.kept (Zv (@zC wr (JM #[W xt,i7 xo,i7 xi] 126)) JL) (yX Jb));have hd:=S (uA ws k);have He:=(K.lt go F).2;clear K ha x0 x1 x2 R;cases gp
     .have N:=S (by rw[D hd,<-D qd,<-D hK];simp:BL ws (k+1)=BL ws k++xt.data.toList);obtain⟨c1,w6,B,y,A⟩:=Pd (wr.alloc (JM #[W xt,i7 xo,i7 xi] 126)) xt;have M:=S y;have C:=S (L.kept (Zv A JL) (yX Jb));have o:=S (u.trans (A.mono u.size));have z6:=o.size;clear y A L u;go_wp2_with (at_builtin;refine As infoByte underlying22 (.tmp 68) (.tmp 71) F rfl (O w4.1) _ n (Ag (BL ws k)) F C (J (O wr.1+1) 0) xt.size c1 (Ag xt.data.toList) F (by rw[Z6];simp) (Ju (D M)) (Nk _) Jm I (by exact z6) ?_);intro v7 w7 H Q X _;have hh:=C.lt go F;have d:Below (O w4.1) w4 w7:=o.grown Q z6 (λq hq=>by simp[i8]at hq;omega);obtain⟨g7,q7,rfl⟩:=ER H (by simp[X]);rw[<-IV,<-D N]at H;have hv:=S H;have hj:=S (by rw[D N,yr,<-D hn];simp:n+xt.size=Z (BL ws (k+1)));clear H Q X M C o B;go_wp2;exact⟨⟨k+1,g7,q7,_,I,Jn,F,hj,hv,d⟩,Ji⟩
     .obtain⟨tk,hc⟩:∃tk,Hid (tk=BL ws k++[32]):=⟨_,S F⟩;have N:=S (by rw[D hd,<-D qd,<-D hK,D hc];simp:BL ws (k+1)=tk++xt.data.toList);have Hg:Z tk<=800040001:=by rw[D hc,yr,<-D hn];simp;omega
      have hR:=S (by rw[D hc,yr,<-D hn];simp:n+1=Z tk);go_wp2_with (at_builtin;refine As infoByte underlying22 (.tmp 65) (.tmp 66) F rfl (O w4.1) _ n (Ag (BL ws k)) F (L.kept (Zv zC JL) (yX Jb)) (J (O wr.1+1) 0) 1 1 (Ag [32]) F rfl (Ju (pY (wr.alloc (JM #[W xt,i7 xo,i7 xi] 126)) 32)) (Nk _) Jm I (by have:=u.size;simp at this ⊢;omega) ?_);intro v5 w5 j qa T _;have hh:=L.lt go F;have qg:Below (O w4.1) w4 w5:=(u.alloc u.size _).grown qa (by have:=u.size;simp at this ⊢;omega) (λq hq=>by simp[i8]at hq;omega);obtain⟨g5,q5,rfl⟩:=ER j (by simp[T]);rw[<-IV,<-D hc]at j;have Hj:go<O wr.1+1:=by have:=hh.2;simpa using this
      have y0:w5.cell? (J (O wr.1) 0)=E (W xt):=qa.cell Jg (by simp[i8];omega);obtain⟨c1,w6,B,y,A⟩:=Pd w5 xt;have M:=S y;have C:=S (j.kept (Zv A JL) (yX Jb));have o:=S (qg.trans (A.mono qg.size));have z6:=o.size;clear y A L u j qa T hh;go_wp2_with (at_builtin;refine As infoByte underlying22 (.tmp 68) (.tmp 71) F rfl (O w4.1) _ (n+1) (Ag tk) F C (J (O w5.1) 0) xt.size c1 (Ag xt.data.toList) F (by rw[Z6];simp) M (Nk _) ?b4 ?b5 ?b6 ?next2);case b4=>exact Jm
      case b5=>omega
      case b6=>exact z6
      case next2=>intro v7 w7 H Q X _;have h5:=C.lt g5 F;have d:Below (O w4.1) w4 w7:=o.grown Q z6 (λq hq=>by simp[i8]at hq;omega);obtain⟨g7,q7,rfl⟩:=ER H (by simp[X]);rw[<-IV,<-D N]at H;have hv:=S H;have hj:=S (by rw[D N,yr,<-D hR];simp:n+1+xt.size=Z (BL ws (k+1)));clear H Q X M C o B y0 h5;go_wp2;exact⟨⟨k+1,g7,q7,_,I,Jn,F,hj,hv,d⟩,Ji⟩
   .have hN:k=Z ws:=I;have Hp:=Rk wr go n co (BL ws k) hn (UE K);have HK:=S hN;clear hN;go_wp2;go_ret2;exact⟨⟨_,_,F,S (yW ⟨HY,F,by rw[D hP,D HK]⟩)⟩,he.trans (qe.mono he.size)⟩
def AJ(o:Ad):Value:=b9 #[W o.s,G o.k,G o.l,G o.sd]
def Bt(q:ZB):Value:=b9 #[G q.k,W q.m,W q.o.s,G q.o.k,G q.o.l,G q.o.sd,W q.t,G q.l,G q.sd]
def zbE(t):(t.toList==(⟨#[]⟩:JZ).toList)=decide (t=j6):=by
 have h:t.toList=(⟨#[]⟩:JZ).toList↔t=j6:=⟨λh=>Zd h,λh=>by rw[h];rfl⟩;by_cases e:t=j6
 .rw[decide_eq_true e];exact beq_iff_eq.2 (h.2 e)
 .rw[decide_eq_false e];exact Bool.eq_false_iff.2 λx=>e (h.1 (beq_iff_eq.1 x))
def Rn(q w):Calls Vb 26 #[Bt q] w λe w'=>(∃v,e=i9 (i5 #[AJ (ZU q),i7 v])/\(v=Vp↔BJ q))/\Qb w w':=by
 unfold Bt AJ;by_cases b:q.k=1
 .have g1:(q.k==1)=Vp:=by simp[b]
  have d:Hid (ZU q=⟨q.t,q.o.k,q.o.l,q.o.sd⟩):=yU b;by_cases a:q.l=0
  .have gl:(q.l==0)=Vp:=by simp[a]
   have c:=S (by simp[BJ,b,a]:BJ q↔(q.sd==0)=Vp);go_enter func26,ntmps26;go_wp2;go_region;all_goals
    go_wp2_with fail
    refine yQ (v:=i5 #[b9 #[W q.t,G q.o.k,G q.o.l,G q.o.sd],i7 (q.sd==0)]) ?res F ⟨⟨_,by rw[D d],?_⟩,?_⟩
    case res=>simp[results,results26,go_sem]
    .exact c.symm
    .exact(((zC).alloc Js _).alloc Jq _).drew
  .have gl:(q.l==0)=Vt:=by simp[a]
   have c:=S (by simp[BJ,b,a]:BJ q↔Vt=Vp);go_enter func26,ntmps26;go_wp2;go_region;all_goals
    go_wp2_with fail
    refine yQ (v:=i5 #[b9 #[W q.t,G q.o.k,G q.o.l,G q.o.sd],i7 (Vt)]) ?res F ⟨⟨_,by rw[D d],?_⟩,?_⟩
    case res=>simp[results,results26,go_sem]
    .exact c.symm
    .exact(((zC).alloc Js _).alloc Jq _).drew
 .have g1:(q.k==1)=Vt:=by simp[b]
  have d:Hid (ZU q=⟨q.o.s,q.o.k,q.l,q.sd⟩):=yS b;by_cases a:q.k=2
  .have gl:(q.k==2)=Vp:=by simp[a]
   have c:=S (by rw[zbE];simp[BJ,b,a]:BJ q↔(q.t.toList==(⟨#[]⟩:JZ).toList)=Vp);go_enter func26,ntmps26;go_wp2;go_region;all_goals
    go_wp2_with fail
    refine yQ (v:=i5 #[b9 #[W q.o.s,G q.o.k,G q.l,G q.sd],i7 (q.t.toList==(⟨#[]⟩:JZ).toList)]) ?res F ⟨⟨_,by rw[D d],?_⟩,?_⟩
    case res=>simp[results,results26,go_sem]
    .exact c.symm
    .exact(((zC).alloc Js _).alloc Jq _).drew
  .have gl:(q.k==2)=Vt:=by simp[a]
   have c:=S (by simp[BJ,b,a]:BJ q↔Vt=Vp);go_enter func26,ntmps26;go_wp2;go_region;all_goals
    go_wp2_with fail
    refine yQ (v:=i5 #[b9 #[W q.o.s,G q.o.k,G q.l,G q.sd],i7 (Vt)]) ?res F ⟨⟨_,by rw[D d],?_⟩,?_⟩
    case res=>simp[results,results26,go_sem]
    .exact c.symm
    .exact(((zC).alloc Js _).alloc Jq _).drew
def hL:ET->JG
 |.nil=>[]
 |.node _ _ _ l a=>hL l++hL a++[((1+max (hT l) (hT a):Nat):Int)]
theorem LR:∀T:ET,Z (hL T)=Ab T
 |.nil=>rfl
 |.node _ _ _ l a=>by simp[hL,Ab,LR l,LR a];omega
def N8{a b}(h:i<Z a):AB (a++b) i=AB a i:=by simp[AB,List.getD,List.getElem?_append,h]
def PN{a b}(h:Z a<=i):AB (a++b) i=AB b (i-Z a):=by simp[AB,List.getD,List.getElem?_append_right h]
def XP{a b}(h:i<Z a):Y (a++b) i=Y a i:=by simp[Y,List.getD,List.getElem?_append,h]
def XQ{a b}(h:Z a<=i):Y (a++b) i=Y b (i-Z a):=by simp[Y,List.getD,List.getElem?_append_right h]
theorem Qa:∀{T:ET},Sh T->AB (hL T) (Ab T-1)=(hT T:Int)
 |.nil,h=>h.elim
 |.node b o t l a,_=>by
  have e:Ab (.node b o t l a:ET)-1=Z (hL l++hL a):=by simp[Ab,LR]
  rw[e];simp only[hL,hT];rw[PN yk];simp[AB]
def OP(n:zD)(H:JG)(s i):=
 (zY n.k=0/\AB H i=1)\/(zY n.k=1/\∃a,n.a=((s+a:Nat):Int)/\a<i/\AB H i=AB H a+1) \/
 (zY n.k=2/\∃a c,n.a=((s+a:Nat):Int)/\n.b=((s+c:Nat):Int)/\a<i/\c<i/\AB H i=max (AB H a) (AB H c)+1)
theorem TJ:∀(T:ET),Sh T->∀(s i:Nat),i<Ab T->OP (Y (nd T s) i) (hL T) s i
 |.nil,h,_,_,_=>h.elim
 |.node b o t l d,h,s,i,hi=>by
  simp only[Ab]at hi;have L:=LR l;have er:=LR d;have P:=ZN l s;have Q:=ZN d (s+Ab l);by_cases w:i<Ab l
  .have H:Sh l:=by
    rcases h.2 with⟨_,rfl,_⟩|⟨_,g,_⟩|⟨_,g,_⟩
    .simp[Ab]at w
    .exact g
    .exact g
   have B:=TJ l H s i w;have v:Y (nd (.node b o t l d) s) i=Y (nd l s) i:=by simp only[nd];rw[yD,XP I]
   have f:∀k,k<Ab l->AB (hL (.node b o t l d)) k=AB (hL l) k:=λk N=>by simp only[hL];rw[yD,N8 I]
   unfold OP;rw[v];rcases B with⟨x,e⟩|⟨u,a,m,j,p⟩|⟨n,a,c,m,j,p,C,A⟩
   .exact yW ⟨x,by rw[f i w];exact e⟩
   .exact yX (yW ⟨u,a,m,j,by rw[f i w,f a I];exact p⟩)
   .exact yX (yX ⟨n,a,c,m,j,p,C,by rw[f i w,f a I,f c I];exact A⟩)
  .by_cases h2:i<Ab l+Ab d
   .have K:Sh d:=by
     rcases h.2 with⟨_,rfl,rfl⟩|⟨_,g,rfl⟩|⟨_,_,z⟩
     .simp[Ab]at h2
     .simp[Ab]at h2;omega
     .exact z
    have B:=TJ d K (s+Ab l) (i-Ab l) I;have v:Y (nd (.node b o t l d) s) i=Y (nd d (s+Ab l)) (i-Ab l):=by simp only[nd];rw[yD,XQ I,P,XP I]
    have f:∀k,k<Ab d->AB (hL (.node b o t l d)) (Ab l+k)=AB (hL d) k:=λk N=>by simp only[hL];rw[yD,PN I,L,N8 I];congr 1;omega
    have y:i=Ab l+(i-Ab l):=I;unfold OP;rw[v];rcases B with⟨x,e⟩|⟨u,a,m,j,p⟩|⟨n,a,c,m,j,p,C,A⟩
    .exact yW ⟨x,by rw[y,f _ (by omega)];exact e⟩
    .refine yX (yW ⟨u,Ab l+a,by rw[m];congr 1;omega,I,?_⟩);conv=>lhs;rw[y]
     rw[f _ (by omega),f a (by omega)];exact p
    .refine yX (yX ⟨n,Ab l+a,Ab l+c,by rw[m];congr 1;omega,by rw[j];congr 1;omega,I,I,?_⟩);conv=>lhs;rw[y]
     rw[f _ (by omega),f a (by omega),f c (by omega)];exact A
   .have y:i=Ab l+Ab d:=I;have v:Y (nd (.node b o t l d) s) i=tN b t l d s:=by simp only[nd];rw[XQ Jq];have:i-Z (nd l s++nd d (s+Ab l))=0:=Jq;rw[this];rfl
    have M:AB (hL (.node b o t l d)) i=((1+max (hT l) (hT d):Nat):Int):=by simp only[hL];rw[PN Jq];have:i-Z (hL l++hL d)=0:=Jq;rw[this];rfl
    unfold OP;rw[v,M];rcases h.2 with⟨x,rfl,rfl⟩|⟨u,g,rfl⟩|⟨n,g,z⟩
    .exact yW ⟨x,F⟩
    .have hp:=Sh.pos g;refine yX (yW ⟨u,Ab l-1,?_,I,?_⟩)
     .simp only[tN,u];rw[yS Jd];omega
     .have e:AB (hL (.node b o t l .nil)) (Ab l-1)=(hT l:Int):=by simp only[hL];rw[yD,N8 I];exact Qa g
      rw[e];simp only[hT];omega
    .have hp:=Sh.pos g;have q:=Sh.pos z;refine yX (yX ⟨n,Ab l-1,Ab l+Ab d-1,?_,?_,I,I,?_⟩)
     .simp only[tN,n];rw[yS Jd];omega
     .simp only[tN,n];rw[yU trivial];omega
     .have e:AB (hL (.node b o t l d)) (Ab l-1)=(hT l:Int):=by simp only[hL];rw[yD,N8 I];exact Qa g
      have j:AB (hL (.node b o t l d)) (Ab l+Ab d-1)=(hT d:Int):=by simp only[hL];rw[yD,PN I,L,N8 I];have:Ab l+Ab d-1-Ab l=Ab d-1:=I;rw[this];exact Qa z
      rw[e,j];omega
theorem TK:∀(T:ET)(x:Int),x∈hL T->0<=x/\x<=(Ab T:Int)
 |.nil,x,h=>by simp[hL]at h
 |.node b o t l a,x,h=>by
  simp only[hL,ju,jE]at h;simp only[Ab];rcases h with(h|h)|h
  .have:=TK l x h;omega
  .have:=TK a x h;omega
  .have:=Ou l;have:=Ou a;subst h;omega
theorem zZd(T)(h:i<Ab T):0<=AB (hL T) i/\AB (hL T) i<=(Ab T:Int):=by have a:=LR T;refine TK T _ ?_;grind [AB]
def fK{H k}(h:k<Z H):H.take (k+1)=H.take k++[AB H k]:=by rw[jQ];simp[AB,List.getD,h]
def XR{H k}(h:i<k):AB (H.take k) i=AB H i:=by simp[AB,List.getD,List.getElem?_take,h]
def fL(bn cn ns H w)(hw:Z2 w bn 0 ns)(hB:bn<O w.1)(hl:Z ns<=100000)(h1:1<=Z ns)(hH:Z H=Z ns)(L:∀i,i<Z ns->OP (Y ns i) H 0 i)(hd:∀i,i<Z ns->0<=AB H i/\AB H i<=100000):Calls Vb 81 #[b9 #[Ql bn (Z ns) cn]] w λe w'=>e=i9 (G (AB H (Z ns-1)))/\Qb w w':=by
 have N:=S L;have v:=S hd;have A:=S hH;have HO:=S (show((w.alloc (JM #[Ql bn (Z ns) cn] 40)).alloc (JM #[] 3)).ownsRow (O w.1+1) 3 1 (Ql (O w.1+1) 0 0) 0 (zz []) by
  have h0:=yJ (base:=O w.1+1) (e:=3) (size:=1) (w.alloc (JM #[Ql bn (Z ns) cn] 40)) #[] 0 Js yn F
  simpa[zz] using h0)
 have o:Below (O w.1+1) (w.alloc (JM #[Ql bn (Z ns) cn] 40)) ((w.alloc (JM #[Ql bn (Z ns) cn] 40)).alloc (JM #[] 3)):=(zC).mono Js;go_enter func81,ntmps81;go_wp2;go_loopw [3,4] (λhv iv wr=>∃(k go co:Nat),k<=Z ns/\iv=G k/\hv = Ql go k co/\Hid (wr.ownsRow (O w.1+1) 3 1 (Ql go k co) k (zz (H.take k)))/\Hid (Below (O w.1+1) (w.alloc (JM #[Ql bn (Z ns) cn] 40)) wr)/\O w.1+1<O wr.1) (λ_ iv _=>Z ns-(intOf iv).toNat);case atStart=>exact⟨0,O w.1+1,0,yn,F,F,HO,S o,Js⟩
 case round=>
  obtain⟨k,go,co,hk,rfl,rfl,Q,y,hz⟩:=hrel;have tc:wr.cell? (J (O w.1) 0)=E (Ql bn (Z ns) cn):=by rw[(D y).cell (p:=J (O w.1) 0) (show O w.1<_ by omega)];simp[go_sem]
  have C:Qb w wr:=(zC).trans (y.mono I);have g:=S (show EW wr go (H.take k) (Z (H.take k)) by
   have B:Z (H.take k)=k:=by rw[List.length_take,D A];omega
   have ho:=D Q
   refine(Rg (base:=O w.1+1) (cap:=co) (e:=3) ?_).2
   rw[B];exact ho)
  have B:Z (H.take k)=k:=by rw[List.length_take,D A];omega
  have f:=S B;have l:=Q.lt go F;have hc:=S l;by_cases P:k<Z ns
  .have ha:(k:Int)<Z ns:=I;obtain⟨a0,a1,a2,a3⟩:=((hw) k P).y C hB;rw[jd]at a0 a1 a2 a3;have hj:=(D v) k P;have s:bn<O wr.1:=Jy C.size
   have z:=S (fK (H:=H) (k:=k) (by rw[D A];exact P));have u:=S (show ∀i,i<k->wr.cell? (J go i)=E (G (AB H i)) from λi hi=>by
    have:=g.2.2 i (by rw[D f];exact hi)
    rw[this,XR hi])
   rcases(D N) k P with⟨k0,e⟩|⟨k1,a,e1,e2,e3⟩|⟨k2,a,c,e1,e2,e3,e4,e5⟩;focus
    have hh:=S k0
    have j:=S e
    go_wp2_with (first|(go_at_call 103;refine(zV hh 0 F _).mono ?_;rintro e w' ⟨rfl,hx⟩;obtain rfl:=hx.symm)|(at_builtin;refine As MJ underlying72 (.tmp 47) (.tmp 50) F rfl (O w.1+1) _ k (zz (H.take k)) F ((Q.alloc _).alloc _) (J (O wr.1+1) 0) 1 1 (zz [1]) F rfl (Ju (Nv (wr.alloc (JM #[G (Y ns k).k,W (Y ns k).t,G (Y ns k).a,G (Y ns k).b] 108)) (1))) (I0 _) Jm I Jq ?_))
   rotate_left
   focus
    have hh:=S k1
    have j:=S e3
    rw[jd]at e1
    have ca:=(D u) a e2
    have hb:go<O wr.1:=hc.2
    have M:go≠O wr.1:=I
    have m:=(D v) a I
    obtain⟨t,b⟩:=m
    have n:(a:Int)<k:=I
    rw[e1]at a2
    go_wp2_with (first|(go_at_call 103;refine(zV hh 1 F _).mono ?_;rintro e w' ⟨rfl,hx⟩;obtain rfl:=hx.symm)|(at_builtin;refine As MJ underlying72 (.tmp 47) (.tmp 50) F rfl (O w.1+1) _ k (zz (H.take k)) F ((Q.alloc _).alloc _) (J (O wr.1+1) 0) 1 1 (zz [AB H a+1]) F rfl (Ju (Nv (wr.alloc (JM #[G (Y ns k).k,W (Y ns k).t,G a,G (Y ns k).b] 108)) (AB H a+1))) (I0 _) Jm I Jq ?_))
   rotate_left
   .have hh:=S k2;rw[jd]at e1 e2;have ca:=(D u) a e3;have cc:=(D u) c e4;have hb:go<O wr.1:=hc.2;have M:go≠O wr.1:=I;obtain⟨t,b⟩:=(D v) a I;obtain⟨hm,R⟩:=(D v) c I;have n:(a:Int)<k:=I;have T:(c:Int)<k:=I;rw[e1]at a2;rw[e2]at a3;by_cases hg:AB H a<AB H c;focus
     have j:=S (I:AB H k=AB H c+1)
     go_wp2_with (first|(go_at_call 103;refine(zV hh 2 F _).mono ?_;rintro e w' ⟨rfl,hx⟩;obtain rfl:=hx.symm)|(at_builtin;refine As MJ underlying72 (.tmp 47) (.tmp 50) F rfl (O w.1+1) _ k (zz (H.take k)) F ((Q.alloc _).alloc _) (J (O wr.1+1) 0) 1 1 (zz [AB H c+1]) F rfl (Ju (Nv (wr.alloc (JM #[G (Y ns k).k,W (Y ns k).t,G a,G c] 108)) (AB H c+1))) (I0 _) Jm I Jq ?_))
    rotate_left
    focus
     have j:=S (I:AB H k=AB H a+1)
     go_wp2_with (first|(go_at_call 103;refine(zV hh 2 F _).mono ?_;rintro e w' ⟨rfl,hx⟩;obtain rfl:=hx.symm)|(at_builtin;refine As MJ underlying72 (.tmp 47) (.tmp 50) F rfl (O w.1+1) _ k (zz (H.take k)) F ((Q.alloc _).alloc _) (J (O wr.1+1) 0) 1 1 (zz [AB H a+1]) F rfl (Ju (Nv (wr.alloc (JM #[G (Y ns k).k,W (Y ns k).t,G a,G c] 108)) (AB H a+1))) (I0 _) Jm I Jq ?_))
    all_goals
     intro v4 w4 h K X _
     have x:Below (O w.1+1) (w.alloc (JM #[Ql bn (Z ns) cn] 40)) w4:=((y.alloc I _).alloc Jq _).grown K Jq (λq hq=>by have:=hc.1;simp[i8]at hq;omega)
     have z4:O w.1+1<O w4.1:=Jz K.size
     obtain⟨g4,c4,rfl⟩:=ER h (by simp[X])
     rw[<-Nd,<-D j,<-D z]at h
     have U:=S h
     have d:=S x
     go_wp2
     exact⟨⟨k+1,g4,c4,I,Jn,F,U,d,z4⟩,Ji⟩
   all_goals
    intro v4 w4 h K X _
    have x:Below (O w.1+1) (w.alloc (JM #[Ql bn (Z ns) cn] 40)) w4:=((y.alloc I _).alloc Jq _).grown K Jq (λq hq=>by have:=hc.1;simp[i8]at hq;omega)
    have z4:O w.1+1<O w4.1:=Jz K.size
    obtain⟨g4,c4,rfl⟩:=ER h (by simp[X])
    rw[<-Nd,<-D j,<-D z]at h
    have U:=S h
    have d:=S x
    go_wp2
    exact⟨⟨k+1,g4,c4,I,Jn,F,U,d,z4⟩,Ji⟩
  .have ha:¬ (k:Int)<Z ns:=I;have e:k=Z ns:=I;subst e;have V:=g.2.2 (Z ns-1) (by rw[D f];omega);rw[XR I]at V;have ec:((Z ns:Int)-1)=((Z ns-1:Nat):Int):=I;have he:((Z ns:Int)-1)<(Z ns:Int):=I;have hf:(0:Int)<=Z ns-1:=I;have et:((Z ns:Int)-1).toNat=Z ns-1:=I;go_wp2;go_ret;exact⟨F,C⟩
def zbF:(prog.info? 3).map (λi=>(i.zero,i.size,i.bytes))=E (E (G 0),1,8):=Jk
def FI(a:List Nat):JD:=a.map λ(n:Nat)=>G n
def eC(a b):FI (a++b)=FI a++FI b:=by simp[FI]
def Gu(w:JY)(B:Nat)(v:Value)(a):=w.ownsRow B 3 1 v (Z a) (FI a)
def Gu.y{a}(h:Gu w B u a)(b:Qb w w'):Gu w' B u a:=
 jD h (zH b JL) (by cases u.ownBlock with
 |none=>exact yW F
 |some k=>exact yX Js)
def jU(w:JY):Gu (w.alloc (JM #[] 3)) (O w.1) (Ql (O w.1) 0 0) []:=by have:=yJ (base:=O w.1) (e:=3) (size:=1) w #[] 0 yk yn F;simpa[Gu,FI] using this
def nK(w:JY)(n):∀j u,(FI [n])[j]?=E u->(w.alloc (JM #[G n] 3)).cell? ((J (O w.1) 0).add j)=E u:=by intro j u a;rw[jO];exact yF (w:=w.alloc (JM #[G n] 3)) (b:=O w.1) (jL w _) 0 1 j u (by simpa[FI] using a)
def jV(l):∀u∈FI l,u.oneCell'=Vp:=by intro u a;simp only[FI,List.mem_map]at a;obtain⟨b,_,rfl⟩:=a;rfl
def YL{n o}(h:O a.1=n):Below n a (a.alloc o):=by rw[<-h];exact zC
def T5(g c vs U o w)(hn:Z vs<=100)(hg:g<O w.1)(hV:J5 w g vs)(hU:D6 w (O w.1) vs U)(P:∀i,i<Z vs->(Ah U i).os.length<=1048576):Calls Vb 28 #[Ql g (Z vs) c,AJ o] w λe w'=>(∃v,e=i9 v/\Gu w' (O w.1+1) v (Bk U o (Z vs)))/\Below (O w.1) w w':=by
 unfold AJ;obtain⟨hb,hW⟩:=Jx (w.alloc (JM #[W o.s,G o.k,G o.l,G o.sd] 25));have T:O hb.1=O w.1+1:=by rw[hW];simp
 have HE:=S (by have:=jU hb;rw[T]at this;exact this:Gu (hb.alloc (JM #[] 3)) (O w.1+1) (Ql (O w.1+1) 0 0) []);have y:=S (by rw[hW];exact zC:Below (O w.1) w hb);have HO:=S (by rw[hW];exact⟨Jg,Jg,Jg,Jg⟩:A4 hb (O w.1) o);have R:=S P;have HW:=S T;clear P;go_enter func28,ntmps28;go_wp2_with fail;rw[<-hW];clear hW T;go_loopw [5,6,7] (λX i kk wr=>∃(n:Nat)(v:Value)(ds:List Nat),n<=Z vs/\X=v/\i=G n/\Hid (ds=Bk U o n)/\Hid (Gu wr (O w.1+1) v ds)/\Hid (Z ds<=1048576*n)/\Hid (Below (O w.1+1) hb wr)) (λ_ i _ _=>Z vs-(intOf i).toNat);case atStart=>exact⟨0,_,[],yn,F,F,S F,HE,S yn,S (YL HW)⟩
 case round=>
  clear HE;obtain⟨n,v,ds,ha,rfl,rfl,V,HR,h,HB⟩:=hrel;by_cases j:n<Z vs
  .have b:(n:Int)<Z vs:=I;obtain⟨os,x⟩:=Jx ((Ah U n).os);have M:Z os<=1048576:=by rw[x];exact R n j
   obtain⟨ao,co,t,C⟩:∃ao co,Hid (hb.cell? (J g (n*3+1))=E (i6 ao (Z os) co))/\Hid (0<Z os->∃gi,ao=E (J gi 0)/\gi<O w.1/\Au hb gi 0 os):=by
    obtain⟨⟨_,⟨a,ca,ev,hx⟩,_⟩,_,_⟩:=hU.2 n j;rw[<-x]at ev hx;have h1:=(y.cell (p:=(J g (n*3+1))) hg).trans (hV n j).2.1;rw[ev]at h1;refine⟨a,ca,S h1,S λh0=>?_⟩;rcases hx with⟨h2,_⟩|⟨gi,h2,h3,h4⟩
    .omega
    .exact⟨gi,h2,h3,h4.y y h3⟩
   have z:=S x;clear x;go_wp2_with fail;obtain⟨wo,rfl⟩:=Jx wr;go_loopw [5,7] (λX kk wr=>∃(k:Nat)(v':Value)(ds':List Nat),k<=Z os/\X=v'/\kk=G k/\Hid (ds'=ds++List.replicate (Cl o (os.take k)) n)/\Hid (Gu wr (O w.1+1) v' ds')/\Hid (Z ds'<=1048576*n+k)/\Hid (Below (O w.1+1) hb wr)) (λ_ kk _=>Z os-(intOf kk).toNat);case atStart=>exact⟨0,_,ds,yn,F,F,S (by simp[Cl]),HR,h,HB⟩
   case round=>
    clear HR HB h;obtain⟨k,v',ds',hk,rfl,rfl,H,HR,h,HB⟩:=hrel;have x1:=Jc HB I t;by_cases u:k<Z os
    .have s:(k:Int)<Z os:=I;obtain⟨gi,rfl,N,B⟩:=(D C) I;obtain⟨a0,a1,a2,a3⟩:=(B k u).y HB I;simp only[jd]at a0 a1 a2 a3;obtain⟨c0,c1,c2,c3⟩:=D HO;have d0:=Jc HB (I:O w.1<O w.1+1) c0;have d1:=Jc HB (I:O w.1<O w.1+1) c1;have d2:=Jc HB (I:O w.1<O w.1+1) c2;have d3:=Jc HB (I:O w.1<O w.1+1) c3;clear c0 c1 c2 c3 B;have hq:=λhb=>I2 (r os k) o hb
     have hd:=JJ;go_wp2_with fail;go_quiet (fail);have HT:=S (Wk (o:=o) u);cases hsm:ZH (r os k) o
     .have HS:=S hsm;go_wp2;refine⟨⟨k+1,_,ds',I,F,Jn,S ?_,S (HR.y (below_drewN yN nq)),S (Jy (D h)),S (below_drewN HB nq)⟩,Ji⟩;rw[D HT,D HS,D H];simp
     .have HS:=S hsm;have A:=S (HR.y (below_drewN yN nq));have Q:=S (below_drewN HB nq);generalize wr.drewN nq=wq at *;go_wp2_with (at_builtin;refine As zbF underlying72 (.tmp 35) (.tmp 37) F rfl (O w.1+1) _ (Z ds') (FI ds') F (A.y zC) (J (O wq.1) 0) 1 1 (FI [n]) F rfl (Ju (nK wq n)) (jV _) (by have:=D h;unfold maxLen;omega) (Jy (D h)) (by have:=Q.size;have:=D HW;simp;omega) ?_);intro v4 w4 hc K L m;have l:=S (by unfold Gu;rw[eC,yr];exact hc:Gu w4 (O w.1+1) v4 (ds'++[n]));have f:Below (O w.1+1) hb w4:=(Q.alloc (by have:=Q.size;have:=D HW;omega) _).grown K (by have:=Q.size;have:=D HW;simp;omega) (λq hq=>(ji A q hq).1);go_wp2;refine⟨⟨k+1,_,ds'++[n],I,F,Jn,S ?_,l,S (by have:=D h;simp;omega),S f⟩,Ji⟩;rw[D HT,D HS,D H,yD];simp[List.replicate_succ']
    .have s:¬ (k:Int)<Z os:=I;obtain rfl:k=Z os:=I;have d:=S (by rw[D H,D V,D z];simp[Bk]:ds'=Bk U o (n+1));go_wp2;exact⟨⟨n+1,_,ds',I,F,Jn,d,HR,S (Jy (D h)),HB⟩,Ji⟩
  .have b:¬ (n:Int)<Z vs:=I;obtain rfl:n=Z vs:=I;have e:=D V;subst e;have HG:=S (y.trans (HB.mono I));go_wp2;go_ret;exact⟨⟨_,F,HR⟩,HG⟩
def Bh(o:Ad)(a:Jf):Bool:=a.any (λx=>ZH x o)
def Zz{a}:Bh o a=Vp↔o∈a:=R8
def nL(a c o w):Calls Vb 32 #[.slice a 0 c,AJ o] w λe w'=>e=i9 (i7 Vt)/\Qb w w':=by
 unfold AJ;go_enter func32,ntmps32;go_wp2;go_loopw [5] (λi wr=>i=G 0/\Qb w wr) (λi _=>0);case atStart=>exact⟨F,zC⟩
 case round=>obtain⟨rfl,b⟩:=hrel;go_wp2;go_ret;exact⟨F,b⟩
def Sy(t b o w)(i:Z b<=1048576)(h:ZX w t b):Calls Vb 32 #[t,AJ o] w λe w'=>e=i9 (i7 (Bh o b))/\Qb w w':=by
 obtain⟨a,c,rfl,⟨d,_⟩|⟨g,rfl,f,k⟩⟩:=h
 .obtain rfl:=jg.1 d;exact nL a c o w
 .go_call VL g c (Z b) b o w i yk k f as e w' ⟨⟨v,rfl,hv⟩,hb⟩;have:v=Bh o b:=by
   rw[jI,hv,Zz,List.mem_iff_getElem];constructor
   .rintro⟨j,hj,e⟩;exact⟨j,hj,by simpa[r,yq,hj] using e⟩
   .rintro⟨j,hj,e⟩;exact⟨j,hj,by simpa[r,yq,hj] using e⟩
  exact⟨by rw[this],hb⟩
def zbG:(prog.info? 4).map (λi=>(i.zero,i.size,i.bytes))=E (E (i7 Vt),1,1):=Jk
def E0(a:List Bool):JD:=a.map λb=>.bool b
def eD(a b):E0 (a++b)=E0 a++E0 b:=by simp[E0]
def GW(w:JY)(B:Nat)(v:Value)(a):=w.ownsRow B 4 1 v (Z a) (E0 a)
def GW.y{a}(h:GW w B u a)(b:Qb w w'):GW w' B u a:=
 jD h (zH b JL) (by cases u.ownBlock with
 |none=>exact yW F
 |some k=>exact yX Js)
def jW(w:JY):GW (w.alloc (JM #[] 4)) (O w.1) (Ql (O w.1) 0 0) []:=by have:=yJ (base:=O w.1) (e:=4) (size:=1) w #[] 0 yk yn F;simpa[GW,E0] using this
def nM(w:JY)(n):∀j u,(E0 [n])[j]?=E u->(w.alloc (JM #[.bool n] 4)).cell? ((J (O w.1) 0).add j)=E u:=by intro j u a;rw[jO];exact yF (w:=w.alloc (JM #[.bool n] 4)) (b:=O w.1) (jL w _) 0 1 j u (by simpa[E0] using a)
def jX(l):∀u∈E0 l,u.oneCell'=Vp:=by intro u a;simp only[E0,List.mem_map]at a;obtain⟨b,_,rfl⟩:=a;rfl
def L3(o:Ad)(a:JE)(k:Nat):List Bool:=(List.range k).map λi=>Bh o (zy a i)
def fD(v L o w)(hn:Z L<=100)(hT:FL w v L)(hl:∀i,i<Z L->Z (zy L i)<=1048576):Calls Vb 30 #[v,AJ o] w λe w'=>(∃u,e=i9 u/\GW w' (O w.1+1) u (L3 o L (Z L)))/\Below (O w.1) w w':=by
 obtain⟨a,c,rfl,hT⟩:=hT;have HX:=S (λs xs t hm h=>Sy t xs o s hm h);unfold AJ at HX ⊢;obtain⟨s,hW⟩:=Jx (w.alloc (JM #[W o.s,G o.k,G o.l,G o.sd] 25));have y:O s.1=O w.1+1:=by rw[hW];simp
 have HE:=S (by have:=jW s;rw[y]at this;exact this:GW (s.alloc (JM #[] 4)) (O w.1+1) (Ql (O w.1+1) 0 0) []);have p:=S (by rw[hW];exact zC:Below (O w.1) w s);have HO:=S (by rw[hW];exact⟨Jg,Jg,Jg,Jg⟩:A4 s (O w.1) o);have HT:=S hT;have HL:=S hl;have HW:=S y;clear hT hl;go_enter func30,ntmps30;go_wp2_with fail;rw[<-hW];clear hW y;go_loopw [5,6] (λb i wr=>∃(n:Nat)(v:Value)(R:List Bool),n<=Z L/\b=v/\i=G n/\Z R<=n/\Hid (R=L3 o L n)/\Hid (GW wr (O w.1+1) v R)/\Hid (Below (O w.1+1) s wr)) (λ_ i _=>Z L-(intOf i).toNat);case atStart=>exact⟨0,_,[],yn,F,F,yk,S F,HE,S (YL HW)⟩
 case round=>
  clear HE;obtain⟨n,v,R,g,rfl,rfl,m,z,HR,T⟩:=hrel;by_cases V:n<Z L
  .have A:(n:Int)<Z L:=I;obtain⟨gs,rfl,B,hx⟩:∃gs,a=E (J gs 0)/\gs<O w.1/\∀i,i<Z L->∃t,w.cell? (J gs i)=E t/\ZX w t (zy L i):=HT.elim (λh=>I) id;obtain⟨t,ht,Q⟩:=hx n V;have U:=S (p.trans (T.mono I));have x1:=Jc U B ht;obtain⟨c0,c1,c2,c3⟩:=D HO;have d0:=Jc T (I:O w.1<O w.1+1) c0;have d1:=Jc T (I:O w.1<O w.1+1) c1;have d2:=Jc T (I:O w.1<O w.1+1) c2;have d3:=Jc T (I:O w.1<O w.1+1) c3;have zr:O w.1+1<=O wr.1:=by have:=T.size;have:=D HW;omega
   have HC:=S (HX wr.drew (zy L n) t (HL n V) ((Q.y U).y (yN).drew));have C:=S (HR.y (yN).drew);have NF:=S (λ(q:Nat)(hq:q<=O w.1) e=>(yV (ji HR q e).1 I:False));obtain⟨bq,X⟩:=Jx (Bh o (zy L n));have HQ:=S X;rw[<-X]at HC;clear c0 c1 c2 c3 ht Q hx X;go_wp2_with fail;go_region_held_law (λs=>s.cell? (J (O w.1) 0)=E (W o.s)/\s.cell? (J (O w.1) 1)=E (G o.k)/\s.cell? (J (O w.1) 2)=E (G o.l)/\s.cell? (J (O w.1) 3)=E (G o.sd)/\s.cell? (J gs n)=E t) (go_keep)
    (first
     |(go_at_call 32;(with_reducible refine(D HC).mono ?_);rintro e N ⟨rfl,M⟩;have z3:O wr.1<=O N.1:=M.size;have e0:=Jc M (I:O w.1<O wr.1) d0;have e1:=Jc M (I:O w.1<O wr.1) d1;have e2:=Jc M (I:O w.1<O wr.1) d2;have e3:=Jc M (I:O w.1<O wr.1) d3;have e4:=Jc M (I:gs<O wr.1) x1;have d:Hid (Below (O w.1+1) s N):=T.drew.trans (M.mono zr);have j:=S (C.y M))
     |(refine De zbG underlying76 (.tmp 14) (.tmp 22) (by rfl) (by rfl) (O w.1+1) _ (Z R) (E0 R) (by rfl) (j.alloc _) (J (O N.1) 0) 1 1 (E0 [bq]) (by rfl) F (nM N bq) (jX _) Jd Jm I Jq _ F ?_;intro g4 c4 w4 K H _ f;have f0:=(H.cell_far (J (O w.1) 0) Jq (λx=>NF _ (by simp;try omega) x.symm)).trans (Jc (@zC N _) (I:O w.1<O N.1) e0);have f1:=(H.cell_far (J (O w.1) 1) Jq (λx=>NF _ (by simp;try omega) x.symm)).trans (Jc (@zC N _) (I:O w.1<O N.1) e1);have f2:=(H.cell_far (J (O w.1) 2) Jq (λx=>NF _ (by simp;try omega) x.symm)).trans (Jc (@zC N _) (I:O w.1<O N.1) e2);have f3:=(H.cell_far (J (O w.1) 3) Jq (λx=>NF _ (by simp;try omega) x.symm)).trans (Jc (@zC N _) (I:O w.1<O N.1) e3);have f4:=(H.cell_far (J gs n) Jq (λx=>NF _ (by simp;try omega) x.symm)).trans (Jc (@zC N _) (I:gs<O N.1) e4);simp only[yc,ya,yb];simp only[Act.put,ye,yg,yh]))
   have l:Hid (Below (O w.1+1) s w4):=(d.alloc I _).grown H Jq (λq hq=>(ji j q hq).1);have P:Z R+1=Z (R++[bq]):=Js;rw[<-eD,P]at K;rw[P];have k:Hid (GW w4 (O w.1+1) _ (R++[bq])):=K;go_wp2;exact⟨⟨n+1,_,R++[bq],I,F,Jn,Jq,S (by rw[D z,D HQ];simp[L3,List.range_succ]),k,l⟩,Ji⟩
  .have A:¬ (n:Int)<Z L:=I;obtain rfl:n=Z L:=I;have HG:=S (p.trans (T.mono I));have e:=D z;subst e;go_wp2;go_ret;exact⟨⟨_,F,HR⟩,HG⟩
structure DY(e s:Nat)(a wr:JY)(B P:Nat)(v:Value)(m:Nat)(cs:JD):Prop where
 ce:wr.cell? (J P 0)=E v
 fr:wr.frozen? (J P 0)=Vt
 row:wr.ownsRow B e s v m cs
 np:v.ownBlock≠E P
 bel:Below B a wr
def I7(h:w.ownsRow B e s u m cs)(a:Qb w w'):w'.ownsRow B e s u m cs:=
 jD h (zH a JL) (by cases u.ownBlock with
 |none=>exact yW F
 |some k=>exact yX Js)
def DY.drewN(h:DY e s a wr B P v m cs)(n:Nat):DY e s a (wr.drewN n) B P v m cs:=
 ⟨h.ce,h.fr,I7 h.row (below_drewN yN n),h.np,below_drewN h.bel n⟩
def DY.y(h:DY e s a wr B P v m cs)(c:P<O wr.1)(d:B<=O wr.1)(b:Qb wr X):DY e s a X B P v m cs:=
 ⟨Jc b c h.ce,(yG (w:=wr) (b.block P c)).trans h.fr,I7 h.row b,h.np,h.bel.trans (b.mono d)⟩
def A4.below4{N}(h:A4 a N o)(c:Below B a wr)(b:N<B):A4 wr N o:=
 ⟨Jc c b h.1,Jc c b h.2.1,Jc c b h.2.2.1,Jc c b h.2.2.2⟩
def DY.far{b:JY}(h:DY e s a wr B P v m cs)(f:P<O wr.1)(c:Qb wr X)(g:X.grownBy b v.ownBlock):b.cell? (J P 0)=E v/\b.frozen? (J P 0)=Vt:=by have i:=c.size;have d:b.heap[P]?=wr.heap[P]?:=(g.block P I (λe=>h.np e.symm)).trans (c.block P f);exact⟨(yv (w:=wr) d).trans h.ce,(yG (w:=wr) d).trans h.fr⟩
def DY.put{j:Nat}{f:JY}{g:Nat}{n c:Nat}{b:JD}(h:DY e s a wr B P v m cs)(o:B<=P)(t:P<O wr.1)(d:Qb wr X)(i:X.grownBy f v.ownBlock)(u:f.ownsRow B e s (Ql g n c) j b)(H:v.ownBlock=E g\/O wr.1<=g):DY e s a (f.setCell (J P 0) (Ql g n c)) B P (Ql g n c) j b:=by
 obtain⟨w,y⟩:=h.far t d i;have k:(i6 (E (J g 0)) n c).ownBlock≠E P:=λe=>by
  have l:g=P:=by simpa[i8] using e
  rcases H with x|x
  .exact h.np (l ▸ x)
  .omega
 exact⟨yu _ _ _ w,(yx).trans y,NH u P 0 _ k,k,((h.bel.trans (d.mono I)).grown i (Jy d.size) (λq e=>(ji h.row q e).1)).setCell (p:=J P 0) o _⟩
structure E5(w:JY)(N:Nat)(q:ZB):Prop where
 h:N<O w.1
 c0:w.cell? (J N 0)=E (G q.k)
 c1:w.cell? (J N 1)=E (W q.m)
 c2:w.cell? (J N 2)=E (W q.o.s)
 c3:w.cell? (J N 3)=E (G q.o.k)
 c4:w.cell? (J N 4)=E (G q.o.l)
 c5:w.cell? (J N 5)=E (G q.o.sd)
 c6:w.cell? (J N 6)=E (W q.t)
 c7:w.cell? (J N 7)=E (G q.l)
 c8:w.cell? (J N 8)=E (G q.sd)
def E5.y{N q}(h:E5 w N q)(a:Below B w w')(b:N<B):E5 w' N q:=by
 have k:=λo=>a.cell (p:=J N o) b
 exact⟨ym h.h a.size,(k 0).trans h.c0,(k 1).trans h.c1,(k 2).trans h.c2,(k 3).trans h.c3,(k 4).trans h.c4,(k 5).trans h.c5,(k 6).trans h.c6,(k 7).trans h.c7,(k 8).trans h.c8⟩
def A5(q:ZB):Array Value:=#[G q.k,W q.m,W q.o.s,G q.o.k,G q.o.l,G q.o.sd,W q.t,G q.l,G q.sd]
def E5.new(w:JY)(q t):E5 (w.alloc (JM (A5 q) t)) (O w.1) q:=by unfold A5;exact⟨Js,Jg,Jg,Jg,Jg,Jg,Jg,Jg,Jg,Jg⟩
def QN(a wr B P v b):=DY 108 4 a wr B P v (Z b) (zO b)
def Mc(o b:Ad)(n:zD):zD:=if Da o n=Vp then⟨n.k,b.s,n.a,n.b⟩ else n
def uB{b a k}(h:k<Z a):AV o b (a.take (k+1))=AV o b (a.take k)++[Mc o b (Y a k)]:=by
 have e:Y a k=a[k]:=by simp[Y,yq,h]
 rw[jP h,e];simp only[AV,Mc,List.map_append,jC,List.map_nil]
def Ur(g c ns o b w)(hm:Z ns<=1048576)(hw:Z2 w g 0 ns)(hg:g<O w.1)(hk:1<=o.k/\o.k<=3):Calls Vb 36 #[b9 #[Ql g (Z ns) c],AJ o,AJ b] w λe w'=>(∃u,e=i9 (b9 #[u])/\w'.ownsRow (O w.1+4) 108 4 u (Z ns) (zO (AV o b ns)))/\Below (O w.1) w w':=by
 unfold AJ;obtain⟨R,hW⟩:=Jx ((((w.alloc (JM #[Ql g (Z ns) c] 40)).alloc (JM #[W o.s,G o.k,G o.l,G o.sd] 25)).alloc (JM #[W b.s,G b.k,G b.l,G b.sd] 25)).alloc (JM #[Jl] 40));have d:O R.1=O w.1+4:=by rw[hW];simp
 have A:=S (by rw[hW];exact(((zC).alloc Js _).alloc Jq _).alloc Jq _:Below (O w.1) w R);have HT:=S (by rw[hW];simp[go_sem]:R.cell? (J (O w.1) 0)=E (Ql g (Z ns) c));have HO:=S (by rw[hW];exact⟨Jg,Jg,Jg,Jg⟩:A4 R (O w.1+1) o);have l:=S (by rw[hW];exact⟨Jg,Jg,Jg,Jg⟩:A4 R (O w.1+2) b);have k:=S (by rw[hW];simp[go_sem]:R.cell? (J (O w.1+3) 0)=E Jl);have f:=S (by rw[hW];simp[go_sem]:R.frozen? (J (O w.1+3) 0)=Vt);have a:Hid (Z2 R g 0 ns):=λi hi=>(hw i hi).y A hg
 have HE:=S (show QN R ((R.alloc (JM #[] 108)).alloc (JM #[Ql (O w.1+1+1+1+1) 0 0] 40)) (O w.1+4) (O w.1+5) (Ql (O w.1+1+1+1+1) 0 0) [] by
  have e:O w.1+1+1+1+1=O R.1:=I
  have e5:O w.1+5=O (R.alloc (JM #[] 108)).1:=Jq
  rw[e,e5]
  have hr:(R.alloc (JM #[] 108)).ownsRow (O R.1) 108 4 (Ql (O R.1) 0 0) 0 []:=by
   have:=yJ (base:=O R.1) (e:=108) (size:=4) R #[] 0 yk yn F
   simpa using this
  exact⟨Jg,Jg,I7 hr zC,Jb,(zC).alloc Js _⟩)
 have HW:=S d;clear hw;go_enter func36,ntmps36;go_wp2_with fail;rw[<-hW];clear hW d;go_loopw [8,9] (λi nv wr=>∃(n:Nat)(v:Value),n<=Z ns/\i=G n/\Hid (QN R wr (O w.1+4) (O w.1+5) v (AV o b (ns.take n)))) (λi _ _=>Z ns-(intOf i).toNat);case atStart=>exact⟨0,_,yn,F,HE⟩
 case round=>
  clear HE;obtain⟨n,v,hn,rfl,HS⟩:=hrel;obtain⟨av,cv,rfl⟩:=zS HS.row;have HB:=S HS.bel;have tb:=Jc HB (I:O w.1<O w.1+4) HT;by_cases B:n<Z ns
  .have C:(n:Int)<Z ns:=I;obtain⟨a0,a1,a2,a3⟩:=((a) n B).y HB I;simp only[jd]at a0 a1 a2 a3;obtain⟨x,hx⟩:=Jx (Y ns n);have T:=S (uB (o:=o) (b:=b) B);rw[<-hx]at a0 a1 a2 a3 T;clear hx;have zr:O w.1+5<O wr.1:=jl HS.ce;obtain⟨d0,d1,d2,d3⟩:=HO.below4 HB I;have m:IntKind.i64.wrap (o.k+2)=o.k+2:=Go.IntWalk.i64_in _ I;have e0:=(l.below4 HB I).1;obtain⟨ys,M⟩:=Jx (AV o b (ns.take n));have L:Z ys<=1048576:=by rw[M,EZ,List.length_take];omega
   rw[<-M]at HS T;have s:=S M;clear M;obtain⟨W1,U⟩:=Jx (wr.alloc (JM #[G x.k,W x.t,G x.a,G x.b] 108));have P:Below (O wr.1) wr W1:=by rw[U];exact zC
   have f0:=Jc P I d0;have f1:=Jc P I d1;have f2:=Jc P I e0;have y:=S (λ(N:JZ)=>(show QN R (wr.alloc (JM #[G x.k,W N,G x.a,G x.b] 108)) _ _ _ _ from DY.y HS zr I zC));clear P d0 d1 d2 d3 e0;by_cases hc:x.k=o.k+2/\x.t=o.s
   .have g1:(x.k==o.k+2)=Vp:=by simp[hc.1]
    have g2:(x.t.toList==o.s.toList)=Vp:=by simp[hc.2]
    have HC:=S (by unfold Mc;rw[yU (by simp[Da,hc.1,hc.2])]:Mc o b x=⟨x.k,b.s,x.a,x.b⟩);have H2:=S (y b.s);have p2:=H2.ce;clear hc HS y;subst U;have X:Hid (((wr.alloc (JM #[G x.k,W b.s,G x.a,G x.b] 108)).alloc (JM #[G x.k,W b.s,G x.a,G x.b] 108)).ownsRow (O w.1+4) 108 4 (i6 av (Z ys) cv) (Z ys) (zO ys)):=I7 H2.row zC;have V:=S (by have:=Zh (wr.alloc (JM #[G x.k,W b.s,G x.a,G x.b] 108)) ⟨x.k,b.s,x.a,x.b⟩;simpa using this:∀j u,(zO [(⟨x.k,b.s,x.a,x.b⟩:zD)])[j]?=E u->((wr.alloc (JM #[G x.k,W b.s,G x.a,G x.b] 108)).alloc (JM #[G x.k,W b.s,G x.a,G x.b] 108)).cell? ((J (O wr.1+1) 0).add j)=E u);go_wp2_with (at_builtin;refine As BB underlying38 (.tmp 41) (.tmp 43) F rfl (O w.1+4) _ (Z ys) (zO ys) F X (J (O wr.1+1) 0) 1 1 (zO [⟨x.k,b.s,x.a,x.b⟩]) F rfl V (zf _) Jm I Jq ?_);intro v4 w4 K H q Q;obtain⟨g4,c4,rfl⟩:=ER K (by simp[q]);have HN:=S (H2.put I Jq zC H (show w4.ownsRow (O w.1+4) 108 4 _ (Z (ys++[(⟨x.k,b.s,x.a,x.b⟩:zD)])) (zO (ys++[⟨x.k,b.s,x.a,x.b⟩])) by rw[Zp,yr];exact K) (Q.elim (λx=>yW (x.symm.trans (by rfl))) (λz=>yX (by have:=(show E g4=E _ from z);injection this;simp;omega))));obtain⟨q0,q1⟩:=H2.far Jq zC H;clear K H q Q;go_wp2;refine⟨⟨n+1,Ql g4 (Z ys+1) c4,I,Jn,S ?_⟩,Ji⟩;rw[D T,D HC];exact HN
   .have HC:=S (by unfold Mc;rw[yS (by simpa[Da] using hc)]:Mc o b x=⟨x.k,x.t,x.a,x.b⟩);by_cases h1:x.k=o.k+2;focus
     have g1:(x.k==o.k+2)=Vp:=by simp[h1]
     have g2:(x.t.toList==o.s.toList)=Vt:=Bool.eq_false_iff.2 λh=>hc ⟨h1,Zd (Ju h)⟩
    rotate_left
    focus have g1:(x.k==o.k+2)=Vt:=by simp[h1]
    all_goals
     clear h1
     have H2:=S (y x.t)
     have p2:=H2.ce
     clear hc HS y
     subst U
     have X:Hid (((wr.alloc (JM #[G x.k,W x.t,G x.a,G x.b] 108)).alloc (JM #[G x.k,W x.t,G x.a,G x.b] 108)).ownsRow (O w.1+4) 108 4 (i6 av (Z ys) cv) (Z ys) (zO ys)):=I7 H2.row zC
     have V:=S (by have:=Zh (wr.alloc (JM #[G x.k,W x.t,G x.a,G x.b] 108)) ⟨x.k,x.t,x.a,x.b⟩;simpa using this:∀j u,(zO [(⟨x.k,x.t,x.a,x.b⟩:zD)])[j]?=E u->((wr.alloc (JM #[G x.k,W x.t,G x.a,G x.b] 108)).alloc (JM #[G x.k,W x.t,G x.a,G x.b] 108)).cell? ((J (O wr.1+1) 0).add j)=E u)
     go_wp2_with (at_builtin;refine As BB underlying38 (.tmp 41) (.tmp 43) F rfl (O w.1+4) _ (Z ys) (zO ys) F X (J (O wr.1+1) 0) 1 1 (zO [⟨x.k,x.t,x.a,x.b⟩]) F rfl V (zf _) Jm I Jq ?_)
     intro v4 w4 K H q Q
     obtain⟨g4,c4,rfl⟩:=ER K (by simp[q])
     have HN:=S (H2.put I Jq zC H (show w4.ownsRow (O w.1+4) 108 4 _ (Z (ys++[(⟨x.k,x.t,x.a,x.b⟩:zD)])) (zO (ys++[⟨x.k,x.t,x.a,x.b⟩])) by rw[Zp,yr];exact K) (Q.elim (λx=>yW (x.symm.trans (by rfl))) (λz=>yX (by have:=(show E g4=E _ from z);injection this;simp;omega))))
     obtain⟨q0,q1⟩:=H2.far Jq zC H
     go_wp2
     refine⟨⟨n+1,Ql g4 (Z ys+1) c4,I,Jn,S ?_⟩,Ji⟩
     rw[D T,D HC]
     exact HN
  .have C:¬ (n:Int)<Z ns:=I;obtain rfl:n=Z ns:=I;have e:=D HS;rw[jJ]at e;have hl:=EZ o b ns;have t:=S e;have p0:=e.ce;have e3:=Jc HB I k;have e4:=(yG (w:=R) (HB.block _ (I:O w.1+3<O w.1+4))).trans f;have HL:=S hl;go_wp2;refine yQ (v:=b9 #[.slice av (AV o b (ns.take (Z ns))).length cv]) ?res F ⟨⟨_,F,?_⟩,?_⟩;case res=>simp[results,results36,go_sem, *]
   .have hx:=NH HS.row (O w.1+1+1+1) 0 (i6 av (AV o b (ns.take (Z ns))).length cv) (λe=>Jy ((ji HS.row _ e).1));rw[jJ]at hx ⊢;rw[D HL]at hx ⊢;exact hx
   .exact(A.trans (HB.mono I)).setCell (p:=(J (O w.1+1+1+1) 0)) Jq _
def OS(a wr B P v b):=DY 25 4 a wr B P v (Z b) (zn b)
def uC{b a k}(h:k<Z a):Ar o b (a.take (k+1))=Ar o b (a.take k)++[if ZH (r a k) o=Vp then b else r a k]:=by
 have e:r a k=a[k]:=by simp[r,yq,h]
 rw[jP h,e];simp only[Ar,List.map_append,jC,List.map_nil]
def VE(g c M o b w)(hm:Z M<=1048576)(hw:Au w g 0 M)(hg:g<O w.1):Calls Vb 34 #[b9 #[Ql g (Z M) c],AJ o,AJ b] w λe w'=>(∃u,e=i9 (b9 #[u])/\AQ w' (O w.1+4) u (Ar o b M))/\Below (O w.1) w w':=by
 unfold AJ;obtain⟨z,R⟩:=Jx ((((w.alloc (JM #[Ql g (Z M) c] 45)).alloc (JM #[W o.s,G o.k,G o.l,G o.sd] 25)).alloc (JM #[W b.s,G b.k,G b.l,G b.sd] 25)).alloc (JM #[Jl] 45));have B:O z.1=O w.1+4:=by rw[R];simp
 have V:=S (by rw[R];exact(((zC).alloc Js _).alloc Jq _).alloc Jq _:Below (O w.1) w z);have HT:=S (by rw[R];simp[go_sem]:z.cell? (J (O w.1) 0)=E (Ql g (Z M) c));have HO:=S (by rw[R];exact⟨Jg,Jg,Jg,Jg⟩:A4 z (O w.1+1) o);have f:=S (by rw[R];exact⟨Jg,Jg,Jg,Jg⟩:A4 z (O w.1+2) b);have d:=S (by rw[R];simp[go_sem]:z.cell? (J (O w.1+3) 0)=E Jl);have l:=S (by rw[R];simp[go_sem]:z.frozen? (J (O w.1+3) 0)=Vt);have C:Hid (Au z g 0 M):=λi hi=>(hw i hi).y V hg
 have HE:=S (show OS z ((z.alloc (JM #[] 25)).alloc (JM #[Ql (O w.1+1+1+1+1) 0 0] 45)) (O w.1+4) (O w.1+5) (Ql (O w.1+1+1+1+1) 0 0) [] by
  have e:O w.1+1+1+1+1=O z.1:=I
  have e5:O w.1+5=O (z.alloc (JM #[] 25)).1:=Jq
  rw[e,e5]
  have hr:AQ (z.alloc (JM #[] 25)) (O z.1) (Ql (O z.1) 0 0) []:=by
   have:=yJ (base:=O z.1) (e:=25) (size:=4) z #[] 0 yk yn F
   simpa[AQ,zn] using this
  exact⟨Jg,Jg,I7 hr zC,Jb,(zC).alloc Js _⟩)
 have HW:=S B;clear hw;go_enter func34,ntmps34;go_wp2_with fail;rw[<-R];clear R B;go_loopw [8] (λi wr=>∃(n:Nat)(v:Value),n<=Z M/\i=G n/\Hid (OS z wr (O w.1+4) (O w.1+5) v (Ar o b (M.take n)))) (λi _=>Z M-(intOf i).toNat);case atStart=>exact⟨0,_,yn,F,HE⟩
 case round=>
  clear HE;obtain⟨n,v,hn,rfl,HS⟩:=hrel;obtain⟨av,cv,rfl⟩:=zS HS.row;have N:=S HS.bel;have tb:=Jc N (I:O w.1<O w.1+4) HT;by_cases a:n<Z M
  .have A:(n:Int)<Z M:=I;obtain⟨a0,a1,a2,a3⟩:=((C) n a).y N I;simp only[jd]at a0 a1 a2 a3;obtain⟨c0,c1,c2,c3⟩:=D HO;have d0:=Jc N I c0;have d1:=Jc N I c1;have d2:=Jc N I c2;have d3:=Jc N I c3;clear c0 c1 c2 c3;have hq:=λz=>I2 (r M n) o z
   have m:=JJ;go_wp2_with fail;go_quiet (fail);clear hq m;have L:=S (uC (o:=o) (b:=b) a);cases T:ZH (r M n) o
   .have j:=S T;clear T;have H:Hid (OS z (wr.drewN nq) _ _ _ _):=DY.drewN HS nq;have p0:=H.ce;have t:Z (Ar o b (M.take n))<=1048576:=by rw[EY,List.length_take];omega
    obtain⟨ys,Q⟩:=Jx (Ar o b (M.take n));rw[<-Q]at H t L p0;have k:=S Q;clear Q;have zq:O w.1+5<O (wr.drewN nq).1:=jl p0;obtain⟨x,hx⟩:=Jx (r M n);rw[<-hx]at a0 a1 a2 a3 L j;have HX:=S hx;clear hx d0 d1 d2 d3 HS;have tb':(wr.drewN nq).cell? (J (O w.1) 0)=E (Ql g (Z M) c):=tb;have b0:(wr.drewN nq).cell? (J g (n*4))=E (W x.s):=a0;have b1:(wr.drewN nq).cell? (J g (n*4+1))=E (G x.k):=a1;have b2:(wr.drewN nq).cell? (J g (n*4+2))=E (G x.l):=a2;have b3:(wr.drewN nq).cell? (J g (n*4+3))=E (G x.sd):=a3;generalize wr.drewN nq=wq at *;clear tb a0 a1 a2 a3 N;have NF:=S (λ(q:Nat)(hq:q<O w.1+4\/q=O w.1+5) e=>(hq.elim (λhq=>yV (ji (D H).row q e).1 I) (λhq=>(D H).np (hq ▸ e)):False));go_wp2_with fail;go_region_law (refine De Fz underlying43 (.tmp 32) (.tmp 38) (by rfl) (by rfl) (O w.1+4) _ (Z ys) (zn ys) (by rfl) (I7 H.row (zC).drew) (J (O wq.1) 0) 1 1 (zn [x]) (by rfl) F (Ij wq x) (Zw _) Jd Jm I Jq _ F ?_;intro g4 c4 w4 K h X s;have HN:=S (H.put I I (zC).drew h (show AQ w4 (O w.1+4) _ (ys++[x]) by unfold AQ;rw[Zo,yr];exact K) (X.elim yW (λy=>yX (by rw[y];simp))));obtain⟨q0,q1⟩:=H.far zq (zC).drew h);all_goals
     clear K h X
     go_wp2
     refine⟨⟨n+1,Ql g4 (Z ys+1) c4,I,Jn,S ?_⟩,Ji⟩
     rw[D L,yS (by rw[D j];simp)]
     exact HN
   .have j:=S T;clear T;have H:Hid (OS z (wr.drewN nq) _ _ _ _):=DY.drewN HS nq;obtain⟨e0,e1,e2,e3⟩:=f.below4 H.bel I;have p0:=H.ce;have p1:=H.fr;have t:Z (Ar o b (M.take n))<=1048576:=by rw[EY,List.length_take];omega
    obtain⟨ys,Q⟩:=Jx (Ar o b (M.take n));rw[<-Q]at H t L p0;have k:=S Q;clear Q;have zq:O w.1+5<O (wr.drewN nq).1:=jl p0;generalize wr.drewN nq=wq at *;clear HS N a0 a1 a2 a3 d0 d1 d2 d3 tb;go_wp2_with (at_builtin;refine As Fz underlying43 (.tmp 26) (.tmp 28) F rfl (O w.1+4) _ (Z ys) (zn ys) F (I7 H.row zC) (J (O wq.1) 0) 1 1 (zn [b]) F rfl (Ju (Ij wq b)) (Zw _) Jm I Jq ?_);intro v4 w4 K h P X;obtain⟨g4,c4,rfl⟩:=ER K (by simp[P]);have HN:=S (H.put I I zC h (show AQ w4 (O w.1+4) _ (ys++[b]) by unfold AQ;rw[Zo,yr];exact K) (X.elim (λx=>yW (x.symm.trans (by rfl))) (λx=>yX (by have:E g4=E (O wq.1+1):=x;injection this;omega))));obtain⟨q0,q1⟩:=H.far zq zC h;go_wp2;refine⟨⟨n+1,Ql g4 (Z ys+1) c4,I,Jn,S ?_⟩,Ji⟩;rw[D L,yU (D j)];exact HN
  .have A:¬ (n:Int)<Z M:=I;obtain rfl:n=Z M:=I;have e:=D HS;rw[jJ]at e;have U:=S e;have p0:=e.ce;have e3:wr.cell? (J (O w.1+3) 0)=E Jl:=(N.cell (p:=(J (O w.1+3) 0)) (I:O w.1+3<O w.1+4)).trans d;have e4:wr.frozen? (J (O w.1+3) 0)=Vt:=(yG (w:=z) (N.block _ (I:O w.1+3<O w.1+4))).trans l;go_wp2;refine yQ (v:=b9 #[.slice av (Z (Ar o b M)) cv]) ?res F ⟨⟨_,F,?_⟩,?_⟩;case res=>simp[results,results34,go_sem, *]
   .exact NH U.row _ 0 _ (λe=>Jy ((ji U.row _ e).1))
   .exact(V.trans (N.mono I)).setCell (p:=(J (O w.1+1+1+1) 0)) Jq _
open Go.Maps
def TQ(a c w):Calls Vb 244 #[G a,G c] w λe w'=>e=i9 (i7 (Dl a c))/\w'=w:=by
 have i:Dl a c=(a==3||c==3||(a==2&&c==2)):=by unfold Dl;rw[jI];simp only[jM,Bool.or_eq_true,jB,beq_iff_eq];omega
 have b:=S i;by_cases d:a=3
 .have K:(a==3)=Vp:=Ju d
  rw[K]at b;go_enter func244,ntmps244;go_wp2;go_ret;exact⟨zv (by rw[D b];rfl),F⟩
 .have K:(a==3)=Vt:=Ju d
  rw[K]at b;by_cases f:c=3
  .have H:(c==3)=Vp:=Ju f
   rw[H]at b;go_enter func244,ntmps244;go_wp2;go_ret;exact⟨zv (by rw[D b];rfl),F⟩
  .have H:(c==3)=Vt:=Ju f
   rw[H]at b;by_cases g:a=2
   .have h:(a==2)=Vp:=Ju g
    rw[h]at b;go_enter func244,ntmps244;go_wp2;go_ret;exact⟨zv (by rw[D b];rfl),F⟩
   .have h:(a==2)=Vt:=Ju g
    rw[h]at b;go_enter func244,ntmps244;go_wp2;go_ret;exact⟨zv (by rw[D b];rfl),F⟩
structure Dc(w:JY)(b:Nat)(v:Value)(ps:Jv)(a:Int):Prop where
 c0:w.cell? (J b 0)=E v
 c1:w.cell? (J b 1)=E (G a)
 fz:∀o,w.frozen? (J b o)=Vt
 row:zu w (b+1) v ps
def Dc.ne{a}(h:Dc w b v ps a):v.ownBlock≠E b:=λe=>by have:=(h.row.lt _ e).1;omega
def Dc.y{w e b v d a}(h:Dc w b v d a)(c:Qb w e):Dc e b v d a:=
 have H:b<O w.1:=jl h.c0
 ⟨Jc c H h.c0,Jc c H h.c1,λo=>(c.frozen (p:=J b o) H).trans (h.fz o),h.row.y c⟩
def Dc.keep{o a}(h:Dc w b v ps a)(c:(w.alloc o).grownBy w2 v.ownBlock):(∀q,w2.cell? (J b q)=w.cell? (J b q))/\∀q,w2.frozen? (J b q)=w.frozen? (J b q):=by have H:b<O w.1:=jl h.c0;have K:w2.heap[b]?=(w.alloc o).heap[b]?:=c.block b Jq (λe=>h.ne e.symm);exact⟨λq=>(yv (w:=w.alloc o) K).trans ((@zC w o).cell (p:=J b q) H),λq=>(yG (w:=w.alloc o) K).trans ((@zC w o).frozen (p:=J b q) H)⟩
def Dc.put{o g d a}(h:Dc w b v ps a)(c:(w.alloc o).grownBy w2 v.ownBlock)(j:zu w2 (b+1) g d):Dc (w2.setCell ⟨b,0,JL⟩ g) b g d a/\Bp w (w2.setCell ⟨b,0,JL⟩ g) b v.ownBlock:=by
 have H:b<O w.1:=jl h.c0;have K:w2.heap[b]?=(w.alloc o).heap[b]?:=c.block b Jq (λe=>h.ne e.symm);have e:∀q,w2.cell? ⟨b,q,JL⟩=w.cell? ⟨b,q,JL⟩:=λq=>(yv (w:=w.alloc o) K).trans ((@zC w o).cell (p:=⟨b,q,JL⟩) H)
 have f:∀q,w2.frozen? ⟨b,q,JL⟩=w.frozen? ⟨b,q,JL⟩:=λq=>(yG (w:=w.alloc o) K).trans ((@zC w o).frozen (p:=⟨b,q,JL⟩) H)
 refine⟨⟨yu _ _ _ ((e 0).trans h.c0),(yj _ _ _ _ Js).trans ((e 1).trans h.c1),λq=>(yx).trans ((f q).trans (h.fz q)),j.grown (Mk _ b 0 _) (λk s=>λx=>?_)⟩,?_⟩
 .injection x with x;have:=(j.lt k s).1;omega
 .have e1:=c.size;simp at e1;refine⟨c.os,c.tape,c.output,by simp[World.setCell];omega,λi n l m=>?_⟩;rw[jh _ _ _ _ (Ju l)];exact(c.block i Jq m).trans ((@zC w o).block i n)
theorem Dc.last{a}(h:Dc w b v ps a)(k):Dc (w.setCell ⟨b,1,JL⟩ (G k)) b v ps k:=
 ⟨(yj _ _ _ _ Js).trans h.c0,yu _ _ _ h.c1,λq=>(yx).trans (h.fz q),h.row.grown (Mk _ b 1 _) (λk c=>λx=>by
  injection x with x
  have:=(h.row.lt k c).1
  omega)⟩
def Bp.refl(w p a):Bp w w p a:=⟨F,F,F,yk,λ_ _ _ _=>F⟩
def Bp.trans{w g j p b a}(h:Bp w g p b)(c:Bp g j p a)(l:a=b\/∃k,a=E k/\O w.1<=k):Bp w j p b:=
 ⟨c.os.trans h.os,c.tape.trans h.tape,c.output.trans h.output,yy h.size c.size,λi f d H=>(c.block i (ym f h.size) d (λe=>by
  rcases l with rfl|⟨k,rfl,m⟩
  .exact H e
  .injection e with e;omega)).trans (h.block i f d H)⟩
def Bp.Q{a}(h:Qb w w'):Bp w w' p a:=⟨h.os,h.tape,h.output,h.size,λi b _ _=>h.block i b⟩
def Bp.y{b}(h:Qb w w1)(a:Bp w1 w2 p b):Bp w w2 p b:=
 ⟨a.os.trans h.os,a.tape.trans h.tape,a.output.trans h.output,yy h.size a.size,λi c d H=>(a.block i (ym c h.size) d H).trans (h.block i c)⟩
def Bp.set{o a}:Bp w (w.setCell (J p o) v) p a:=
 ⟨F,F,F,Jt,λi _ b _=>jh _ _ _ _ (Ju b)⟩
def Bp.at{c b}(h:Bp w w' p c)(d:b=c\/∃k,b=E k/\O w.1<=k)(a)(H:a=b\/∃k,a=E k/\O w'.1<=k):a=c\/∃k,a=E k/\O w.1<=k:=by
 have:=h.size;rcases H with rfl|⟨k,rfl,e⟩
 .exact d
 .exact yX ⟨k,F,I⟩
def Bp.cell{w c p a}(h:Bp w c p a){b}(g:b<O w.1)(d:b≠p)(f:a≠E b)(o):c.cell? (J b o)=w.cell? (J b o):=
 yv (w:=w) (h.block b g d (λe=>f e.symm))
def JR(w:JY)(b:Nat)(v:Value)(c:List ByteArray×Int)(x)(d:JY):=
 x=i9 (i5 #[])/\∃a,Hid (Dc d b a c.1 c.2)/\Hid (Bp w d b v.ownBlock)/\Hid (a.ownBlock=v.ownBlock\/∃k,a.ownBlock=E k/\O w.1<=k)
def LH(b v ps last K t w)(h:Dc w b v ps last)(hl:Z ps+2<=200000):Calls Vb 223 #[Qp b,W t,G K] w (JR w b v (ps++((if Dl last K then[blk] else[])++[t]),K)):=by
 obtain⟨i0,o,f,s,C⟩:∃i,prog.info? 9=E i/\i.zero=E (W ⟨#[]⟩)/\i.size=1/\i.bytes=16:=by obtain⟨i,hi,hz⟩:=jx.1 Z7;simp only[Prod.mk.injEq]at hz;exact⟨i,hi,hz.1,hz.2.1,hz.2.2⟩
 have HI:=S o;have HZ:=S (yO f (yO s C));clear o f s C;obtain⟨a,c,rfl⟩:=zS h.row;have HP:=S h;have N:b<O w.1:=jl h.c0;have c0:=h.c0;have c1:=h.c1;have f0:=h.fz 0;clear h;have last2:∀(v1:Value)(ps1:Jv)(w1:JY),Hid (Dc w1 b v1 ps1 last)->Hid (Bp w w1 b (i6 a (Z ps) c).ownBlock)->Hid (v1.ownBlock=(i6 a (Z ps) c).ownBlock\/∃k,v1.ownBlock=E k/\O w.1<=k) ->
   Hid (Dc (w1.setCell (J b 1) (G K)) b v1 ps1 K)/\Hid (Bp w (w1.setCell (J b 1) (G K)) b (i6 a (Z ps) c).ownBlock):=
  λv1 ps1 w1 hp hk ho=>⟨S (hp.last K),S (hk.trans Bp.set (yW F))⟩
 have HL:=S last2;clear last2;obtain⟨ps2,j⟩:∃ps2,Hid (ps++((if Dl last K then[blk] else[])++[t])=ps2):=⟨_,S F⟩;rw[D j];cases hbl:Dl last K
 .have A:=S (by rw[<-D j,hbl];simp:ps2=ps++[t]);clear j;go_enter func223,ntmps223;go_wp2_with fail;go_call TQ last K _ as e w' ⟨rfl,hw'⟩;have u:=hw'.symm;subst u;rw[hbl];go_wp2_with (at_builtin;go_loud (refine yP _ F (.tmp 25) (.tmp 27) 63 F (b+1) 9 i0 _ 1 16 underlying63 HI HZ.1 HZ.2.1 HZ.2.2 F Jd _ (Z ps) (zU ps) F (HP.row.y zC) (J (O w.1) 0) 1 1 (zU [t]) F rfl (Ju (Zu w t)) (ZA _) Jm I Jh ?_));intro v4 w4 q H hb x;have X:zu w4 (b+1) v4 ps2:=by unfold zu;rw[D A,Zi,yr];exact q
  obtain⟨p5,k5⟩:=HP.put H X;have HA:Hid (v4.ownBlock=(i6 a (Z ps) c).ownBlock\/∃k,v4.ownBlock=E k/\O w.1<=k):=x.imp id (λh=>⟨_,h,by first|omega|(simp;omega)⟩);obtain⟨a4,c4,rfl⟩:=zS X;have y:=S p5;have p:=S k5;obtain⟨R,L⟩:=(D HL) _ _ _ y p HA;obtain⟨qe,ge⟩:=HP.keep H;have q0:=(qe 0).trans c0;have q1:=(qe 1).trans c1;have g0:=(ge 0).trans f0;have g1:=(ge 1).trans (HP.fz 1);clear q H hb x X p5 k5 c0 c1 f0 qe ge;go_wp2;go_end0;exact⟨F,_,R,L,HA⟩
 .obtain⟨ps1,V⟩:∃ps1,Hid (ps1=ps++[blk]):=⟨_,S F⟩;have M:Z ps1+1<=200000:=by rw[D V];simp;omega
  have A:=S (by rw[<-D j,D V,hbl];simp:ps2=ps1++[t]);clear j;go_enter func223,ntmps223;go_wp2_with fail;go_call TQ last K _ as e w' ⟨rfl,hw'⟩;have u:=hw'.symm;subst u;rw[hbl];go_wp2_with (at_builtin;refine yP _ F (.tmp 16) (.tmp 17) 63 F (b+1) 9 i0 _ 1 16 underlying63 HI HZ.1 HZ.2.1 HZ.2.2 F Jd _ (Z ps) (zU ps) F (HP.row.y zC) (J (O w.1) 0) 1 1 (zU [⟨#[32]⟩]) F rfl (Ju (Zu w ⟨#[32]⟩)) (ZA _) Jm I Jh ?_);intro v4 w4 q H hb x;have X:zu w4 (b+1) v4 ps1:=by unfold zu;rw[D V,Zi,yr];exact q
  obtain⟨p5,k5⟩:=HP.put H X;have HA:Hid (v4.ownBlock=(i6 a (Z ps) c).ownBlock\/∃k,v4.ownBlock=E k/\O w.1<=k):=x.imp id (λh=>⟨_,h,by first|omega|(simp;omega)⟩);obtain⟨a4,c4,rfl⟩:=zS X;have y:=S p5;have p:=S k5;obtain⟨qe,ge⟩:=HP.keep H;have q0:=(qe 0).trans c0;have q1:=(qe 1).trans c1;have g0:=(ge 0).trans f0;have g1:=(ge 1).trans (HP.fz 1);have d0:=p5.c0;have e0:=p5.fz 0;have z:b<O (w4.setCell (J b 0) (i6 a4 (Z ps1) c4)).1:=jl d0;obtain⟨W4,n⟩:∃W4,Hid (W4=w4.setCell (J b 0) (i6 a4 (Z ps1) c4)):=⟨_,S F⟩;clear q H hb x X p5 k5 c0 c1 f0 qe ge;go_wp2_with (at_builtin;refine yP _ F (.tmp 25) (.tmp 27) 63 F (b+1) 9 i0 _ 1 16 underlying63 HI HZ.1 HZ.2.1 HZ.2.2 F Jd _ (Z ps1) (zU ps1) F (y.row.y zC) (J (O w4.1) 0) 1 1 (zU [t]) F rfl (by simpa[World.setCell] using Zu (w4.setCell (J b 0) (i6 a4 (Z ps1) c4)) t) (ZA _) Jm I (by first|omega|(simp at z ⊢;omega)) ?_);intro v6 w6 ha Q B P;have U:zu w6 (b+1) v6 ps2:=by unfold zu;rw[D A,Zi,yr];exact ha
  obtain⟨p7,k7⟩:=y.put Q U;have g:=S (p.trans k7 HA);have d:=S (p.at HA v6.ownBlock (P.imp id (λh=>⟨_,h,by first|omega|(simp;done)|(simp;omega)⟩)));obtain⟨a6,c6,rfl⟩:=zS U;have m:=S p7;obtain⟨l,T⟩:=(D HL) _ _ _ m g d;obtain⟨qe,ge⟩:=y.keep Q;have r0:=(qe 0).trans d0;have r1:=(qe 1).trans y.c1;have t0:=(ge 0).trans e0;have t1:=(ge 1).trans (y.fz 1);clear ha Q B P U p7 k7 qe ge q0 q1 g0 g1 d0 e0;go_wp2;go_end0;exact⟨F,_,l,T,d⟩
def F0(e a):=(∃T v,e=.iface T v)/\∀(b:Nat)(v:Value)(ps:Jv)(c:Int)(w:JY)(st:List ByteArray×Int),Dc w b v ps c->Z ps+2*Z a<=200000->st=a.foldl AK (ps,c) ->
 Calls Vb 184 #[Qp b,e] w (JR w b v st)
def zL:Value:=b9 #[W ⟨#[]⟩]
def zbH(v):∀w,(Instr.typeAssert (.iface 293 v) 227 293 Vp).run Vb w=.ok (i5 #[v,i7 Vp]) w:=λw=>Jk
def zZe(v):∀w,(Instr.typeAssert (.iface 295 v) 227 295 Vp).run Vb w=.ok (i5 #[v,i7 Vp]) w:=λw=>Jk
def zZf(v):AL 295 v 293 zL:=λw=>Jk
def zbI(v):AL 274 v 293 zL/\AL 274 v 295 zL:=⟨λw=>Jk,λw=>Jk⟩
def zbJ(v):AL 277 v 293 zL/\AL 277 v 295 zL:=⟨λw=>Jk,λw=>Jk⟩
def zZg(v):AL 278 v 293 zL/\AL 278 v 295 zL:=⟨λw=>Jk,λw=>Jk⟩
def zbK(v):AL 270 v 293 zL/\AL 270 v 295 zL/\AL 270 v 274 zP/\AL 270 v 277 zI/\AL 270 v 278 zP:=
 ⟨λw=>Jk,λw=>Jk,λw=>Jk,λw=>Jk,λw=>Jk⟩
def Sz(a x):(AK a x).1.length<=Z a.1+2:=by unfold AK;simp only[yr,yB,je];split<;>simp
theorem Mv:∀(a:List ZJ)(st:List ByteArray×Int),(a.foldl AK st).1.length<=Z st.1+2*Z a
 |[],st=>Js
 |x::b,st=>by have c:=Sz st x;have d:=Mv b (AK st x);simp only[List.foldl_cons,yB]at *;omega
def JR.up(h:Qb w w1){x}(f:JR w1 b v st x w'):JR w b v st x w':=by obtain⟨rfl,g,c,d,e⟩:=f;have:=h.size;exact⟨F,g,c,S (Bp.y h d),S (e.imp id (λ⟨k,a,b⟩=>⟨k,a,I⟩))⟩
def JR.join{a}(c:Bp w w1 b v.ownBlock)(d:a.ownBlock=v.ownBlock\/∃k,a.ownBlock=E k/\O w.1<=k){x}(e:JR w1 b a st x w'):JR w b v st x w':=by obtain⟨rfl,i,f,g,h⟩:=e;exact⟨F,i,f,S (c.trans g d),S (c.at d _ h)⟩
def zbL(t):F0 (IE t) [⟨t,Vt,Vt⟩]:=by refine⟨⟨_,_,F⟩,?_⟩;intro b v ps a w st h e H;have k:=zbH (b9 #[W t]);have d:=S h;have K:Hid (st=(ps++((if Dl a 1 then[blk] else[])++[t]),1)):=H;simp only[yB,je]at e;unfold IE;go_enter func184,ntmps184;go_wp2_with fail;refine(LH b v ps a 1 t _ (d.y zC) I).mono ?_;intro x w1 c;rw[<-D K]at c;obtain⟨rfl,j,f,g,i⟩:=c.up zC;go_wp2;go_end0;exact⟨F,j,f,g,i⟩
def zZh(t):F0 (Iu t) [⟨t,Vt,Vt⟩]:=by refine⟨⟨_,_,F⟩,?_⟩;intro b v ps a w st h e H;have l:=zZe (b9 #[W t]);have f:=zZf (b9 #[W t]);unfold AL zL at f;have d:=S h;have K:Hid (st=(ps++((if Dl a 1 then[blk] else[])++[t]),1)):=H;simp only[yB,je]at e;unfold Iu;go_enter func184,ntmps184;go_wp2_with fail;refine(LH b v ps a 1 t _ (d.y zC) I).mono ?_;intro x w1 c;rw[<-D K]at c;obtain⟨rfl,k,g,i,j⟩:=c.up zC;go_wp2;go_end0;exact⟨F,k,g,i,j⟩
def zbM{e c}(B:F0 e c)(p):F0 (Er p e) (⟨p.s,Vp,Vt⟩::c):=by
 refine⟨⟨_,_,F⟩,?_⟩;intro b v ps g w st h n y;obtain⟨⟨T,u,rfl⟩,K⟩:=B;have V:=aC (b9 #[W p.s,G p.k,G p.l,G p.sd,.iface T u]);have l:=zbI (b9 #[W p.s,G p.k,G p.l,G p.sd,.iface T u]);unfold AL zL at l;obtain⟨l,n2⟩:=l;have A:=S h;have j:b<O w.1:=jl h.c0;have C:v.ownBlock≠E (O w.1):=λe=>Jy ((h.row.lt _ e).2)
 have q:=Mv [⟨p.s,Vp,Vt⟩] (ps,g);obtain⟨f,H⟩:∃f,Hid (f=AK (ps,g) ⟨p.s,Vp,Vt⟩):=⟨_,S F⟩;have Q:Hid (f=(ps++((if Dl g 2 then[blk] else[])++[p.s]),2)):=D H;have d:=S (by rw[y,List.foldl_cons,<-D H]:st=c.foldl AK (f.1,f.2));have X:Z f.1+2*Z c<=200000:=by simp only[List.foldl_cons,List.foldl_nil,yB,je]at n q;rw[<-D H]at q;omega
 simp only[yB]at n;have t:=S K;unfold Er;go_enter func184,ntmps184;go_wp2_with fail;refine(LH b v ps g 2 p.s _ (A.y zC) I).mono ?_;intro x w1 i;rw[<-D Q]at i;obtain⟨rfl,m,L,o,M⟩:=i;have q4:w1.cell? (J (O w.1) 4)=E (.iface T u):=(o.cell (b:=O w.1) Js I C 4).trans Jg;have z:=S (Bp.y zC o);have s:=S (M.imp id (λ⟨k,a,b⟩=>⟨k,a,by simp at b;omega⟩):m.ownBlock=v.ownBlock\/∃k,m.ownBlock=E k/\O w.1<=k);go_wp2_with fail;refine(t b m f.1 f.2 _ st L X d).mono ?_;intro x w2 i;obtain⟨rfl,U,N,P,R⟩:=i.join z s;go_wp2;go_end0;exact⟨F,U,N,P,R⟩
def zZi{e c}(A:F0 e c)(p):F0 (D8 p e) (c++[⟨p.s,Vp,Vt⟩]):=by
 refine⟨⟨_,_,F⟩,?_⟩;intro b v ps g w st h B X;obtain⟨⟨T,u,rfl⟩,K⟩:=A;have n0:=Yp (b9 #[W p.s,G p.k,G p.l,G p.sd,.iface T u]);have j:=zZg (b9 #[W p.s,G p.k,G p.l,G p.sd,.iface T u]);have l:=Yo (b9 #[W p.s,G p.k,G p.l,G p.sd,.iface T u]);unfold AL zL at j;obtain⟨j,n2⟩:=j;obtain⟨_,l,L⟩:=l;unfold AL zP at l;unfold AL zI at L;have z:=S h;have d:b<O w.1:=jl h.c0;have C:v.ownBlock≠E (O w.1):=λe=>Jy ((h.row.lt _ e).2)
 obtain⟨f,H⟩:∃f,Hid (f=c.foldl AK (ps,g)):=⟨_,S F⟩;have q:=Mv c (ps,g);rw[<-D H]at q;have y:=S (by rw[X,List.foldl_append,<-D H];rfl:st=(f.1++((if Dl f.2 2 then[blk] else[])++[p.s]),2));simp only[yr,yB,je]at B q;have Q:Z f.1+2<=200000:=I;have s:=S K;unfold D8;go_enter func184,ntmps184;go_wp2_with fail;refine(s b v ps g _ f (z.y zC) I H).mono ?_;intro x w1 i;obtain⟨rfl,m,M,n,N⟩:=i;have q4:w1.cell? (J (O w.1) 0)=E (W p.s):=(n.cell (b:=O w.1) Js I C 0).trans Jg;have t:=S (Bp.y zC n);have o:=S (N.imp id (λ⟨k,a,b⟩=>⟨k,a,by simp at b;omega⟩):m.ownBlock=v.ownBlock\/∃k,m.ownBlock=E k/\O w.1<=k);go_wp2_with fail;refine(LH b m f.1 f.2 2 p.s _ M Q).mono ?_;intro x w2 i;rw[<-D y]at i;obtain⟨rfl,V,P,R,U⟩:=i.join t o;go_wp2;go_end0;exact⟨F,V,P,R,U⟩
def zbN{e e' g t}(he:F0 e g)(A:F0 e' t)(p):F0 (DS p e e') (g++(⟨p.s,Vp,Vp⟩::t)):=by
 refine⟨⟨_,_,F⟩,?_⟩;intro b v ps n w st h hl B;obtain⟨⟨T,u,rfl⟩,q⟩:=he;obtain⟨⟨s,L,rfl⟩,H⟩:=A;have n0:=aD (b9 #[W p.s,G p.k,G p.l,G p.sd,.iface T u,.iface s L]);have R:=zbJ (b9 #[W p.s,G p.k,G p.l,G p.sd,.iface T u,.iface s L]);have n3:=aA (b9 #[W p.s,G p.k,G p.l,G p.sd,.iface T u,.iface s L]);unfold AL zL at R;obtain⟨R,n2⟩:=R;obtain⟨_,n3⟩:=n3;unfold AL zP at n3;have HP:=S h;have d:b<O w.1:=jl h.c0;have N:v.ownBlock≠E (O w.1):=λe=>Jy ((h.row.lt _ e).2)
 obtain⟨l,K⟩:∃l,Hid (l=g.foldl AK (ps,n)):=⟨_,S F⟩;have y:=Mv g (ps,n);rw[<-D K]at y;obtain⟨m,Q⟩:∃m,Hid (m=AK l ⟨p.s,Vp,Vp⟩):=⟨_,S F⟩;have P:=Sz l ⟨p.s,Vp,Vp⟩;rw[<-D Q]at P;have X:Hid (m=(l.1++((if Dl l.2 3 then[blk] else[])++[p.s]),3)):=D Q;have c:=S (by rw[B,List.foldl_append,<-D K,List.foldl_cons,<-D Q]:st=t.foldl AK (m.1,m.2));simp only[yr,yB,je]at hl y;have f:Z l.1+2<=200000:=I;have C:Z m.1+2*Z t<=200000:=I;have HC:=S q;have i:=S H;unfold DS;go_enter func184,ntmps184;go_wp2_with fail;refine(HC b v ps n _ l (HP.y zC) I K).mono ?_;intro x w1 o;obtain⟨rfl,M,p1,z,p3⟩:=o;have q0:w1.cell? (J (O w.1) 0)=E (W p.s):=(z.cell (b:=O w.1) Js I N 0).trans Jg;have q5:w1.cell? (J (O w.1) 5)=E (.iface s L):=(z.cell (b:=O w.1) Js I N 5).trans Jg;have HK:=S (Bp.y zC z);have hz:O w.1<O w1.1:=Jz z.size
 have U:M.ownBlock≠E (O w.1):=λe=>by
  rcases D p3 with h|⟨k,h1,h2⟩
  .exact N (h.symm.trans e)
  .rw[h1]at e;injection e with e;simp at h2;omega
 have HA:=S (p3.imp id (λ⟨k,a,b⟩=>⟨k,a,by simp at b;omega⟩):M.ownBlock=v.ownBlock\/∃k,M.ownBlock=E k/\O w.1<=k);go_wp2_with fail;refine(LH b M l.1 l.2 3 p.s _ p1 f).mono ?_;intro x w2 o;rw[<-D X]at o;obtain⟨rfl,v2,r1,r2,r3⟩:=o;have s5:=(r2.cell (b:=O w.1) hz I U 5).trans q5;have j:=S (HK.trans r2 HA);have V:=S (HK.at HA _ r3);go_wp2_with fail;refine(i b v2 m.1 m.2 _ st r1 C c).mono ?_;intro x w3 o;obtain⟨rfl,v3,t1,t2,t3⟩:=o.join j V;go_wp2;go_end0;exact⟨F,v3,t1,t2,t3⟩
def zbO{e d}(C:F0 e d):F0 (EK e) (⟨opn,Vt,Vt⟩::(d++[⟨Bs,Vt,Vt⟩])):=by
 refine⟨⟨_,_,F⟩,?_⟩;intro b v ps l w st h L p;obtain⟨⟨T,u,rfl⟩,K⟩:=C;have n0:=aB (b9 #[.iface T u]);have n:=zbK (b9 #[.iface T u]);obtain⟨n,N,R,n4,n5⟩:=n;unfold AL zL at n N;unfold AL zP at R n5;unfold AL zI at n4;have B:=S h;have U:b<O w.1:=jl h.c0;have M:v.ownBlock≠E (O w.1):=λe=>Jy ((h.row.lt _ e).2)
 obtain⟨g,H⟩:∃g,Hid (g=AK (ps,l) ⟨opn,Vt,Vt⟩):=⟨_,S F⟩;have Q:=Sz (ps,l) ⟨opn,Vt,Vt⟩;rw[<-D H]at Q;have y:Hid (g=(ps++((if Dl l 1 then[blk] else[])++[⟨#[40]⟩]),1)):=D H;obtain⟨i,q⟩:∃i,Hid (i=d.foldl AK (g.1,g.2)):=⟨_,S F⟩;have X:=Mv d (g.1,g.2);rw[<-D q]at X;have P:=S (show st=(i.1++((if Dl i.2 1 then[blk] else[])++[⟨#[41]⟩]),1) by
  rw[p,List.foldl_cons,<-D H,List.foldl_append]
  show List.foldl AK (List.foldl AK (g.1,g.2) d) _=_
  rw[<-D q]
  rfl)
 simp only[yr,yB,je]at L Q X;have j:Z g.1+2*Z d<=200000:=I;have V:Z i.1+2<=200000:=I;have A:=S K;unfold EK;go_enter func184,ntmps184;go_wp2_with fail;refine(LH b v ps l 1 ⟨#[40]⟩ _ (B.y zC) I).mono ?_;intro x w1 m;rw[<-D y]at m;obtain⟨rfl,o,p1,z,p3⟩:=m;have q4:w1.cell? (J (O w.1) 0)=E (.iface T u):=(z.cell (b:=O w.1) Js I M 0).trans Jg;have t:=S (Bp.y zC z);have s:=S (p3.imp id (λ⟨k,a,b⟩=>⟨k,a,by simp at b;omega⟩):o.ownBlock=v.ownBlock\/∃k,o.ownBlock=E k/\O w.1<=k);go_wp2_with fail;refine(A b o g.1 g.2 _ i p1 j q).mono ?_;intro x w2 m;obtain⟨rfl,v2,r1,r2,r3⟩:=m;have f:=S (t.trans r2 s);have c:=S (t.at s _ r3);go_wp2_with fail;refine(LH b v2 i.1 i.2 1 ⟨#[41]⟩ _ r1 V).mono ?_;intro x w3 m;rw[<-D P]at m;obtain⟨rfl,v3,t1,t2,t3⟩:=m.join f c;go_wp2;go_end0;exact⟨F,v3,t1,t2,t3⟩
def zZj(d):∀T:ET,Dn d T->F0 (Bm d T) (yT T):=by
 intro T;induction T with
 |nil=>intro h;exact h.elim
 |node b o t l a ihl ihr=>
  rintro⟨rfl,h⟩;rcases h with⟨h|h,rfl,rfl⟩|⟨rfl,rfl,c,rfl⟩|⟨h|h,f,c,rfl⟩|⟨rfl,f,c,g⟩
  .subst h;exact zbL t
  .subst h;exact zZh t
  .have e:yT (.node 6 0 j6 l .nil)=⟨opn,Vt,Vt⟩::(yT l++[⟨Bs,Vt,Vt⟩]):=by simp[yT,Ak,wS]
   rw[e];exact zbO (ihl c)
  .subst h;have e:yT (.node 3 0 t l .nil)=⟨(Al d (rt 3 t)).s,Vp,Vt⟩::yT l:=by rw[N1 f];simp[yT,Ak,wS]
   rw[e];exact zbM (ihl c) _
  .subst h;have e:yT (.node 5 0 t l .nil)=yT l++[⟨(Al d (rt 5 t)).s,Vp,Vt⟩]:=by rw[N1 f];simp[yT,Ak,wS]
   rw[e];exact zZi (ihl c) _
  .have e:yT (.node 4 0 t l a)=yT l++(⟨(Al d (rt 4 t)).s,Vp,Vp⟩::yT a):=by rw[N1 f];simp[yT,Ak,wS]
   rw[e];exact zbN (ihl c) (ihr g) _
def Wt{k}:(BN k != 0)=decide (3<=k/\k<=5):=by
 unfold BN;split
 .rename_i h;simp[h];omega
 .rename_i h;simp;omega
def fM(s t C K N o m w)(g:Z m<=1048576)(z:AH w s t o (Z o))(hc:zM o 0)(a:Bg o (Z o))(c:Z2 w C K m)(B:C5 m)(U:C<O w.1):Calls Vb 241 #[b9 #[.map (E s),.map (E t)],b9 #[Je C K (Z m) N]] w λe w'=>Bj e (DM o m)/\Qb w w':=by
 have HI:=S z;have A:=S (show Cs [(O w.1,0,.map (E s)),(O w.1,1,.map (E t))] ((w.alloc (JM #[.map (E s),.map (E t)] 173)).alloc (JM #[Je C K (Z m) N] 40)) from λp M=>by
  simp only[jH,List.not_mem_nil,or_false]at M
  rcases M with rfl|rfl
  .simp[go_sem]
  .simp[go_sem])
 have V:Qb w ((w.alloc (JM #[.map (E s),.map (E t)] 173)).alloc (JM #[Je C K (Z m) N] 40)):=(zC).alloc Js _;go_enter func241,ntmps241;go_wp2;go_loopw [12] (λR wr=>∃k:Nat,k<=Z m/\R=G k/\Hid (∀i,i<k->Zx (Y m i)->Ax o (Y m i).t ((Y m i).k-2)≠JL)/\Hid (Cs [(O w.1,0,.map (E s)),(O w.1,1,.map (E t))] wr)/\Qb w wr) (λR _=>Z m-(intOf R).toNat);case atStart=>exact⟨0,yn,F,S (λi z=>yV z (yz i)),A,V⟩
 case round=>
  obtain⟨k,hk,rfl,l,y,q⟩:=hrel;have c0:=(D y) (O w.1,0,.map (E s)) Js;have c1:=(D y) (O w.1,1,.map (E t)) Js;simp only at c0 c1;by_cases P:k<Z m
  .have f:(k:Int)<Z m:=I;obtain⟨a0,a1,a2,a3⟩:=((c) k P).y q U;have d:=S (y.y (@zC wr (JM #[G (Y m k).k,W (Y m k).t,G (Y m k).a,G (Y m k).b] 108)));have d0:=(D d) (O w.1,0,.map (E s)) Js;have d1:=(D d) (O w.1,1,.map (E t)) Js;simp only at d0 d1;have H:Qb w (wr.alloc (JM #[G (Y m k).k,W (Y m k).t,G (Y m k).a,G (Y m k).b] 108)):=q.alloc q.size _;go_wp2_with fail;go_call PL s t o (Y m k) _ (HI.kept H) hc a (B k P) as e L ⟨⟨p,v,rfl,M⟩,n⟩;have T:=S M;have u:=S ((d.y n).y (@zC L (JM #[W p.s,G p.k,G p.l,G p.sd] 25)));have n0:L.cell? (J (O wr.1) 0)=E (G (Y m k).k):=Jc n Jh Jg;have z3:O wr.1<O L.1:=Jz n.size
   have n0':(L.alloc (JM #[W p.s,G p.k,G p.l,G p.sd] 25)).cell? (J (O wr.1) 0)=E (G (Y m k).k):=Jc zC z3 n0;have x:Qb w (L.alloc (JM #[W p.s,G p.k,G p.l,G p.sd] 25)):=(H.trans (n.mono H.size)).alloc (H.trans (n.mono H.size)).size _;cases v
   .by_cases ho:Zx (Y m k)
    .have HF:=S (show Ax o (Y m k).t ((Y m k).k-2)=JL by
      rcases D T with⟨j,_,_,h,_⟩|⟨h,_⟩
      .cases h
      .exact h ho)
     have X:=S ho;have hz:(BN (Y m k).k != 0)=Vp:=by rw[Wt];exact decide_eq_true ho
     go_wp2_with (go_at_call 186;refine(Mj _ _).mono ?_;rintro e w' ⟨rfl,hx⟩;obtain rfl:=hx.symm);go_ret;exact⟨⟨_,F,zT (λh=>h k P X HF)⟩,x⟩
    .have X:=S ho;have hz:(BN (Y m k).k != 0)=Vt:=by rw[Wt];exact decide_eq_false ho
     go_wp2_with (go_at_call 186;refine(Mj _ _).mono ?_;rintro e w' ⟨rfl,hx⟩;obtain rfl:=hx.symm);refine⟨⟨k+1,I,Jn,S (λi z Q=>?_),u,x⟩,Ji⟩;by_cases e:i=k
     .subst e;exact yV Q X
     .exact l i I Q
   .have HF:=S (show Ax o (Y m k).t ((Y m k).k-2)≠JL by
     rcases D T with⟨j,_,h,_,_⟩|⟨_,h⟩
     .rw[h];simp
     .cases h)
    go_wp2;refine⟨⟨k+1,I,Jn,S (λi z Q=>?_),u,x⟩,Ji⟩;by_cases e:i=k
    .subst e;exact HF
    .exact l i I Q
  .have b:k=Z m:=I;go_wp2;go_ret;exact⟨⟨_,F,Zt (λi z Q=>l i I Q)⟩,q⟩
def dI(i k d K l f b w)(a:Z b<=1048576)(t:AH w i k f (Z f))(s:zM f 0)(V:Bg f (Z f))(j:Z2 w d K b)(P:C5 b)(Q:d<O w.1):Calls Vb 220 #[b9 #[.map (E i),.map (E k)],b9 #[Je d K (Z b) l]] w λe w'=>Bj e (Zk b/\DM f b)/\Qb w w':=by
 have q:Qb w ((w.alloc (JM #[.map (E i),.map (E k)] 173)).alloc (JM #[Je d K (Z b) l] 40)):=(zC).alloc Js _;go_enter func220,ntmps220;go_wp2_with fail;go_call UI d K l b _ a (j.y q Q) P (ym Q q.size) as e w2 ⟨⟨v,rfl,n⟩,c⟩;have g:=S n;have H:=q.trans (c.mono q.size);have u:w2.cell? (J (O w.1+1) 0)=E (Je d K (Z b) l):=(c.cell (p:=(J (O w.1+1) 0)) Js).trans Jg;have y:w2.cell? (J (O w.1) 0)=E (.map (E i)):=Jc c Jh Jg;have z:w2.cell? (J (O w.1) 1)=E (.map (E k)):=Jc c Jh Jg;cases v
 .go_wp2;go_ret;exact⟨⟨_,F,zT (λh=>jq (g.2 h.1))⟩,H⟩
 have o:=S (g.1 F);go_wp2_with fail;go_call fM i k d K l f b _ a (t.kept H) s V (j.y H Q) P (ym Q H.size) as e A ⟨⟨v,rfl,n⟩,m⟩;have g:=S n;have x:=H.trans (m.mono H.size);cases v
 .go_wp2;go_ret;exact⟨⟨_,F,zT (λh=>jq (g.2 h.2))⟩,x⟩
 .go_wp2;go_ret;exact⟨⟨_,F,Zt ⟨o,g.1 F⟩⟩,x⟩
def BG(o b:Ad):Value:=b9 #[W o.s,G o.k,G o.l,G o.sd,W b.s,G b.k,G b.l,G b.sd]
def uD{t}:t=j6↔t.toList.isEmpty=Vp:=by
 have e:j6.toList=[]:=by simp[ByteArray.toList,ByteArray.toList.loop]
 rw[List.isEmpty_iff];exact⟨λh=>by rw[h,e],λh=>Zd (h.trans e.symm)⟩
def jY(q w):Calls Vb 67 #[Bt q] w λe w'=>(∃v,e=i9 (i7 v)/\(v=Vp↔BJ q))/\Qb w w':=by
 unfold Bt;by_cases a:q.k=1
 .have g1:(q.k==1)=Vp:=by simp[a]
  cases c:q.l==0
  .have HF:=S (by simp at c;simp[BJ,a,c]:BJ q↔Vt=Vp);go_enter func67,ntmps67;go_wp2;go_ret;exact⟨⟨_,F,HF.symm⟩,zC⟩
  .have HF:=S (by simp at c;simp[BJ,a,c]:BJ q↔(q.sd==0)=Vp);go_enter func67,ntmps67;go_wp2;go_ret;exact⟨⟨_,F,HF.symm⟩,zC⟩
 .have g1:(q.k==1)=Vt:=by simp[a]
  cases b:q.k==2
  .have HF:=S (by simp[BJ,a];simp at b;simp[b]:BJ q↔Vt=Vp);go_enter func67,ntmps67;go_wp2;go_ret;exact⟨⟨_,F,HF.symm⟩,zC⟩
  .have HF:=S (by simp at b;rw[<-uD];simp[BJ,a,b]:BJ q↔q.t.toList.isEmpty=Vp);go_enter func67,ntmps67;go_wp2;go_ret;exact⟨⟨_,F,HF.symm⟩,zC⟩
def VF(q w):Calls Vb 41 #[Bt q] w λe w'=>e=i9 (BG q.o (ZU q))/\Qb w w':=by
 unfold Bt BG;by_cases a:q.k=1
 .have g1:(q.k==1)=Vp:=by simp[a]
  have b:Hid (ZU q=⟨q.t,q.o.k,q.o.l,q.o.sd⟩):=yU a;go_enter func41,ntmps41;go_wp2;refine yQ (v:=b9 #[W q.o.s,G q.o.k,G q.o.l,G q.o.sd,W q.t,G q.o.k,G q.o.l,G q.o.sd]) ?res F ⟨by rw[D b],?_⟩;case res=>simp[results,results41,go_sem]
  .exact((zC).alloc Js _).alloc Jq _
 .have g1:(q.k==1)=Vt:=by simp[a]
  have b:Hid (ZU q=⟨q.o.s,q.o.k,q.l,q.sd⟩):=yS a;go_enter func41,ntmps41;go_wp2;go_region;all_goals
   go_wp2
   refine yQ (v:=b9 #[W q.o.s,G q.o.k,G q.o.l,G q.o.sd,W q.o.s,G q.o.k,G q.l,G q.sd]) ?res F ⟨by rw[D b],?_⟩
   case res=>simp[results,results41,go_sem]
   .exact(((zC).alloc Js _).alloc Jq _).drew
def pZ(t d o w)(R:Z d<=1048576)(h:ZX w t d):Calls Vb 170 #[t,AJ o] w λe w'=>(∃n:Int,e=i9 (G n)/\(decide (0<=n)=Bh o d))/\Qb w w':=by
 obtain⟨a,c,rfl,h⟩:=h;have s:=S h;unfold AJ;obtain⟨b,l⟩:=Jx (w.alloc (JM #[W o.s,G o.k,G o.l,G o.sd] 25));have Q:=S (by rw[l];exact zC:Qb w b);have p:=S (by rw[l];exact⟨Jg,Jg,Jg,Jg⟩:A4 b (O w.1) o);go_enter func170,ntmps170;go_wp2;rw[<-l];go_loopw [8] (λi wr=>∃n:Nat,n<=Z d/\i=G n/\Hid (∀j,j<n->o≠r d j)/\Hid (Below (O w.1+1) b wr)) (λi _=>Z d-(intOf i).toNat);case atStart=>exact⟨0,yn,F,S (λj h=>I),S yN⟩
 case round=>
  obtain⟨n,T,rfl,q,k⟩:=hrel;have H:=S (Q.trans (k.mono I));by_cases K:n<Z d
  .have x:(n:Int)<Z d:=I;obtain⟨g,rfl,B,C⟩:=s.elim (λh=>I) id;obtain⟨u,v,y,z⟩:=(C n K).y H B;simp only[jd]at u v y z;obtain⟨L,M,N,P⟩:=p.below4 k I;have U:=λb=>I2 o (r d n) b
   have X:=JJ;go_wp2_with fail;go_quiet (fail);cases f:ZH o (r d n)
   .have HN:=S (show ∀j,j<n+1->o≠r d j from λj m e=>by
     by_cases A:j=n
     .subst A;rw[zZ.2 e]at f;cases f
     .exact q j I e)
    go_wp2;exact⟨⟨n+1,I,Jn,HN,S (below_drewN k _)⟩,Ji⟩
   .have HE:=S (show decide ((0:Int)<=n)=Bh o d by rw[Zz.2 (by rw[zZ.1 f];exact PS K)];simp)
    go_wp2;go_ret;exact⟨⟨_,F,HE⟩,below_drewN H _⟩
  .have HE:=S (show decide ((0:Int) <= -1)=Bh o d by
    cases h:Bh o d
    .rfl
    .obtain⟨j,m,e⟩:=List.mem_iff_getElem.1 (Zz.1 h)
     exact yV (by simpa[r,yq,m] using e.symm) (q j I))
   go_wp2;go_ret;exact⟨⟨_,F,HE⟩,H⟩
def Us(t f o w)(l:Z f<=1048576)(h:ZX w t f):Calls Vb 121 #[t,AJ o] w λe w'=>e=i9 (i7 (Bh o f))/\Qb w w':=by have g:=S (λb (d:Qb w b)=>pZ t f o b l (h.y d));obtain⟨a,c,rfl,_⟩:=h;unfold AJ at g ⊢;go_enter func121,ntmps121;go_wp2_with fail;go_call (D g) _ zC as e w1 ⟨⟨n,rfl,i⟩,d⟩;have k:=S i;have j:=S ((@zC w _).trans (d.mono Js));clear i d;go_wp2;go_ret;exact⟨zv k,j⟩
def US(t f o b w)(k:Z f<=1048576)(h:ZX w t f):Calls Vb 73 #[BG o b,b9 #[t]] w λe w'=>e=i9 (i7 (Bh o f))/\Qb w w':=by have i:=S (λd (g:Qb w d)=>Us t f o d k (h.y g));obtain⟨a,c,rfl,_⟩:=h;unfold AJ at i;unfold BG;go_enter func73,ntmps73;go_wp2_with fail;go_call (D i) _ ((zC).alloc Js _) as e w1 ⟨rfl,g⟩;have j:=S (((@zC w _).alloc Js _).trans (g.mono Jq));go_wp2;go_ret;exact⟨F,j⟩
def IB(o:Ad)(a:JE):Bool:=a.any (Bh o)
def jZ(v f o w)(U:Z f<=100)(hT:FL w v f)(T:∀i,i<Z f->Z (zy f i)<=1048576):Calls Vb 71 #[v,AJ o] w λe w'=>e=i9 (i7 (IB o f))/\Qb w w':=by
 have p:=S (λb (s:Qb w b) t i (R:i<Z f) h=>Us t (zy f i) o b (T i R) h);have C:=S (λb (s:Qb w b)=>hT.y s);obtain⟨a,c,rfl,_⟩:=hT;unfold AJ at p ⊢;obtain⟨b,l⟩:=Jx (w.alloc (JM #[W o.s,G o.k,G o.l,G o.sd] 25));have Q:=S (by rw[l];exact zC:Qb w b);have B:=S (by rw[l];exact⟨Jg,Jg,Jg,Jg⟩:A4 b (O w.1) o);have L:=S (by rw[l];simp:O b.1=O w.1+1);go_enter func71,ntmps71;go_wp2_with fail;rw[<-l];go_loopw [9] (λi wr=>∃n:Nat,n<=Z f/\i=G n/\Hid (∀j,j<n->Bh o (zy f j)=Vt)/\Hid (Below (O w.1+1) b wr)) (λi _=>Z f-(intOf i).toNat);case atStart=>exact⟨0,yn,F,S (λj h=>I),S yN⟩
 case round=>
  obtain⟨n,U,rfl,X,k⟩:=hrel;have H:=S (Q.trans (k.mono I));by_cases K:n<Z f
  .have d:(n:Int)<Z f:=I;obtain⟨a',c',e,h⟩:=(D C) wr H;obtain⟨rfl,_,rfl⟩:=Value.slice.inj e;obtain⟨g,rfl,hg,P⟩:=h.resolve_left I;obtain⟨t,c0,q⟩:=P n K;obtain⟨c1,c2,c3,c4⟩:=B.below4 k I;have A:=S (p (wr.alloc (JM #[t] 45)) (H.trans ((zC).mono H.size)) t n K (q.y zC));obtain⟨M,ct,rfl,_⟩:=q;have zr:O w.1<O wr.1:=by have:=k.size;have:=D L;omega
   go_wp2_with fail;go_call D A as e V ⟨rfl,m⟩;have y:Hid (Below (O w.1+1) b V):=k.trans (((zC).mono I).trans (m.mono Jq));cases z:Bh o (zy f n)
   .have HN:=S (show ∀j,j<n+1->Bh o (zy f j)=Vt from λj u=>by
     by_cases N:j=n
     .subst N;exact z
     .exact X j I)
    go_wp2;exact⟨⟨n+1,I,Jn,HN,y⟩,Ji⟩
   .have HE:=S (show Vp=IB o f by
     symm;rw[IB,List.any_eq_true]
     exact⟨zy f n,by simp[zy,K],z⟩)
    go_wp2;go_ret;exact⟨zv HE,Q.trans (y.mono I)⟩
  .have HE:=S (show Vt=IB o f by
    symm;rw[IB,List.any_eq_false]
    intro x hx
    obtain⟨j,u,rfl⟩:=List.mem_iff_getElem.1 hx
    have:=(D X) j I
    simpa[zy,u] using this)
   go_wp2;go_ret;exact⟨zv HE,H⟩
