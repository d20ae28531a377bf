import Derived.Test.YtdgcbenningkdaaGreatDoorV02
import Derived.Test.YtdgcbenningkdaaGreatDoorV03
namespace Go.Proofs.YtdgcbenningkdaaGreatDoor
set_option linter.all false
set_option maxHeartbeats 0
set_option maxRecDepth 100000
open Proofs.Tryz RowKit Maps
variable{L b bo bs cap gap off p:Nat}{acc:List zR}{bh:Bool}{s:ByteArray}{v:Value}{w w' w1 w2 wr:World}{xs:List Ad}
open _root_.Array renaming size→O
open List renaming length→Z
open Option renaming some→E,none→JL
open Obj renaming cells→JM
open Bool renaming false→Vt,true→Vp
open Proofs.Tryz renaming prog→Vb
open Value renaming agg→b9,tuple→i5,bool→i7,ownBlock→i8
open Ending renaming returned→i9
structure Lp(w:JY)(b a c:Nat)(d:Jf)(n1:Nat)(wr:JY):Prop where
 box:wr.cell? (J (O w.1) 0)=E (Je b a (Z d) c)
 r0:wr.cell? (J (O w.1+1) 0)=E (.map JL)
 r1:wr.cell? (J (O w.1+1) 1)=E (.map JL)
 f0:wr.frozen? (J (O w.1+1) 0)=Vt
 f1:wr.frozen? (J (O w.1+1) 1)=Vt
 x0:wr.cell? (J (n1+1+1) 0)=E (.map (E n1))
 x1:wr.cell? (J (n1+1+1) 1)=E (.map (E (n1+1)))
 ops:Au wr b a d
 bel:Qb w wr
 lt:n1+1+1<O wr.1
 ord:O w.1+1<n1
def BV.frozen{w d a c}(h:BV w d a c){b}(g:b<O w.1)(e:b≠a)(f:b≠c)(o):d.frozen? (J b o)=w.frozen? (J b o):=
 yG (w:=w) (h.block b g e f)
def Lp.step{j k}(h:Lp w b off cap xs j wr)(g:BV wr k j (j+1))(q:b<O w.1):Lp w b off cap xs j k:=by have K:=h.lt;have H:=h.ord;have a:=g.cell (b:=O w.1) I I I;have c:=g.cell (b:=O w.1+1) I I I;have d:=g.cell (b:=j+1+1) I I I;have e:=g.cell (b:=b) I I I;have f:=g.frozen (b:=O w.1+1) I I I;refine⟨(a _).trans h.box,(c _).trans h.r0,(c _).trans h.r1,(f _).trans h.f0,(f _).trans h.f1,(d _).trans h.x0,(d _).trans h.x1,λi l=>?_,h.bel.trans (g.y I I I),ym K g.size,H⟩;obtain⟨m,n,o,p⟩:=h.ops i l;exact⟨(e _).trans m,(e _).trans n,(e _).trans o,(e _).trans p⟩
def Lp.y{c a}(h:Lp w b off cap xs c wr)(e:Qb wr a)(d:b<O w.1):Lp w b off cap xs c a:=
 h.step (BV.Q e) d
def AH.set{k o}(h:AH w bo bs xs k)(n:bo≠b)(p:bs≠b):AH (w.setCell (J b o) v) bo bs xs k:=by obtain⟨⟨a,f,g⟩,⟨c,j,l⟩,m⟩:=h;have d:w.grownBy (w.setCell (J b o) v) (E b):=⟨F,F,F,Jt,λi _ q=>jh _ _ _ _ (λe=>q (by rw[e]))⟩;exact⟨⟨a,f.kept d (λe=>n (jz e)),g⟩,⟨c,j.kept d (λe=>p (jz e)),l⟩,m⟩
def AH.start(w:JY)(c o):AH (((w.alloc (.map #[] 0)).alloc (.map #[] 0)).alloc o) (O w.1) (O w.1+1) c 0:=by
 have b:=World.ownsMap_made (H:=Unit) w Vb 221 CL;have a:=World.ownsMap_made (H:=Unit) (w.alloc (.map #[] 0)) Vb 3 (plainElem Vb 3);have e:O (w.alloc (.map #[] 0)).1=O w.1+1:=Js;rw[e]at a;refine⟨⟨_,(b.alloc _).alloc _,λs d _ _=>?_⟩,⟨_,a.alloc _,λl _=>?_⟩,I⟩
 .simp[Maps.has]
 .simp[Maps.has]
def O6{o}(h:b<O w1.1)(a c d):(((w1.alloc a).alloc c).alloc d).cell? (J b o)=w1.cell? (J b o):=
 (((@zC _ a).alloc Js c).alloc Jq d).cell (p:=J b o) h
def Ue{o}(h:b<O w1.1)(a c d):(((w1.alloc a).alloc c).alloc d).frozen? (J b o)=w1.frozen? (J b o):=
 (((@zC _ a).alloc Js c).alloc Jq d).frozen (p:=J b o) h
def Lp.start(d:Au w b off xs)(c:b<O w.1)(t a t3)(K:Below (O ((w.alloc (JM #[Je b off (Z xs) cap] t)).alloc (JM #[.map JL,.map JL] a)).1) ((w.alloc (JM #[Je b off (Z xs) cap] t)).alloc (JM #[.map JL,.map JL] a)) w1):Lp w b off cap xs (O w1.1) (((w1.alloc (.map #[] 0)).alloc (.map #[] 0)).alloc (JM #[.map (E (O w1.1)),.map (E (O w1.1+1))] t3)):=by
 obtain⟨H,q⟩:=JT K;have Q:O w.1+1<O w1.1:=Jz K.size
 have h:Qb w w1:=((zC).alloc Js _).trans (K.mono Jq);refine⟨?_,?_,?_,?_,?_,?_,?_,?_,?_,?_,Q⟩
 .rw[O6 (by omega),H _ _ (by simp;omega)];simp[go_sem]
 .rw[O6 (by omega),H _ _ (by simp)];simp[go_sem]
 .rw[O6 (by omega),H _ _ (by simp)];simp[go_sem]
 .rw[Ue (by omega),q _ _ (by simp)];simp[go_sem]
 .rw[Ue (by omega),q _ _ (by simp)];simp[go_sem]
 .simp[go_sem]
 .simp[go_sem]
 .exact(d.y h c).y (((zC).alloc Js _).alloc Jq _) I
 .exact((h.alloc I _).alloc Jq _).alloc Jq _
 .simp
def eQ{o:Ad}{t}(a:Below (O (wr.alloc (JM #[W o.s,G o.k,G o.l,G o.sd] t)).1) (wr.alloc (JM #[W o.s,G o.k,G o.l,G o.sd] t)) w2):w2.cell? (J (O wr.1) 0)=E (W o.s)/\w2.cell? (J (O wr.1) 1)=E (G o.k)/\w2.cell? (J (O wr.1) 2)=E (G o.l)/\w2.cell? (J (O wr.1) 3)=E (G o.sd):=by obtain⟨b,_⟩:=JT a;refine⟨?_,?_,?_,?_⟩<;>(rw[b _ _ (by simp)];simp[go_sem])
def eS{a n}{o:Ad}(g:Qb w2 a)(h:n<O w2.1)(b:w2.cell? (J n 0)=E (W o.s))(c:w2.cell? (J n 1)=E (G o.k))(d:w2.cell? (J n 2)=E (G o.l))(f:w2.cell? (J n 3)=E (G o.sd)):a.cell? (J n 0)=E (W o.s)/\a.cell? (J n 1)=E (G o.k)/\a.cell? (J n 2)=E (G o.l)/\a.cell? (J n 3)=E (G o.sd):=by
 have e:=λq=>g.cell (p:=J n q) h
 exact⟨(e _).trans b,(e _).trans c,(e _).trans d,(e _).trans f⟩
def QW(b off cap xs w)(hm:Z xs<=1048576)(hw:Au w b off xs)(hs:ZO xs)(hB:b<O w.1):Calls Vb 111 #[b9 #[Je b off (Z xs) cap]] w λe w'=>(∃(x y:Option Nat)(c:Int),e=i9 (i5 #[b9 #[.map x,.map y],G c])/\zM xs c/\(c=0->∃bo bs,x=E bo/\y=E bs/\AH w' bo bs xs (Z xs)))/\Qb w w':=by
 have o:=@run_makeMap Vb;by_cases l:500<Z xs
 .go_enter func111,ntmps111;go_wp2;exact yQ (v:=i5 #[b9 #[.map JL,.map JL],G 1]) (by simp[results,results111,go_sem]) F ⟨⟨JL,JL,1,F,yW ⟨F,l⟩,λh=>yV h Jd⟩,(zC).alloc Js _⟩
 have H:Z xs<=500:=I;go_enter func111,ntmps111;go_wp2_with fail;go_call oJ b off cap xs _ hm ((hw.y zC hB).y zC Jq) hs Jq as e w1 ⟨⟨v,rfl,hv⟩,hb1⟩;have HV:=S hv;clear hv;obtain⟨U,z⟩:=JT hb1;have ha:O w.1+1<O w1.1:=Jz hb1.size
 have t:Qb w w1:=((zC).alloc Js _).trans (hb1.mono Jq);cases v
 .go_wp2_with fail;refine yQ (v:=i5 #[b9 #[.map JL,.map JL],G 2]) (by simp[results,results111,go_sem,U]) F ⟨⟨JL,JL,2,F,yX ⟨H,yW ⟨F,λh=>?_⟩⟩,λh=>yV h Jd⟩,(t.setCell Js _).setCell Js _⟩;exact jq (HV.2 h)
 .have X:=HV.1 F;have hL:=S (Lp.start (t3:=173) hw hB _ _ hb1);have hI:=S (AH.start w1 xs (JM #[.map (E (O w1.1)),.map (E (O w1.1+1))] 173));have s:∀o1 o2 o3,(((w1.alloc o1).alloc o2).alloc o3).cell? (J (O w.1) 0)=E (Je b off (Z xs) cap):=λo1 o2 o3=>by rw[O6 (by omega),U _ _ (by simp;omega)];simp[go_sem]
  clear HV U z hb1;go_wp2_with fail;clear s;go_loopw [24,5] (λi mx wr=>∃(k:Nat)(m:Bool),k<=Z xs/\i=G k/\mx=i7 m/\Hid (IC 3 xs k/\(m=Vp↔¬ IC 4 xs k))/\Hid (AH wr (O w1.1) (O w1.1+1) xs k)/\Hid (Lp w b off cap xs (O w1.1) wr)) (λi _ _=>Z xs-(intOf i).toNat);case atStart=>exact⟨0,Vt,yn,F,F,S ⟨λi j _ h=>I,⟨λh=>(by cases h),λh=>yV (λi j _ h=>I) h⟩⟩,hI,hL⟩
  case round=>
   clear hI hL;obtain⟨k,m,hk,rfl,rfl,q,hI,hL⟩:=hrel;by_cases p:k<Z xs
   .have HO:Hid (Bg xs (k+1)):=λj hj=>X j I
    obtain⟨a0,a1,a2,a3⟩:=hL.ops k p;have x0:=hL.x0;have x1:=hL.x1;have xlt:=hL.lt;have B:=S (hI.kept (@zC wr (JM #[W (r xs k).s,G (r xs k).k,G (r xs k).l,G (r xs k).sd] 25)));have f:=S (hL.y (@zC wr (JM #[W (r xs k).s,G (r xs k).k,G (r xs k).l,G (r xs k).sd] 25)) hB);clear hI hL;go_wp2_with fail;go_call fT _ _ _ _ _ B HO (hs k p) as e w2 ⟨⟨v,rfl,hv⟩,hb2⟩;have HV:=S hv;clear hv;have K:=f.y hb2 hB;have u:=S (B.kept hb2);have y0:=K.x0;have y1:=K.x1;have r0:=K.r0;have r1:=K.r1;have f0:=K.f0;have f1:=K.f1;have Q:=K.bel;have ylt:O wr.1<O w2.1:=Jz hb2.size
    obtain⟨o0,o1,o2,o3⟩:=eQ hb2;have d:=S K;clear K B f hb2 a0 a1 a2 a3 x0 x1 xlt;cases v
    .have T:=S (RK q.1 (λj hj hc=>jq (HV.2 ⟨j,hj,hc⟩)));cases m
     .have hb:=Classical.byContradiction λx=>jq (q.2.2 x)
      have P:=S hb;clear hb HV q;go_wp2_with fail;go_call fU _ _ _ _ _ u HO P as e w3 ⟨⟨v',rfl,hv'⟩,hb3⟩;have L:=S hv';clear hv';have V:=d.y hb3 hB;have g:=S (u.kept hb3);have z0:=V.x0;have z1:=V.x1;have zlt:=ym ylt hb3.size;obtain⟨p0,p1,p2,p3⟩:=eS hb3 ylt o0 o1 o2 o3;have M:=S V;clear V u d hb3 y0 y1 r0 r1 f0 f1 o0 o1 o2 o3;go_wp2_with fail;go_call Ys _ _ _ _ _ g HO (hs k p) I as e w4 ⟨rfl,hI4,hk4⟩;have C:=S hI4;have a:=S (M.step hk4 hB);clear hI4 hk4;go_wp2;refine⟨⟨k+1,v',I,Jn,F,S ⟨T,?_⟩,C,a⟩,Ji⟩;rw[D L];constructor
      .rintro⟨j,hj,hc⟩ hn;exact hn k j hj I hc
      .intro hn;exact Classical.byContradiction λx=>hn (RK P (λj hj hc=>x ⟨j,hj,hc⟩))
     .have hb:Hid (¬ IC 4 xs (k+1)):=λh=>q.2.1 F (λi j hj hi=>h i j hj I)
      clear HV q;go_wp2_with fail;go_call Ys _ _ _ _ _ u HO (hs k p) I as e w4 ⟨rfl,hI4,hk4⟩;have C:=S hI4;have a:=S (d.step hk4 hB);clear hI4 hk4;go_wp2;exact⟨⟨k+1,Vp,I,Jn,F,S ⟨T,⟨λ_=>hb,λ_=>F⟩⟩,C,a⟩,Ji⟩
    .have N:=S (show Pr 3 xs by
      obtain⟨j,hj,hc⟩:=HV.1 F
      exact⟨k,j,hj,p,hc⟩)
     go_wp2;exact yQ (v:=i5 #[b9 #[.map JL,.map JL],G 3]) (by simp[results,results111,go_sem,r0,r1]) F ⟨⟨JL,JL,3,F,yX ⟨H,yX ⟨X,yW ⟨F,N⟩⟩⟩,λh=>yV h Jd⟩,(Q.setCell Js _).setCell Js _⟩
   .have A:k=Z xs:=I;have T:=S (R7 (A ▸ (D q).1));have Q:=hL.bel;have r0:=hL.r0;have r1:=hL.r1;have f0:=hL.f0;have f1:=hL.f1;have x0:=hL.x0;have x1:=hL.x1;have ord:=hL.ord;cases m
    .have hb:=Classical.byContradiction λx=>jq (q.2.2 x)
     have P:=S (R7 (A ▸ hb));have n:=S (A ▸ D hI);go_wp2;exact yQ (v:=i5 #[b9 #[.map (E (O w1.1)),.map (E (O w1.1+1))],G 0]) (by simp[results,results111,go_sem,r0,r1]) F ⟨⟨_,_,0,F,yX ⟨H,yX ⟨X,yX ⟨T,yX ⟨F,P⟩⟩⟩⟩,λ_=>⟨_,_,F,F,(n.set I I).set I I⟩⟩,(Q.setCell Js _).setCell Js _⟩
    .have R:=S (show Pr 4 xs by
      have h4:=q.2.1 F
      refine Classical.byContradiction λx=>h4 (λi j hj hi hc=>x ⟨i,j,hj,I,hc⟩))
     go_wp2;exact yQ (v:=i5 #[b9 #[.map JL,.map JL],G 4]) (by simp[results,results111,go_sem,r0,r1]) F ⟨⟨JL,JL,4,F,yX ⟨H,yX ⟨X,yX ⟨T,yW ⟨F,R⟩⟩⟩⟩,λh=>yV h Jd⟩,(Q.setCell Js _).setCell Js _⟩
def BN(k:Int):Int:=if 3<=k/\k<=5 then k-2 else 0
def YG{k}(h:3<=k/\k<=5):BN k=k-2:=yU h
def Mj(k w):Calls Vb 186 #[G k] w λe w'=>e=i9 (G (BN k))/\w'=w:=by
 by_cases a:k=3
 .subst a;go_enter func186,ntmps186;go_wp2;go_ret;exact⟨zK (by simp[BN]),F⟩
 by_cases b:k=4
 .subst b;go_enter func186,ntmps186;go_wp2;go_ret;exact⟨zK (by simp[BN]),F⟩
 by_cases c:k=5
 .subst c;go_enter func186,ntmps186;go_wp2;go_ret;exact⟨zK (by simp[BN]),F⟩
 have f:(k==3)=Vt:=Ju a
 have g:(k==4)=Vt:=Ju b
 have h:(k==5)=Vt:=Ju c
 have d:=S (by unfold BN;rw[yS];omega:BN k=0);go_enter func186,ntmps186;go_wp2;go_ret;exact⟨zK d.symm,F⟩
def sU(p:AH w bo bs xs (Z xs))(n:zM xs 0)(q:Bg xs (Z xs))(o)(s:o.t.size<=maxLen):∃a:DataW Unit,w.ownsMap Vb 221 CL bo (Z xs) a /\
   (
    (∃j,Zx o/\Ax xs o.t (o.k-2)=E j/\Maps.has a (AF o.t (BN o.k))=Vp/\a.atKey (AF o.t (BN o.k)) (Ch ⟨#[]⟩ 0 0 0)=Ch (r xs j).s (r xs j).k (r xs j).l (r xs j).sd) \/
    ((Zx o->Ax xs o.t (o.k-2)=JL)/\Maps.has a (AF o.t (BN o.k))=Vt)):=by
 obtain⟨⟨a,K,m⟩,_,_⟩:=p;have t:(Lit.int .i64 (BN o.k)).wf=Vp:=by
  unfold BN;split
  .rename_i h;rcases(I:o.k=3\/o.k=4\/o.k=5) with e|e|e<;>rw[e]<;>decide
  .decide
 obtain⟨k,l⟩:=m o.t (BN o.k) s t;refine⟨a,K,?_⟩;cases f:Maps.has a (AF o.t (BN o.k)) with
 |true=>
  obtain⟨j,b,g,c,i⟩:=l f;have H:Zx o:=by
   unfold Zx;have u:=P3 (q j b);unfold BN at c;split at c
   .assumption
   .omega
  have d:(r xs j).k=o.k-2:=by rw[c];exact YG H
  exact yW ⟨j,H,PW n b ⟨g,d⟩,F,i⟩
 |false=>refine yX ⟨λH=>XW (λj b h=>?_),F⟩;have:Maps.has a (AF o.t (BN o.k))=Vp:=k.2 ⟨j,b,h.1,by rw[h.2];exact(YG H).symm⟩;rw[f]at this;cases this
def S5(b o p a):=
 (∃j,Zx o/\Ax b o.t (o.k-2)=E j/\a=Vp/\p=r b j)\/((Zx o->Ax b o.t (o.k-2)=JL)/\a=Vt)
def PL(g n f o w)(hi:AH w g n f (Z f))(hc:zM f 0)(b:Bg f (Z f))(R:o.t.size<=maxLen):Calls Vb 258 #[b9 #[.map (E g),.map (E n)],b9 #[.int .i64 o.k,.string o.t,.int .i64 o.a,.int .i64 o.b]] w λe w'=>(∃(p:Ad)(v:Bool),e=i9 (i5 #[b9 #[.string p.s,.int .i64 p.k,.int .i64 p.l,.int .i64 p.sd],i7 v])/\S5 f o p v)/\Below (O w.1) w w':=by
 obtain⟨a,Q,K⟩:=sU hi hc b o R;have hw:(Lit.int .i64 (BN o.k)).wf=Vp:=by
  unfold BN;split
  .rename_i h;rcases(I:o.k=3\/o.k=4\/o.k=5) with e|e|e<;>rw[e]<;>decide
  .decide
 have V:=S (IG R hw);have q:=S Q;have x:=S K;have A:Hid (∀L M N:Obj,Below (O w.1) w ((w.alloc L).alloc M |>.alloc N)):=λL M N=>((@zC w L).alloc Js M).alloc Jq N
 go_enter func258,ntmps258;go_wp2_with fail;have H:∀c:JY,c.ownsMap Vb 221 CL g (Z f) a->∃p v,(Instr.lookup 170 (.map (E g)) (b9 #[.string o.t,.int .i64 (BN o.k)]) Vp).run Vb c=.ok (i5 #[b9 #[.string p.s,.int .i64 p.k,.int .i64 p.l,.int .i64 p.sd],i7 v]) c/\S5 f o p v:=λc hW=>by
  obtain⟨v,ps,t,C⟩:=hW.look_ok GY underlying170 (aF _) (NB _ _ _ _) V;rcases D x with⟨j,z,B,h3,h4⟩|⟨z,B⟩
  .rw[h4]at C;have e:=mE C;subst e;rw[h3]at t;exact⟨r f j,Vp,t,yW ⟨j,z,B,F,F⟩⟩
  .obtain⟨s,k,l,sd,rfl⟩:=Pe C;rw[B]at t;exact⟨⟨s,k,l,sd⟩,Vt,t,yX ⟨z,F⟩⟩
 obtain⟨i,T,u,P⟩:=H (((w.alloc (JM #[.map (E g),.map (E n)] 173)).alloc (JM #[.int .i64 o.k,.string o.t,.int .i64 o.a,.int .i64 o.b] 108)).alloc (JM #[.string ⟨#[]⟩,.int .i64 0,.int .i64 0,.int .i64 0] 25)).drew (((q.alloc _).alloc _).alloc _).drew;obtain⟨m,v2,U,d⟩:=H ((((w.alloc (JM #[.map (E g),.map (E n)] 173)).alloc (JM #[.int .i64 o.k,.string o.t,.int .i64 o.a,.int .i64 o.b] 108)).alloc (JM #[.string ⟨#[]⟩,.int .i64 0,.int .i64 0,.int .i64 0] 25)).alloc (JM #[.string ⟨#[]⟩,.int .i64 0,.int .i64 0,.int .i64 0] 25)).drew ((((q.alloc _).alloc _).alloc _).alloc _).drew;have y:=S P;have X:=S d;go_region_held (λw'=>w'.cell? ⟨O w.1,0,JL⟩=E (.map (E g))/\w'.cell? ⟨O w.1+1,0,JL⟩=E (.int .i64 o.k)/\w'.cell? ⟨O w.1+1,1,JL⟩=E (.string o.t)) (go_keep)
  (first|(go_at_call 186;refine(Mj _ _).mono ?_;rintro e w2 ⟨rfl,hx⟩;obtain rfl:=hx.symm))
 all_goals go_wp2
 all_goals first|(refine yQ (v:=i5 #[b9 #[.string i.s,.int .i64 i.k,.int .i64 i.l,.int .i64 i.sd],i7 T]) ?_ F ⟨⟨i,T,F,y⟩,((((zC).alloc Js _).alloc Jq _).alloc Jq _).drew⟩;(simp[results,results258,go_sem];done))|(refine yQ (v:=i5 #[b9 #[.string m.s,.int .i64 m.k,.int .i64 m.l,.int .i64 m.sd],i7 v2]) ?_ F ⟨⟨m,v2,F,X⟩,((((zC).alloc Js _).alloc Jq _).alloc Jq _).drew⟩;(simp[results,results258,go_sem];done))
structure Sc(w:JY)(p bo c L:Nat)(s:JZ)(b a:Nat)(v:Value):Prop where
 c0:w.cell? (J p 0)=E (.map (E bo))
 c1:w.cell? (J p 1)=E (.map (E c))
 c2:w.cell? (J p 2)=E (G L)
 c3:w.cell? (J p 3)=E (W s)
 c4:w.cell? (J p 4)=E (G b)
 c5:w.cell? (J p 5)=E (G a)
 c6:w.cell? (J p 6)=E v
 fz:∀o,w.frozen? (J p o)=Vt
def Vs(p d f L s c b v)(a q:Nat)(w)(h:Sc w p d f L s c b v)(l:q<=s.size)(i:a=2\/a=3):Calls Vb 198 #[Qp p,G a,G q] w λe w'=>Bj e (q<s.size/\(Ai (bt s q)=2\/(Ai (bt s q)=3/\a=3)))/\w'=w:=by
 have k:=h.c3;by_cases K:q<s.size
 .have H:(q:Int)<s.size:=I;have g:=S (ZV K);have j:=S i;go_enter func198,ntmps198;go_wp2_with (go_at_call 192;refine(Q0 a _ _).mono ?_;rintro e w' ⟨rfl,hx⟩;obtain rfl:=hx.symm);go_ret;refine⟨⟨_,F,?_⟩,F⟩;unfold DO DL;rw[D g];simp[K]
 .have H:¬ (q:Int)<s.size:=I;go_enter func198,ntmps198;go_wp2;go_ret;exact⟨⟨Vt,F,zT Js⟩,F⟩
structure Bp(w a:JY)(p:Nat)(row:Option Nat):Prop where
 os:a.os=w.os
 tape:a.tape=w.tape
 output:a.output=w.output
 size:O w.1<=O a.1
 block:∀i,i<O w.1->i≠p->E i≠row->a.heap[i]?=w.heap[i]?
def pK{a:JY}{V A B}(b:∃u,a.cell? ⟨p,4,JL⟩=E u)(c:∃u,a.cell? ⟨p,5,JL⟩=E u)(d:∃u,a.cell? ⟨p,6,JL⟩=E u):(((a.setCell ⟨p,6,JL⟩ V).setCell ⟨p,4,JL⟩ A).setCell ⟨p,5,JL⟩ B).cell? ⟨p,4,JL⟩=E A/\(((a.setCell ⟨p,6,JL⟩ V).setCell ⟨p,4,JL⟩ A).setCell ⟨p,5,JL⟩ B).cell? ⟨p,5,JL⟩=E B /\
  (((a.setCell ⟨p,6,JL⟩ V).setCell ⟨p,4,JL⟩ A).setCell ⟨p,5,JL⟩ B).cell? ⟨p,6,JL⟩=E V/\∀o,o<4->(((a.setCell ⟨p,6,JL⟩ V).setCell ⟨p,4,JL⟩ A).setCell ⟨p,5,JL⟩ B).cell? ⟨p,o,JL⟩=a.cell? ⟨p,o,JL⟩:=by
 obtain⟨u4,b⟩:=b;obtain⟨u5,c⟩:=c;obtain⟨u6,d⟩:=d;have e:(a.setCell ⟨p,6,JL⟩ V).cell? ⟨p,4,JL⟩=E u4:=by rw[yj _ _ _ _ (by simp)];exact b
 have f:((a.setCell ⟨p,6,JL⟩ V).setCell ⟨p,4,JL⟩ A).cell? ⟨p,5,JL⟩=E u5:=by rw[yj _ _ _ _ (by simp),yj _ _ _ _ (by simp)];exact c
 refine⟨?_,yu _ _ _ f,?_,λo g=>?_⟩
 .rw[yj _ _ _ _ (by simp)];exact yu _ _ _ e
 .rw[yj _ _ _ _ (by simp),yj _ _ _ _ (by simp)];exact yu _ _ _ d
 .rw[yj _ _ _ _ (by simp),yj _ _ _ _ (by simp),yj _ _ _ _ (by simp)]
def Mk(a:JY)(p o V):a.grownBy (a.setCell (J p o) V) (E p):=
 ⟨F,F,F,Jt,λi _ b=>jh _ _ _ _ (λe=>b (by rw[e]))⟩
def pL{a:JY}{j q f g c n:Nat}{l:Option Nat}{u:JD}{o:Obj}(t:w.cell? (J p 0)=E (.map (E bo))/\w.cell? (J p 1)=E (.map (E bs))/\w.cell? (J p 2)=E (G L))(H:∀o,a.cell? (J p o)=w.cell? (J p o))(R:a.cell? (J p 3)=E (W s))(T:a.cell? (J p 4)=E (G gap))(U:a.cell? (J p 5)=E (G j))(X:a.cell? (J p 6)=E v)(M:∀o,a.frozen? (J p o)=Vt)(Q:a.ownsRow f 142 3 (Ql g n c) n u)(k:(w.alloc o).drew.grownBy a l)(K:¬ g=p):Hid (Sc (((a.setCell (J p 6) (Ql g n c)).setCell (J p 4) (G q)).setCell (J p 5) (G q)) p bo bs L s q q (Ql g n c)) /\
  Hid ((((a.setCell (J p 6) (Ql g n c)).setCell (J p 4) (G q)).setCell (J p 5) (G q)).ownsRow f 142 3 (Ql g n c) n u)/\g≠p /\
  Bp w (((a.setCell (J p 6) (Ql g n c)).setCell (J p 4) (G q)).setCell (J p 5) (G q)) p l:=by
 obtain⟨y,z,C,d⟩:=pK (V:=Ql g n c) (A:=G q) (B:=G q) ⟨_,T⟩ ⟨_,U⟩ ⟨_,X⟩;have x:∀b:Nat,¬ b=p->E b≠E p:=λb h e=>h (jz e)
 refine⟨S ⟨(d 0 I).trans ((H 0).trans t.1),(d 1 I).trans ((H 1).trans t.2.1),(d 2 I).trans ((H 2).trans t.2.2),(d 3 I).trans R,y,z,C,λo=>?_⟩,S ?_,K,?_⟩
 .rw[yx,yx,yx];exact M o
 .exact((Q.kept (Mk _ p 6 _) (yX (by simp[i8];exact K))).kept (Mk _ p 4 _) (yX (by simp[i8];exact K))).kept (Mk _ p 5 _) (yX (by simp[i8];exact K))
 .have e1:=k.size;simp at e1;refine⟨k.os,k.tape,k.output,by simp[World.setCell];omega,λi P m N=>?_⟩;rw[jh _ _ _ _ (Ju m),jh _ _ _ _ (Ju m),jh _ _ _ _ (Ju m)];exact(k.block i Jq N).trans ((@zC w o).block i P)
def lD(p bo bs L s R M v)(H q base:Nat)(T w)(h:Sc w p bo bs L s R M v)(h1:R<=M)(h2:M<=q)(hq:q<=s.size)(U:w.ownsRow base 142 3 v (Z T) (ZK T))(b:v.ownBlock≠E p)(c:Z T<=20000)(B:base<=O w.1):Calls Vb 199 #[.pointer (E ⟨p,0,JL⟩),G H,G q] w λe w'=>e=i9 (i5 #[])/\∃g cap:Nat,Hid (Sc w' p bo bs L s q q (.slice (E ⟨g,0,JL⟩) (Z T+1) cap))/\Hid (w'.ownsRow base 142 3 (.slice (E ⟨g,0,JL⟩) (Z T+1) cap) (Z T+1) (ZK (T++[⟨(H:Int),s.extract R M,s.extract M q⟩])))/\g≠p/\Bp w w' p v.ownBlock:=by
 have hp:p<O w.1:=jl h.c0;obtain⟨c0,c1,c2,c3,c4,c5,c6,fz⟩:=h;have i:(R:Int)<=M:=I;have l:(M:Int)<=s.size:=I;have k:(M:Int)<=q:=I;have f:(q:Int)<=s.size:=I;have k6:∀o,(w.alloc o).drew.cell? ⟨p,6,JL⟩=E v:=λo=>((@zC w o).cell (p:=⟨p,6,JL⟩) hp).trans c6
 have HN:=S b;have HC:=S (yO c0 (yO c1 c2));have d:¬ (O w.1)=p:=I;go_enter func199,ntmps199;go_wp2_with fail;have N:(λt:World=>t.cell? ⟨p,3,JL⟩=E (W s)/\t.cell? ⟨p,4,JL⟩=E (G R)/\t.cell? ⟨p,5,JL⟩=E (G M)) w.drew:=⟨c3,c4,c5⟩;have HS:=S N;have y:=S (show(λt:World=>t.cell? ⟨p,3,JL⟩=E (W s)/\t.cell? ⟨p,4,JL⟩=E (G R)/\t.cell? ⟨p,5,JL⟩=E (G M)) (w.alloc (JM #[G H,W (s.extract R M),W (s.extract M q)] 142)).drew from⟨((@zC w _).cell (p:=⟨p,3,JL⟩) hp).trans c3,((@zC w _).cell (p:=⟨p,4,JL⟩) hp).trans c4,((@zC w _).cell (p:=⟨p,5,JL⟩) hp).trans c5⟩);refine wp_region_held_drew (S:=λt:World=>t.cell? ⟨p,3,JL⟩=E (W s)/\t.cell? ⟨p,4,JL⟩=E (G R)/\t.cell? ⟨p,5,JL⟩=E (G M)) Jk N (λ_=>?_);refine Ap 0 N ?_;refine Ap 1 N ?_;refine Ap 2 N ?_;refine Ap 3 N ?_;refine Ap 5 N ?_;refine Ap 6 N ?_;refine Ap 7 N ?_;refine Ap 8 N ?_;refine Ap 9 N ?_;refine Ap 10 N ?_;refine Ap 11 N ?_;refine Ap 12 N ?_;refine Ap 13 N ?_;refine Ap 14 N ?_;refine Ap 15 N ?_;refine Ap 16 N ?_;refine Ap 17 N ?_;refine Ap 18 N ?_;refine Ap 19 N ?_;refine Ap 20 N ?_;refine Ap 21 N ?_;refine Ap 22 N ?_;refine Ap 23 N ?_;refine Ap 24 N ?_;refine Ap 25 N ?_;refine Ap 26 N ?_;refine Ap 27 N ?_;refine Ap 28 N ?_;refine Ap 29 N ?_;refine yR (rs:=[4,30]) Jk Js ?_;refine yK F (λK hK=>?_) (yK F (λK hK=>?_) yL);focus
  simp only[yc,ya,yb]
  go_simp
  refine hK.out _ _ N (λ_=>?_)
  refine yR (rs:=[30]) Jk Js ?_
 rotate_left
 focus
  simp only[yc,ya,yb]
  go_simp
  refine hK.out _ _ y (λ_=>?_)
  refine yR (rs:=[4]) Jk Js ?_
 all_goals
  refine yK F (λK hK=>?_) yL
  simp only[yc,ya,yb]
  go_simp
  refine hK.out _ _ y (λ_=>?_)
  refine yR (rs:=[31]) Jk Js ?_
  refine yK F (λK hK=>?_) yL
  refine De TA underlying138 (.tmp 10) (.tmp 36) (by rfl) (by rfl) base _ (Z T) (ZK T) (by rfl) (U.alloc _).drew ⟨O w.1,0,JL⟩ 1 1 (ZK [⟨(H:Int),s.extract R M,s.extract M q⟩]) (by rfl) F (λj u hj=>RQ w ⟨(H:Int),s.extract R M,s.extract M q⟩ j u hj) (Rf _) Jd Jm I Jq _ F ?_
  intro g4 c4' w4 X Q P C
  have x:=λo=>(Q.cell_far ⟨p,o,JL⟩ Jq (λe=>HN e.symm)).trans ((@zC w (JM #[G H,W (s.extract R M),W (s.extract M q)] 142)).cell (p:=⟨p,o,JL⟩) hp)
  have f6:=λo=>(Q.frozen_far ⟨p,o,JL⟩ Jq (λe=>HN e.symm)).trans (((@zC w (JM #[G H,W (s.extract R M),W (s.extract M q)] 142)).frozen (p:=⟨p,o,JL⟩) hp).trans (fz o))
  have q3:=(x 3).trans c3
  have q4:=(x 4).trans c4
  have q5:=(x 5).trans c5
  have q6:=(x 6).trans c6
  have HF:=S x
  have a:=S Q
  have A:=S X
  have V:¬ g4=p:=λe=>by
   subst e;rcases P with h|h
   .exact HN h
   .simp at h;omega
  refine hK.out _ _ ⟨q3,q4,q5⟩ (λz=>?_)
  simp only[yc,ya,yb]
  simp only[Act.put,ye,yg,yh]
  refine Ap 32 z ?_
  refine Ap 33 z ?_
  refine yR (rs:=[34]) Jk Js ?_
  refine yK F (λK hK=>?_) yL
  simp only[yc,ya,yb]
  go_simp
  refine hK.out _ _ ⟨by rw[yj _ _ _ _ (by simp)];exact q3,by rw[yj _ _ _ _ (by simp)];exact q4,by rw[yj _ _ _ _ (by simp)];exact q5⟩ (λm=>?_)
  refine wpAnyH_done Jk ?_ _
  have r4:=m.2.1
  have r5:=m.2.2
  go_wp2
  go_end0
  refine⟨F,g4,c4',?_⟩
  rw[QV]
  exact pL HC HF q3 q4 q5 q6 f6 A a V
def iS(d f n g t w)(k:AH w d f g n)(R:n=Z g)(P:LV g)(j:t.size<=maxLen):Calls Vb 201 #[b9 #[.map (E d),.map (E f)],.string t] w λe w'=>Bj e (Bf g t)/\Below (O w.1) w w':=by
 subst R;obtain⟨⟨a,q,s⟩,_,_⟩:=k;have v:=S (s _ _ j cM).1;have y:=S (s _ _ j cN).1;have L:=S (s _ _ j cO).1;have o:=S (VV (t:=t) P);have z:=S q;go_enter func201,ntmps201;go_wp2_with fail;go_call LE d f (Z g) a t 1 _ (z.alloc _) j Jd as e w1 ⟨rfl,b⟩;have H:=(zC).trans (b.mono Js);have C:O w.1<O w1.1:=Jz b.size
 have M:w1.cell? ⟨O w.1,0,JL⟩=E (.map (E d)):=by rw[b.cell (p:=⟨O w.1,0,JL⟩) Js];simp[go_sem]
 have N:w1.cell? ⟨O w.1,1,JL⟩=E (.map (E f)):=by rw[b.cell (p:=⟨O w.1,1,JL⟩) Js];simp[go_sem]
 have K:=S ((z.alloc (JM #[.map (E d),.map (E f)] 173)).kept (w':=w1) (row:=JL) ⟨b.os,b.tape,b.output,b.size,λi k _=>b.block i k⟩ Js);cases A:Maps.has a (AF t 1)
 case true=>have l:=S A;go_wp2;go_ret;exact⟨⟨Vp,F,⟨λ_=>o.2 (yW (v.1 l)),λ_=>F⟩⟩,H⟩
 have l:=S A;go_wp2_with fail;go_call LE d f (Z g) a t 2 _ K j Jd as e w2 ⟨rfl,c⟩;have h:=H.trans (c.mono H.size);have T:=Jc c C M;have U:=Jc c C N;have x:=S (K.kept (w':=w2) (row:=JL) ⟨c.os,c.tape,c.output,c.size,λi k _=>c.block i k⟩ Js);cases B:Maps.has a (AF t 2)
 case true=>have m:=S B;go_wp2;go_ret;exact⟨⟨Vp,F,⟨λ_=>o.2 (yX (yW (y.1 m))),λ_=>F⟩⟩,h⟩
 have m:=S B;go_wp2_with fail;go_call LE d f (Z g) a t 3 _ x j Jd as e V ⟨rfl,u⟩;have Q:=h.trans (u.mono h.size);go_wp2;go_ret;refine⟨⟨_,F,?_⟩,Q⟩;unfold DO;rw[D o,<-D v,<-D y,<-D L,D l,D m];simp
def pM{c l d}(h:prog.keyLits (d+1) 9 [c]=E l):∃s,c=.string s/\s.size<=maxLen:=by
 unfold Program.keyLits at h;rw[underlying9]at h;cases c with
 |string s=>
  simp only at h;split at h
  .rename_i hs;exact⟨s,F,hs⟩
  .cases h
 |_=>simp at h
def pN{c l d}(h:prog.keyLits (d+1) 3 [c]=E l):∃n,c=.int .i64 n/\(Lit.int .i64 n).wf=Vp:=by
 unfold Program.keyLits at h;rw[underlying3]at h;cases c with
 |int q n=>
  simp only at h;split at h
  .rename_i hs;obtain⟨rfl,a⟩:=hs;exact⟨n,F,a⟩
  .cases h
 |_=>simp at h
def pO{f g m d}(h:prog.keyLits (d+1+1) 221 [f,g]=E m):∃s j,f=.string s/\g=.int .i64 j/\s.size<=maxLen/\(Lit.int .i64 j).wf=Vp:=by
 have e:prog.keyLits (d+1+1) 221 [f,g]=(prog.keyLits (d+1) 9 [f]).bind λa=>(prog.keyLits (d+1) 3 [g]).map λb=>a++b:=by
  conv=>lhs;unfold Program.keyLits
  rw[underlying221];cases c:prog.keyLits (d+1) 9 [f] with
  |none=>simp[ML,Oi,Oj,c]
  |some l0=>
   cases i:prog.keyLits (d+1) 3 [g] with
   |none=>simp[ML,Oi,Oj,c,i]
   |some l1=>simp[ML,Oi,Oj,c,i]
 rw[e]at h;cases c:prog.keyLits (d+1) 9 [f] with
 |none=>rw[c]at h;cases h
 |some l0=>
  cases i:prog.keyLits (d+1) 3 [g] with
  |none=>rw[c,i]at h;cases h
  |some l1=>obtain⟨s,rfl,k⟩:=pM c;obtain⟨j,rfl,l⟩:=pN i;exact⟨s,j,F,F,k,l⟩
def Sv{a f}(h:keyOf Vb 221 a=E f):∃s b,a=b9 #[.string s,.int .i64 b]/\s.size<=maxLen/\(Lit.int .i64 b).wf=Vp:=by
 unfold keyOf at h;rw[underlying221]at h;simp only[aE,Bool.true_and]at h;split at h
 .rename_i hf;cases a with
  |agg cs=>
   simp only[Value.formed,underlying221,ML,beq_iff_eq]at hf;obtain⟨l⟩:=cs;match l,hf with
   |[c0,c1],_=>obtain⟨g,c,_⟩:=jx.1 h;have H:prog.keyLits (prog.types.size+1) 221 [c0,c1]=E g:=c;rw[RR]at H;obtain⟨s,b,rfl,rfl,d,e⟩:=pO H;exact⟨s,b,F,d,e⟩
  |_=>simp[Value.formed,underlying221]at hf
 .cases h
def Uq{y}(h:CL v=E y):∃c:ByteArray×Int×Int×Int,v=b9 #[.string c.1,.int .i64 c.2.1,.int .i64 c.2.2.1,.int .i64 c.2.2.2]:=by obtain⟨s,k,l,a,rfl⟩:=Pe h;exact⟨(s,k,l,a),F⟩
def Vu{a c}(h:keyOf Vb 221 a=E c):∃x:ByteArray×Int,a=b9 #[.string x.1,.int .i64 x.2]:=by obtain⟨s,b,rfl,_⟩:=Sv h;exact⟨(s,b),F⟩
def dL(bo bs xs w)(hi:AH w bo bs xs (Z xs))(hv:ZZ xs)(g:ZO xs)(l:Bg xs (Z xs)):Calls Vb 159 #[b9 #[.map (E bo),.map (E bs)]] w λe w'=>(∃L:Nat,e=i9 (.int .i64 (L:Int))/\L<=16/\∀j,j<Z xs->(r xs j).s.size<=L)/\Below (O w.1) w w':=by
 obtain⟨⟨k,X,hD⟩,_,_⟩:=hi;have HD:=S hD;have N:=X.lt;have e1:O (w.alloc (JM #[.map (E bo),.map (E bs)] 173)).1=O w.1+1:=Js;go_enter func159,ntmps159;go_wp2_with (at_range;refine wpList_range_own _ F _ 170 F 221 25 GY underlying170 CL bo (Z xs) k F (X.alloc _) ?_;intro w0 Q B t);go_frame;rw[e1]at Q t ⊢;have ha:=(zC).grown B Js (λj hj=>by cases hj);go_loopw [3] (λlv wr=>∃(L:Nat)(left:Lit->Bool)(Am:Nat),lv=.int .i64 (L:Int)/\L<=16/\Hid (wr.ranges Vb 221 CL bo (O w.1+1) (Z xs) k left Am)/\Hid (∀j,j<Z xs->left (AF (r xs j).s (r xs j).k)=Vt->(r xs j).s.size<=L)/\Hid (∀kl,left kl=Vp->Maps.has k kl=Vp)/\O w.1+1<O wr.1/\Hid (Below (O w.1) w wr)) (λ_ wr=>wr.rangeLeft bo (O w.1+1));case atStart=>
  refine⟨0,_,_,F,I,S Q,S (λj hj h=>?_),S (λkl h=>h),I,S ha⟩;have:=((HD (r xs j).s (r xs j).k (g j hj) (MM (l j hj))).1).2 ⟨j,hj,F,F⟩;rw[this]at h;cases h
 case round=>
  obtain⟨L,left,Am,rfl,hL,p,U,q,hz,K⟩:=hrel;go_wp2_with (at_next;refine wpList_next_ranges _ F _ F 221 GY CL (λx:ByteArray×Int=>b9 #[.string x.1,.int .i64 x.2]) (λc:ByteArray×Int×Int×Int=>b9 #[.string c.1,.int .i64 c.2.1,.int .i64 c.2.2.1,.int .i64 c.2.2.2]) (λkey kl h=>Vu h) (λv y h=>Uq h) bo (O w.1+1) (Z xs) k left Am F p ?_ ?_)
  .intro hd b;go_wp2;go_ret;exact⟨⟨L,F,hL,λj hj=>U j hj (b _)⟩,K⟩
  .intro s kd s2 k2 l2 sd2 kl yd yp w1 cnt1 H T M hg V A i o n;obtain⟨s',kd',he,hf,hb⟩:=Sv H;simp only[Value.agg.injEq,Array.mk.injEq,List.cons.injEq,Value.string.injEq,Value.int.injEq,true_and,and_true]at he;obtain⟨rfl,rfl⟩:=he;have d:kl=AF s kd:=by have:=IG hf hb;rw[this]at H;injection H with H;exact H.symm
   subst d;have m:s.size<=16:=by obtain⟨j,hj,e,_⟩:=((HD s kd hf hb).1).1 (q _ T);rw[<-e];exact(hv j hj).2.1
   obtain⟨L',hc⟩:∃L':Nat,L'=max L s.size:=⟨_,F⟩;have R:max (L:Int) (s.size:Int)=L':=I;have C:=S (show ∀j,j<Z xs->((λz=>left z&&!z.sameKey (AF s kd)) (AF (r xs j).s (r xs j).k))=Vt->(r xs j).s.size<=L' from λj hj h=>by
    simp only[Bool.and_eq_false_iff,Bool.not_eq_false']at h
    rcases h with h|h
    .have:=(D U) j hj h;omega
    .have e:AF (r xs j).s (r xs j).k=AF s kd:=by simpa[Lit.sameKey,AF] using h
     have e':=(SP (g j hj) hf (MM (l j hj)) hb e).1
     rw[e'];omega)
   have P:=S (show ∀z,((λz=>left z&&!z.sameKey (AF s kd)) z)=Vp->Maps.has k z=Vp from λz h=>by
    simp only[jB]at h
    exact q z h.1)
   have a:=S (K.grown i K.size (λj hj=>by injection hj with hj;omega));have u:=S (V.alloc (JM #[.string s,.int .i64 kd] 221));have f:=S (A);go_wp2;refine⟨⟨L',_,cnt1,?_,I,u,C,P,Jq,S (a.alloc a.size _)⟩,?_⟩
   .first|rfl|(congr 1;omega)
   .rw[(D u).left_eq,(D p).left_eq];exact f
structure Ft(w:JY)(p bo b:Nat)(a:Bool)(c:Nat):Prop where
 c0:w.cell? (J p 0)=E (.map (E bo))
 c1:w.cell? (J p 1)=E (.map (E b))
 c2:w.cell? (J p 2)=E (i7 a)
 c3:w.cell? (J p 3)=E (G c)
 fz:∀o,w.frozen? (J p o)=Vt
def Sw(d f n c t b w)(l:AH w d f c n)(m:n=Z c)(i:t.size<=maxLen)(g:(Lit.int .i64 b).wf=Vp):Calls Vb 196 #[b9 #[.map (E d),.map (E f)],.string t,.int .i64 b] w λe w'=>e=i9 (i7 (ZL c t b))/\Below (O w.1) w w':=by
 subst m;obtain⟨⟨a,H,j⟩,_,_⟩:=l;go_call LE d f (Z c) a t b w H i g as e w' ⟨rfl,k⟩;refine⟨?_,k⟩;have h:=(j t b i g).1;have:Maps.has a (AF t b)=ZL c t b:=by rw[jI,h,DG];rfl
 rw[this]
def Ft.kept{c}(h:Ft w p bo bs bh c)(a:Qb w w'):Ft w' p bo bs bh c:=by
 have b:p<O w.1:=jl h.c0;have e:=λo=>a.cell (p:=J p o) b
 exact⟨(e _).trans h.c0,(e _).trans h.c1,(e _).trans h.c2,(e _).trans h.c3,λo=>(a.frozen (p:=J p o) b).trans (h.fz o)⟩
def Ft.set2{b}(h:Ft w p bo bs bh b)(a):Ft (w.setCell ⟨p,2,JL⟩ (i7 a)) p bo bs a b:=
 ⟨(yj _ _ _ _ Js).trans h.c0,(yj _ _ _ _ Js).trans h.c1,yu _ _ _ h.c2,(yj _ _ _ _ Js).trans h.c3,λo=>(yx).trans (h.fz o)⟩
def Ft.set3{c}(h:Ft w p bo bs bh c)(a:Nat)(n)(b:n=(a:Int)):Ft (w.setCell ⟨p,3,JL⟩ (G n)) p bo bs bh a:=by subst b;exact⟨(yj _ _ _ _ Js).trans h.c0,(yj _ _ _ _ Js).trans h.c1,(yj _ _ _ _ Js).trans h.c2,yu _ _ _ h.c3,λo=>(yx).trans (h.fz o)⟩
def NM(w p o v):zE w (w.setCell (J p o) v) p:=Ld [v] o w
def S6(g:Jf)(t:zR)(c)(f:Nat)(a:Int)(w b:JY)(p d e:Nat):=
 (0<=a->Ft b p d e (C8 g t c) (C3 t f))/\zE w b p
def dY(p g i b a d t w)(h:Ft w p g i Vt b)(z:AH w g i d (Z d))(R:t.t.size<=maxLen)(x:b<=1048576):Calls Vb 226 #[Qp p,b9 #[G t.k,W t.g,W t.t]] w λe w'=>e=i9 (G (ZT d a t Vt b))/\S6 d t Vt b (ZT d a t Vt b) w w' p g i:=by
 have C:=S (z.kept (@zC w (JM #[G t.k,W t.g,W t.t] 142)));have m:=S h;clear z;obtain⟨u,L,T,U,v⟩:=h;have V:=v 2;have X:=v 3;have A:p<O w.1:=jl u;have c:t.k=1\/t.k=2\/t.k=4\/t.k=3\/(t.k≠1/\t.k≠2/\t.k≠4/\t.k≠3):=I;rcases c with c|c|c|c|c;focus
  have H:=S c
  have k:(t.k==1)=Vp:=Jq
  have l:(t.k==2)=Vt:=Jq
 rotate_left
 focus
  have H:=S c
  have k:(t.k==1)=Vt:=Jq
  have l:(t.k==2)=Vp:=Jq
 rotate_left
 .have H:=S c;have k:(t.k==1)=Vt:=Jq;have l:(t.k==2)=Vt:=Jq;have o:(t.k==4)=Vp:=Jq;have n:(t.k==3)=Vt:=Jq;clear c;go_enter func226,ntmps226;go_wp2;go_ret;refine⟨zK (by simp[ZT,D H]),λ_=>?_,(NM w p 3 _).trans (zE.Q zC)⟩;rw[(by simp[C8,D H]:C8 d t Vt=Vt),(by simp[C3,D H]:C3 t b=b+1)];exact(m.set3 (b+1) _ I).kept zC
 .have H:=S c;have k:(t.k==1)=Vt:=Jq;have l:(t.k==2)=Vt:=Jq;have o:(t.k==4)=Vt:=Jq;have n:(t.k==3)=Vp:=Jq;clear c;have M:=Jc (@zC w (JM #[G t.k,W t.g,W t.t] 142)) A u;have N:=Jc (@zC w (JM #[G t.k,W t.g,W t.t] 142)) A L;have P:(w.alloc (JM #[G t.k,W t.g,W t.t] 142)).cell? (J (O w.1) 2)=E (W t.t):=Jg;have B:p<O (w.alloc (JM #[G t.k,W t.g,W t.t] 142)).1:=Jq;have q:O w.1<O (w.alloc (JM #[G t.k,W t.g,W t.t] 142)).1:=Js;go_enter func226,ntmps226;go_wp2_with fail;go_region_held (λw'=>w'.cell? (J p 0)=E (.map (E g))/\w'.cell? (J p 1)=E (.map (E i))/\w'.cell? (J (O w.1) 2)=E (W t.t)) (go_keep) (first|(go_at_call 196;refine(Sw g i (Z d) d t.t 1 _ (C.kept (yN).drew) F R Jd).mono ?_;rintro e w2 ⟨rfl,f⟩;have q0:=(f.cell (p:=J p 0) B).trans (show(w.alloc (JM #[G t.k,W t.g,W t.t] 142)).drew.cell? (J p 0)=_ from M);have q1:=(f.cell (p:=J p 1) B).trans (show(w.alloc (JM #[G t.k,W t.g,W t.t] 142)).drew.cell? (J p 1)=_ from N);have q2:=(f.cell (p:=J (O w.1) 2) q).trans (show(w.alloc (JM #[G t.k,W t.g,W t.t] 142)).drew.cell? (J (O w.1) 2)=_ from P);have Q:=S f;clear f));have K:=(@zC w (JM #[G t.k,W t.g,W t.t] 142)).trans (((yN).drew.trans Q).mono (Nat.le_of_lt q));cases y:ZL d t.t 1
  .have HH:=S y;go_wp2;go_ret;have j:ZT d a t Vt b = -1:=by simp[ZT,D H,D HH]
   exact⟨zK j.symm,λs=>yV s (by rw[j];decide),zE.Q K⟩
  .have HH:=S y;go_wp2;go_ret;refine⟨zK (by simp[ZT,D H,D HH]),λ_=>?_,zE.Q K⟩;rw[(by simp[C8,D H]:C8 d t Vt=Vt),(by simp[C3,D H]:C3 t b=b)];exact m.kept K
 .have H:=S c;have k:(t.k==1)=Vt:=Jq;have l:(t.k==2)=Vt:=Jq;have o:(t.k==4)=Vt:=Jq;have n:(t.k==3)=Vt:=Jq;go_enter func226,ntmps226;go_wp2;go_ret;have j:ZT d a t Vt b = -1:=by have:=D H;simp[ZT,this]
  exact⟨zK j.symm,λs=>yV s (by rw[j];decide),zE.Q zC⟩
 all_goals
  have o:(t.k==4)=Vt:=Jq
  have n:(t.k==3)=Vt:=Jq
  go_enter func226,ntmps226
  go_wp2
  go_ret
  refine⟨zK (by simp[ZT,D H]),λ_=>?_,(NM w p 2 _).trans (zE.Q zC)⟩
  rw[(by simp[C8,D H]:C8 d t Vt=Vp),(by simp[C3,D H]:C3 t b=b)]
  exact(m.set2 Vp).kept zC
def Oq(a:Jf)(s:JZ):Int:=if ZL a s 2=Vp then 2 else if ZL a s 3=Vp then 3 else -1
def lE(p c d l a s w)(h:Ft w p c d Vp l)(j:AH w c d a (Z a))(k:s.size<=maxLen):Calls Vb 245 #[Qp p,W s] w λe w'=>e=i9 (G (Oq a s))/\Hid (Ft w' p c d (!ZL a s 2) l)/\Hid (zE w w' p):=by
 have m:=S h;obtain⟨n,o,t,u,A⟩:=h;have C:p<O w.1:=jl n;go_enter func245,ntmps245;go_wp2_with fail;go_call Sw c d (Z a) a s 2 _ j F k Jd as e w1 ⟨rfl,b⟩;have H:=S (m.kept b);have X:=S (j.kept b);have q:=S b;have v:=H.c0;have y:=H.c1;have z:=H.c2;have B:=H.fz 2;cases i:ZL a s 2
 .have HH:=S i;go_wp2_with fail;go_call Sw c d (Z a) a s 3 _ X F k Jd as e w2 ⟨rfl,f⟩;have x:=S (H.kept f);have K:=q.trans (f.mono q.size);cases g:ZL a s 3
  .have Q:=S g;go_wp2;go_ret;exact⟨zK (by simp[Oq,D HH,D Q]),by simpa[D HH] using x,S (zE.Q K)⟩
  .have Q:=S g;go_wp2;go_ret;exact⟨zK (by simp[Oq,D HH,D Q]),by simpa[D HH] using x,S (zE.Q K)⟩
 .have HH:=S i;go_wp2;go_ret;exact⟨zK (by simp[Oq,D HH]),S (by rw[D HH];exact H.set2 Vt),S ((zE.Q q).trans (NM _ p 2 _))⟩
def dZ(p k l b a c t w)(h:Ft w p k l Vp b)(s:AH w k l c (Z c))(z:t.t.size<=maxLen)(q:b<=1048576):Calls Vb 225 #[Qp p,b9 #[G t.k,W t.g,W t.t],i7 a] w λe w'=>e=i9 (G (ZT c a t Vp b))/\S6 c t Vp b (ZT c a t Vp b) w w' p k l:=by
 have v:=S (s.kept (@zC w (JM #[G t.k,W t.g,W t.t] 142)));have i:=S (h.kept (@zC w (JM #[G t.k,W t.g,W t.t] 142)));clear s;have M:p<O w.1:=jl h.c0;have B:=i.c0;have C:=i.c3;have L:=i.fz 3;have Q:=h.c3;have x:=h.fz 3;have d:t.k=3\/t.k=5\/t.k=7\/(t.k≠3/\t.k≠5/\t.k≠7):=I;rcases d with d|d|d|d
 .have H:=S d;have o:(t.k==3)=Vp:=Jq;clear d;go_enter func225,ntmps225;go_wp2_with fail;go_call lE p k l b c t.t _ i v z as e w1 ⟨rfl,m,n⟩;go_wp2;go_ret;refine⟨zK (by simp[ZT,Oq,D H]),λ_=>?_,(zE.Q zC).trans n⟩;rw[(by cases y:ZL c t.t 2<;>simp[C8,D H,y]:C8 c t Vp=(!ZL c t.t 2)),(by simp[C3,D H]:C3 t b=b)];exact m
 .have H:=S d;have o:(t.k==3)=Vt:=Jq;have u:(t.k==5)=Vp:=Jq;clear d;by_cases j:0<b
  .have HO:=S j;have K:(0:Int)<b:=I;go_enter func225,ntmps225;go_wp2;go_ret;refine⟨zK (by simp[ZT,D H,D HO]),λ_=>?_,?_⟩
   .rw[(by simp[C8,D H]:C8 c t Vp=Vp),(by simp[C3,D H]:C3 t b=b-1)]
    first
     |exact(h.set3 (b-1) _ I).kept zC
     |exact i.set3 (b-1) _ I
   .first
     |exact(NM w p 3 _).trans (zE.Q zC)
     |exact(zE.Q zC).trans (NM _ p 3 _)
  .have HO:=S j;have K:¬ (0:Int)<b:=I;go_enter func225,ntmps225;go_wp2;go_ret;have f:ZT c a t Vp b = -1:=by simp[ZT,D H,D HO]
   exact⟨zK f.symm,λg=>yV g (by rw[f];decide),zE.Q zC⟩
 .have H:=S d;have o:(t.k==3)=Vt:=Jq;have u:(t.k==5)=Vt:=Jq;have A:(t.k==7)=Vp:=Jq;clear d;by_cases j:b=0
  .subst j;cases a
   all_goals
    go_enter func225,ntmps225
    go_wp2
    go_ret
   .have f:ZT c Vt t Vp 0 = -1:=by simp[ZT,D H]
    exact⟨zK f.symm,λg=>yV g (by rw[f];decide),zE.Q zC⟩
   .refine⟨zK (by simp[ZT,D H]),λ_=>?_,zE.Q zC⟩;rw[(by simp[C8,D H]:C8 c t Vp=Vp),(by simp[C3,D H]:C3 t 0=0)];exact i
  .have HO:=S j;have K:((b:Int)==0)=Vt:=Jq;go_enter func225,ntmps225;go_wp2;go_ret;have f:ZT c a t Vp b = -1:=by simp[ZT,D H,D HO]
   exact⟨zK f.symm,λg=>yV g (by rw[f];decide),zE.Q zC⟩
 .have H:=S d;have o:(t.k==3)=Vt:=Jq;have u:(t.k==5)=Vt:=Jq;have A:(t.k==7)=Vt:=Jq;go_enter func225,ntmps225;go_wp2;go_ret;have f:ZT c a t Vp b = -1:=by have:=D H;simp[ZT,this]
  exact⟨zK f.symm,λg=>yV g (by rw[f];decide),zE.Q zC⟩
def sV(p i j d g a f t w)(h:Ft w p i j g d)(n:AH w i j f (Z f))(m:t.t.size<=maxLen)(q:d<=1048576):Calls Vb 203 #[Qp p,b9 #[G t.k,W t.g,W t.t],i7 a] w λe w'=>e=i9 (G (ZT f a t g d))/\S6 f t g d (ZT f a t g d) w w' p i j:=by
 have l:=S (n.kept (@zC w (JM #[G t.k,W t.g,W t.t] 142)));have k:=S (h.kept (@zC w (JM #[G t.k,W t.g,W t.t] 142)));have s:p<O w.1:=jl h.c0;have o:=k.c2;cases g
 .go_enter func203,ntmps203;go_wp2_with fail;go_call dY p i j d a f t _ k l m q as e w1 ⟨rfl,c,b⟩;have H:=S c;have K:=S b;go_wp2;go_ret;exact⟨F,H,(zE.Q zC).trans K⟩
 .go_enter func203,ntmps203;go_wp2_with fail;go_call dZ p i j d a f t _ k l m q as e w1 ⟨rfl,c,b⟩;have H:=S c;have K:=S b;go_wp2;go_ret;exact⟨F,H,(zE.Q zC).trans K⟩
def Lf(c k w)(h:(Ai c:Int)=k):Calls Vb 191 #[.int .u8 (c.toNat:Int)] w λe w'=>e=i9 (G k)/\w'=w:=by subst h;exact Le c w
def AH.of_blocks{n}(h:AH w bo bs xs n)(m:w'.heap[bo]?=w.heap[bo]?)(o:w'.heap[bs]?=w.heap[bs]?):AH w' bo bs xs n:=by obtain⟨⟨a,⟨l,e,s,c,t,p⟩,i⟩,⟨b,⟨f,d,q,g,K,H⟩,j⟩,k⟩:=h;exact⟨⟨a,⟨l,e,m.trans s,c,t,p⟩,i⟩,⟨b,⟨f,d,o.trans q,g,K,H⟩,j⟩,k⟩
structure Cx(w wr:JY)(p bo d L:Nat)(e:Jf)(s:JZ)(b a:Nat)(c:JA)(v:Value):Prop where
 sc:Sc wr p bo d L s b a v
 own:wr.ownsRow p 142 3 v (Z c) (ZK c)
 ne:v.ownBlock≠E p
 idx:AH wr bo d e (Z e)
 bel:Below p w wr
 rd:Gy e s b c
 bl:Ir s b a
 le1:b<=a
 le2:a<=s.size
 hbo:bo<p
 hbs:d<p
def Cx.lt{a:Nat}(h:Cx w wr p bo bs L xs s gap a acc v):p<O wr.1:=jl h.sc.c0
def Cx.y{a:Nat}(h:Cx w wr p bo bs L xs s gap a acc v)(b:Qb wr w'):Cx w w' p bo bs L xs s gap a acc v:=by
 have d:=h.lt;obtain⟨⟨l,m,n,q,t,u,x,y⟩,j,z,f,c,rd,k,g,i,H,K⟩:=h;have e:=λo=>b.cell (p:=J p o) d
 exact⟨⟨(e _).trans l,(e _).trans m,(e _).trans n,(e _).trans q,(e _).trans t,(e _).trans u,(e _).trans x,λo=>(b.frozen (p:=J p o) d).trans (y o)⟩,
  j.kept (Zv b JL) (Classical.em _),z,f.kept b,c.trans (b.mono (Nat.le_of_lt d)),rd,k,g,i,H,K⟩
def Cx.drew{w wr p d e L c a f s b v}(h:Cx w wr p d e L f s c a b v):Cx w wr.drew p d e L f s c a b v:=
 h.y (yN).drew
def Cx.blank{a:Nat}(h:Cx w wr p bo bs L xs s gap a acc v)(Q:a<s.size)(z:Ai (bt s a)=1)(n:Int)(A:n=((a+1:Nat):Int)):Cx w (wr.setCell ⟨p,5,JL⟩ (G n)) p bo bs L xs s gap (a+1) acc v:=by
 subst A;obtain⟨⟨i,j,k,l,m,t,u,x⟩,d,f,c,b,rd,g,B,C,H,K⟩:=h;have e:∀o,o≠5->(wr.setCell ⟨p,5,JL⟩ (G ((a+1:Nat):Int))).cell? ⟨p,o,JL⟩=wr.cell? ⟨p,o,JL⟩:=λo N=>yj _ _ _ _ Js
 refine⟨⟨(e _ I).trans i,(e _ I).trans j,(e _ I).trans k,(e _ I).trans l,(e _ I).trans m,yu _ _ _ t,(e _ I).trans u,λo=>by rw[yx];exact x o⟩,
  d.kept (Mk _ p 5 _) (yX f),f,c.set I I,b.setCell yk _,rd,λq y M=>?_,I,I,H,K⟩
 by_cases e:q=a
 .subst e;exact z
 .exact g q y I
def Cx.fin{d q K g:Nat}(h:Cx w wr p bo bs L xs s gap d acc v)(y:Sc w' p bo bs L s q q (Ql g (Z acc+1) cap))(X:w'.ownsRow p 142 3 (Ql g (Z acc+1) cap) (Z acc+1) (ZK (acc++[⟨(K:Int),s.extract gap d,s.extract d q⟩])))(k:g≠p)(f:Bp wr w' p v.ownBlock)(a:d<s.size)(c:Ai (bt s d)≠1)(Q:Dm xs s d (q-d) K)(u:d<=q):Cx w w' p bo bs L xs s q q (acc++[⟨(K:Int),s.extract gap d,s.extract d q⟩]) (Ql g (Z acc+1) cap):=by
 have t:=h.lt;have H:∀b:Nat,b<p->E b≠v.ownBlock:=λb o e=>by have:=(h.own.lt b e.symm).1;omega
 have j:d+(q-d)=q:=I;have x:=h.rd.step h.le1 a h.bl c Q;rw[j]at x;refine⟨y,?_,by simp[i8];exact k,h.idx.of_blocks (f.block bo (Jy h.hbo) (Jy h.hbo) (H _ h.hbo)) (f.block bs (Jy h.hbs) (Jy h.hbs) (H _ h.hbs)),?_,x,λz m n=>I,yk,?_,h.hbo,h.hbs⟩
 .rw[yr];exact X
 .exact h.bel.trans ⟨f.os,f.tape,f.output,f.size,λi l=>f.block i I I (H i l)⟩
 .have:=Q.2.1;omega
def Wl(p f i L n s d b v)(H q:Nat)(j k c w a)(h:Cx w a p f i L n s d b c v)(x:s.size<=20000)(l:b<=q)(m:q<=s.size)(K:j=(H:Int))(Q:k=(q:Int)):Calls Vb 199 #[Qp p,G j,G k] a λe w'=>e=i9 (i5 #[])/\∃g cap:Nat,Hid (Sc w' p f i L s q q (Ql g (Z c+1) cap))/\Hid (w'.ownsRow p 142 3 (Ql g (Z c+1) cap) (Z c+1) (ZK (c++[⟨(H:Int),s.extract d b,s.extract b q⟩])))/\g≠p/\Bp a w' p v.ownBlock:=by subst K Q;have o:=h.rd.1;have t:=h.le1;have u:=h.le2;exact lD p f i L s d b v H q p c a h.sc h.le1 l m h.own h.ne I (Nat.le_of_lt h.lt)
def Ln(p n o L m s l j v)(H q:Nat)(t u k w f)(h:Cx w f p n o L m s l j k v)(B:s.size<=20000)(z:j<=q)(A:q<=s.size)(y:t=(H:Int))(i:u=(q:Int))(X:j<s.size)(x:Ai (bt s j)≠1)(K:Dm m s j (q-j) H):Calls Vb 199 #[Qp p,G t,G u] f λe w'=>e=i9 (i5 #[])/\∃(Q:JA)(C:Value),Hid (Cx w w' p n o L m s q q Q C):=by go_call Wl p n o L m s l j v H q t u k w f h B z A y i as e w' ⟨rfl,g,cap,a,b,c,d⟩;exact⟨F,_,_,S (h.fin a b c d X x K z)⟩
def gE(s:JZ)(i):s.extract i i=⟨#[]⟩:=by apply jy;rw[ByteArray.data_extract];simp;omega
def za2{i q}(h:i<=q):s.extract i q=sub s i (q-i):=by unfold sub;rw[(I:i+(q-i)=q)]
def lF(w):Calls Vb 200 #[G 2] w λe w'=>e=i9 (G 1)/\w'=w:=by go_enter func200,ntmps200;go_wp2;go_ret;exact⟨F,F⟩
def lG(w):Calls Vb 200 #[G 3] w λe w'=>e=i9 (G 2)/\w'=w:=by go_enter func200,ntmps200;go_wp2;go_ret;exact⟨F,F⟩
def sW(p bo bs L xs s w)(h:Cx w w p bo bs L xs s 0 0 [] Jl)(hs:s.size<=20000)(hL:L<=16)(C:∀j,j<Z xs->(r xs j).s.size<=L)(hv:ZZ xs)(hk:LV xs):Calls Vb 160 #[Qp p] w λe w'=>e=i9 (i5 #[])/\∃(g cap:Nat)(us:JA),Hid (w'.cell? (J p 6)=E (Ql g (Z us) cap))/\(p<=g/\Z us<=cap/\cap<=maxLen)/\Hid (CX w' g us (Z us))/\Hid (Zr xs s 0 us)/\Below p w w':=by
 have HS:=S h;have B:=S C;go_enter func160,ntmps160;go_wp2_with fail;go_step3;go_wp2_with fail;go_step3;go_wp2;go_loopg [2] (s.size) (λk _ wr=>∃(gap start:Nat)(acc:JA)(v:Value),k=s.size-start/\Hid (Cx w wr p bo bs L xs s gap start acc v));case atStart=>exact⟨0,0,[],_,I,HS⟩
 case round=>
  obtain⟨gap,start,acc,v,T,H⟩:=hrel;have c3:=H.sc.c3;have c5:=H.sc.c5;have le2:=H.le2;by_cases Q:start<s.size
  .have f:(start:Int)<s.size:=I;go_wp2_with fail;go_region_held (λw'=>w'.cell? (J p 3)=E (W s)/\w'.cell? (J p 5)=E (G start)) (go_keep) (fail);go_wp2_with fail;have he:=YZ (bt s start);have hc:Ai (bt s start)=1\/Ai (bt s start)=2\/Ai (bt s start)=3\/Ai (bt s start)=6\/Ai (bt s start)=4\/Ai (bt s start)=5\/Ai (bt s start)=0:=I;have o:=H.sc.fz 5;have d:(0:Int)<=start:=I;rcases hc with hc|hc|hc|hc|hc|hc|hc
   .have X:(Ai s[start]:Int)=1:=by rw[ZV Q,hc];rfl
    have HC:=S hc;go_region_held (λw'=>w'.cell? (J p 3)=E (W s)/\w'.cell? (J p 5)=E (G start)) (go_keep) (first|(go_at_call 191;refine(Lf _ 1 _ X).mono ?_;rintro e w2 ⟨rfl,hx⟩;obtain rfl:=hx.symm));go_wp2_with fail;go_roundg (s.size-(start+1));case measure=>omega
    case rel=>exact⟨gap,start+1,acc,v,F,S (H.drew.drew.blank Q HC _ I)⟩
   .have X:(Ai s[start]:Int)=2:=by rw[ZV Q,hc];rfl
    have HC:=S hc;have K:=S H.drew.drew;go_region_held (λw'=>w'.cell? (J p 3)=E (W s)/\w'.cell? (J p 5)=E (G start)) (go_keep) (first|(go_at_call 191;refine(Lf _ 2 _ X).mono ?_;rintro e w2 ⟨rfl,hx⟩;obtain rfl:=hx.symm));go_wp2;go_loop [4] (λev=>∃q:Nat,start+1<=q/\q<=s.size/\ev=G q/\Hid (∀j,start<=j->j<q->Ai (bt s j)=2)) (λev=>s.size-(intOf ev).toNat);case atStart=>
     refine⟨start+1,yk,I,Jn,S (λj h1 h2=>?_)⟩;have:j=start:=I;subst this;exact HC
    case round=>
     obtain⟨q,a,hf,rfl,hn⟩:=hrel;go_wp2_with fail;go_call Vs p bo bs L s gap start v 2 q _ K.sc hf I as e w3 ⟨⟨y,rfl,hy⟩,hx⟩;obtain rfl:=hx.symm;have HY:=S hy;cases y
     .have HT:=S (show Dm xs s start (q-start) 1 by
       have no:¬ (q<s.size/\(Ai (bt s q)=2\/(Ai (bt s q)=3/\2=3))):=λhh=>jq (HY.2 hh)
       have u:start+(q-start)=q:=I
       exact⟨I,I,yW ⟨HC,F,λj hj=>hn (start+j) I I,λhx hd=>no ⟨I,yW (by rw[u]at hd;exact hd)⟩⟩⟩)
      go_wp2_with (first|(go_at_call 200;refine(lF _).mono ?_;rintro e w3 ⟨rfl,hx⟩;obtain rfl:=hx.symm));go_call Ln p bo bs L xs s gap start v 1 q _ _ acc w _ K hs I hf F rfl Q (Jy (D HC)) HT as e w4 ⟨rfl,acc',v',hsn'⟩;go_wp2_with fail;go_roundg (s.size-q);case measure=>omega
      case rel=>exact⟨q,q,acc',v',F,hsn'⟩
     .have P:=S (show q<s.size/\∀j,start<=j->j<q+1->Ai (bt s j)=2 from by
       have hy:=HY.1 F
       refine⟨hy.1,λj h1 h2=>?_⟩
       by_cases e:j=q
       .subst e
        exact hy.2.elim (λx=>x) (λx=>yV x.2 Jd)
       .exact hn j h1 I)
      have b:=P.1;go_wp2;exact⟨⟨q+1,I,I,Jn,S P.2⟩,Ji⟩
   .have X:(Ai s[start]:Int)=3:=by rw[ZV Q,hc];rfl
    have HC:=S hc;have K:=S H.drew.drew;go_region_held (λw'=>w'.cell? (J p 3)=E (W s)/\w'.cell? (J p 5)=E (G start)) (go_keep) (first|(go_at_call 191;refine(Lf _ 3 _ X).mono ?_;rintro e w2 ⟨rfl,hx⟩;obtain rfl:=hx.symm));go_wp2;go_loop [4] (λev=>∃q:Nat,start+1<=q/\q<=s.size/\ev=G q/\Hid (∀j,start<=j->j<q->(Ai (bt s j)=2\/Ai (bt s j)=3))) (λev=>s.size-(intOf ev).toNat);case atStart=>
     refine⟨start+1,yk,I,Jn,S (λj h1 h2=>?_)⟩;have:j=start:=I;subst this;exact yX HC
    case round=>
     obtain⟨q,a,hf,rfl,hn⟩:=hrel;go_wp2_with fail;go_call Vs p bo bs L s gap start v 3 q _ K.sc hf I as e w3 ⟨⟨y,rfl,hy⟩,hx⟩;obtain rfl:=hx.symm;have HY:=S hy;cases y
     .have HT:=S (show Dm xs s start (q-start) 2 by
       have no:¬ (q<s.size/\(Ai (bt s q)=2\/(Ai (bt s q)=3/\3=3))):=λhh=>jq (HY.2 hh)
       have u:start+(q-start)=q:=I
       exact⟨I,I,yX (yW ⟨HC,F,λj hj=>hn (start+j) I I,λhx hd=>no ⟨I,by rw[u]at hd;exact hd.elim yW (λx=>yX ⟨x,F⟩)⟩⟩)⟩)
      go_wp2_with (first|(go_at_call 200;refine(lG _).mono ?_;rintro e w3 ⟨rfl,hx⟩;obtain rfl:=hx.symm));go_call Ln p bo bs L xs s gap start v 2 q _ _ acc w _ K hs I hf F rfl Q (Jy (D HC)) HT as e w4 ⟨rfl,acc',v',hsn'⟩;go_wp2_with fail;go_roundg (s.size-q);case measure=>omega
      case rel=>exact⟨q,q,acc',v',F,hsn'⟩
     .have P:=S (show q<s.size/\∀j,start<=j->j<q+1->(Ai (bt s j)=2\/Ai (bt s j)=3) from by
       have hy:=HY.1 F
       refine⟨hy.1,λj h1 h2=>?_⟩
       by_cases e:j=q
       .subst e
        exact hy.2.elim (λx=>yW x) (λx=>yX x.1)
       .exact hn j h1 I)
      have b:=P.1;go_wp2;exact⟨⟨q+1,I,I,Jn,S P.2⟩,Ji⟩
   .have X:(Ai s[start]:Int)=6:=by rw[ZV Q,hc];rfl
    have HC:=S hc;have K:=S H.drew.drew;have c2:=H.sc.c2;go_region_held (λw'=>w'.cell? (J p 3)=E (W s)/\w'.cell? (J p 5)=E (G start)) (go_keep) (first|(go_at_call 191;refine(Lf _ 6 _ X).mono ?_;rintro e w2 ⟨rfl,hx⟩;obtain rfl:=hx.symm));have N:IntKind.i64.wrap ((start:Int)+L)=(start:Int)+L:=by rw[IntKind.wrap_i64];omega
    have z:min ((start:Int)+L) (s.size:Int)=((min (start+L) s.size:Nat):Int):=I;go_wp2_with fail;go_region_held (λw'=>w'.cell? (J p 2)=E (G L)/\w'.cell? (J p 3)=E (W s)/\w'.cell? (J p 5)=E (G start)) (go_keep) (fail);go_wp2_with fail;have c:=S K.drew;go_loopw [5] (λev wq=>∃q:Nat,start<=q/\q<=s.size/\ev=G q/\Hid (∀m,q<start+m->start+m<=s.size->¬ Bf xs (sub s start m))/\Hid (Cx w wq p bo bs L xs s gap start acc v)) (λev _=>(intOf ev).toNat);case atStart=>
     refine⟨min (start+L) s.size,I,I,F,S (λm h1 h2 ho=>?_),c⟩;obtain⟨j,hj,e⟩:=ho;have h3:=(D B) j hj;rw[e,FB h2]at h3;omega
    case round=>
     obtain⟨q,a,hf,rfl,hn,H⟩:=hrel;have d0:=H.sc.c0;have d1:=H.sc.c1;have d3:=H.sc.c3;have d5:=H.sc.c5;by_cases R:start<q
     .have A:(start:Int)<q:=I;have l:(start:Int)<=q:=I;have M:(q:Int)<=s.size:=I;have U:=S (za2 (s:=s) a);have ha:=H.lt;go_wp2_with fail;go_region_held (λw'=>w'.cell? (J p 0)=E (.map (E bo))/\w'.cell? (J p 1)=E (.map (E bs))/\w'.cell? (J p 3)=E (W s)/\w'.cell? (J p 5)=E (G start)) (go_keep) (first|(go_at_call 201;refine(iS bo bs (Z xs) xs (s.extract start q) _ H.drew.idx F hk (by rw[D U,FB I];unfold maxLen;omega)).mono ?_;rintro e w5 ⟨⟨y,rfl,hy⟩,hb5⟩;have HY:=S hy;have hb:=S (H.drew.y hb5);have e0:=hb.sc.c0;have e1:=hb.sc.c1;have e3:=hb.sc.c3;have e5:=hb.sc.c5;clear hy hb5));cases y
      .have HN:=S (show ∀m,q-1<start+m->start+m<=s.size->¬ Bf xs (sub s start m) from λm h1 h2 ho=>by
        by_cases e:q<start+m
        .exact hn m e h2 ho
        .have e2:m=q-start:=I
         subst e2
         rw[<-D U]at ho
         exact jq (HY.2 ho))
       go_wp2;exact⟨⟨q-1,I,I,by first|(go_num;done)|(congr 1;omega),HN,hb⟩,Ji⟩
      .have HT:=S (show Dm xs s start (q-start) 3 by
        refine⟨I,I,yX (yX (yX (yX (yW ⟨HC,yW ⟨F,?_,λm h1 h2=>hn m I h2⟩⟩))))⟩
        rw[<-D U]
        exact HY.1 F)
       go_wp2_with fail;go_call Ln p bo bs L xs s gap start v 3 q _ _ acc w _ hb hs I hf F rfl Q (Jy (D HC)) HT as e w6 ⟨rfl,acc',v',hsn'⟩;go_wp2_with fail;go_roundg (s.size-q);case measure=>omega
       case rel=>exact⟨q,q,acc',v',F,hsn'⟩
     .have HT:=S (show Dm xs s start (start+1-start) 6 by
       rw[(I:start+1-start=1)]
       exact⟨yk,I,yX (yX (yX (yX (yW ⟨HC,yX ⟨F,F,λm h1 h2=>hn m I h2⟩⟩))))⟩)
      have A:¬ (start:Int)<q:=I;go_wp2_with fail;go_call Ln p bo bs L xs s gap start v 6 (start+1) _ _ acc w _ H hs I I F I Q (Jy (D HC)) HT as e w6 ⟨rfl,acc',v',hsn'⟩;go_wp2_with fail;go_roundg (s.size-(start+1));case measure=>omega
      case rel=>exact⟨start+1,start+1,acc',v',F,hsn'⟩
   focus
    have X:(Ai s[start]:Int)=4:=by rw[ZV Q,hc];rfl
    have HT:=S (by rw[(I:start+1-start=1)];exact⟨yk,I,yX (yX (yW ⟨hc,F,F⟩))⟩:Dm xs s start (start+1-start) 4)
    have HC:=S hc
    have K:=S H.drew.drew
    go_region_held (λw'=>w'.cell? (J p 3)=E (W s)/\w'.cell? (J p 5)=E (G start)) (go_keep) (first|(go_at_call 191;refine(Lf _ 4 _ X).mono ?_;rintro e w2 ⟨rfl,hx⟩;obtain rfl:=hx.symm))
    go_wp2_with fail
    refine(Ln p bo bs L xs s gap start v 4 (start+1) _ _ acc w _ K hs I I F I Q (Jy (D HC)) HT).mono ?_
   rotate_left
   focus
    have X:(Ai s[start]:Int)=5:=by rw[ZV Q,hc];rfl
    have HT:=S (by rw[(I:start+1-start=1)];exact⟨yk,I,yX (yX (yX (yW ⟨hc,F,F⟩)))⟩:Dm xs s start (start+1-start) 5)
    have HC:=S hc
    have K:=S H.drew.drew
    go_region_held (λw'=>w'.cell? (J p 3)=E (W s)/\w'.cell? (J p 5)=E (G start)) (go_keep) (first|(go_at_call 191;refine(Lf _ 5 _ X).mono ?_;rintro e w2 ⟨rfl,hx⟩;obtain rfl:=hx.symm))
    go_wp2_with fail
    refine(Ln p bo bs L xs s gap start v 5 (start+1) _ _ acc w _ K hs I I F I Q (Jy (D HC)) HT).mono ?_
   rotate_left
   focus
    have X:(Ai s[start]:Int)=0:=by rw[ZV Q,hc];rfl
    have HT:=S (by rw[(I:start+1-start=1)];exact⟨yk,I,yX (yX (yX (yX (yX ⟨hc,F,F⟩))))⟩:Dm xs s start (start+1-start) 6)
    have HC:=S hc
    have K:=S H.drew.drew
    go_region_held (λw'=>w'.cell? (J p 3)=E (W s)/\w'.cell? (J p 5)=E (G start)) (go_keep) (first|(go_at_call 191;refine(Lf _ 0 _ X).mono ?_;rintro e w2 ⟨rfl,hx⟩;obtain rfl:=hx.symm))
    go_wp2_with fail
    refine(Ln p bo bs L xs s gap start v 6 (start+1) _ _ acc w _ K hs I I F I Q (Jy (D HC)) HT).mono ?_
   all_goals
    rintro e w4 ⟨rfl,acc',v',hsn'⟩
    go_wp2_with fail
    go_roundg (s.size-(start+1))
    case measure=>omega
    case rel=>exact⟨start+1,start+1,acc',v',F,hsn'⟩
  .go_wp2_with fail;go_region_held (λw'=>w'.cell? (J p 3)=E (W s)/\w'.cell? (J p 5)=E (G start)) (go_keep) (fail);go_wp2_with fail;have K:=S H.drew;have HE:=S (I:start=s.size);go_call Wl p bo bs L xs s gap start v 7 start _ _ acc w _ K hs yk le2 F rfl as e w4 ⟨rfl,g,cap,hsc,hown,hgp,hkp⟩;have V:=S hkp;go_wp2_with fail;rw[Exit.noGoto_normal];go_end0;refine⟨F,g,cap,acc++[⟨7,s.extract gap start,s.extract start start⟩],S ?_,?_,S ?_,S ?_,?_⟩
   .rw[yr];exact hsc.c6
   .refine⟨(hown.lt g F).1,?_⟩;rw[yr];obtain⟨_,⟨h,_⟩|⟨g',t,n,h,_,_,h1,h2,_⟩⟩:=D hown
    .cases h
    .injection h with _ _ h;subst h;exact⟨h1,h2⟩
   .have ho:w4.ownsRow p 142 3 (Ql g (Z (acc++[(⟨7,s.extract gap start,s.extract start start⟩:zR)])) cap) (Z (acc++[(⟨7,s.extract gap start,s.extract start start⟩:zR)])) (ZK (acc++[(⟨7,s.extract gap start,s.extract start start⟩:zR)])):=by rw[yr];exact hown
    exact(OZ ho).2
   .have h1:=(D K);have h2:=h1.rd.done (by have:=h1.le1;have:=h1.le2;omega) (D HE ▸ h1.bl);rw[gE,D HE];exact h2
   .have h1:=(D K);refine h1.bel.trans ⟨V.os,V.tape,V.output,V.size,λi hi=>V.block i (Jy h1.lt) I (λe=>?_)⟩;have:=(h1.own.lt i e.symm).1;omega
def MJ:(prog.info? 3).map (λi=>(i.zero,i.size,i.bytes))=E (E (G 0),1,8):=Jk
def Nv(w:JY)(v):∀j u,(zz [v])[j]?=E u->(w.alloc (JM #[G v] 3)).cell? ((J (O w.1) 0).add j)=E u:=by intro j u a;rw[jO];have:=yF (w:=w.alloc (JM #[G v] 3)) (b:=O w.1) (jL w _) 0 1;exact this j u (by simpa[zz] using a)
theorem YH(a):∀k,BM a k<=k
 |0=>yk
 |k+1=>by
  have:=YH a k;simp only[BM,C3];split
  .omega
  .split<;>omega
def lH(b a k):zh b a k = -1\/0<=zh b a k:=by unfold zh ZT;(repeat' split)<;>omega
def lI(bo bs b' j d xs ts w)(hm:Z ts<=1048576)(l:AH w bo bs xs (Z xs))(hc:zM xs 0)(hv:Ci w b' j ts)(hh:Y1 ts)(ht:b'<O w.1):Calls Vb 162 #[b9 #[.map (E bo),.map (E bs)],Je b' j (Z ts) d] w λe w'=>(∃(a:Option Addr)(c:Nat)(us:JG)(v:Int),e=i9 (i5 #[.slice a (Z us) c,G v])/\Gj w' (O w.1) a us/\LC xs (zM xs 0) ts us v)/\Qb w w':=by
 have h4:∀hF:JY,(Instr.makeSlice 72 (G 0) (G (Z ts:Int))).run Vb hF=.ok (Ql (O hF.1) 0 (Z ts)) (hF.alloc (JM (madeCells #[G 0] (Z ts)) 3)):=by obtain⟨inf,hi,hz⟩:=jx.1 MJ;simp only[Prod.mk.injEq]at hz;obtain⟨hz,hj,hI⟩:=hz;intro hF;have:=run_make (P:=Vb) hF 72 3 inf _ underlying72 hi hz .i64 .i64 0 (Z ts) I I (by rw[hI];omega) I;simpa[hj,Value.cells] using this
 have h8:bo<O w.1:=by obtain⟨t,hD,_⟩:=l.ops;exact hD.lt
 have h6:bs<O w.1:=by obtain⟨t,hD,_⟩:=l.srts;exact hD.lt
 go_enter func162,ntmps162;go_wp2_with fail;obtain⟨W0,hG⟩:=Jx (((w.alloc (JM #[.map (E bo),.map (E bs)] 173)).alloc (JM #[.map (E bo),.map (E bs),i7 Vt,G 0] 263)).alloc (JM (madeCells #[G 0] (Z ts)) 3));have R:=S (show Ft W0 (O w.1+1) bo bs Vt 0 by
  rw[hG]
  refine⟨?_,?_,?_,?_,λo=>?_⟩<;>simp[go_sem])
 have he:=S (show AH W0 bo bs xs (Z xs) by
  rw[hG]
  exact((l.kept zC).kept zC).kept zC)
 have hd:=S (show W0.ownsRow (O w.1+2) 3 1 (Ql (O w.1+1+1) 0 (Z ts)) 0 (zz []) by
  rw[hG]
  have h0:=World.ownsRow_made (base:=O w.1+2) (e:=3) (size:=1) ((w.alloc (JM #[.map (E bo),.map (E bs)] 173)).alloc (JM #[.map (E bo),.map (E bs),i7 Vt,G 0] 263)) (madeCells #[G 0] (Z ts)) (Z ts) Js Jm (by rw[size_madeCells];omega)
  simpa[zz] using h0)
 have ha:=S (show Qb w W0 by
  rw[hG]
  exact((zC).alloc Js _).alloc Jq _)
 rw[<-hG];go_loopw [7,19] (λrv iv wr=>∃(k g c:Nat),k<=Z ts/\iv=G k/\rv = Ql g k c/\Hid (CM xs ts k)/\Hid (Ft wr (O w.1+1) bo bs (BC xs ts k) (BM ts k))/\Hid (AH wr bo bs xs (Z xs))/\Hid (wr.ownsRow (O w.1+2) 3 1 (Ql g k c) k (zz (CY xs ts k)))/\Hid (Qb w wr)/\Hid (k=Z ts->¬ (0<Z ts/\(Aa ts (Z ts-1)).k=7))) (λ_ iv _=>Z ts-(intOf iv).toNat);case atStart=>exact⟨0,O w.1+1+1,Z ts,yn,F,F,S (λi hi=>I),R,he,hd,ha,S (λh=>I)⟩
 case round=>
  obtain⟨k,g,c,hk,rfl,rfl,x,hA,hp,hB,X,z⟩:=hrel;by_cases V:k<Z ts
  .obtain⟨a0,a1,a2⟩:=((hv) k V).y X ht;have h5:=jl hA.c0;have hn:=S (hA.kept (@zC wr (JM #[G (Aa ts k).k,W (Aa ts k).g,W (Aa ts k).t] 142)));have L:=S (hp.kept (@zC wr (JM #[G (Aa ts k).k,W (Aa ts k).g,W (Aa ts k).t] 142)));have hu:BM ts k<=1048576:=by have:=YH ts k;omega
   have h3:=hB.lt g F;have hC:(((k:Int)==Z ts-1))=decide (k+1=Z ts):=by rw[jI];simp;omega
   go_wp2_with fail;go_call sV (O w.1+1) bo bs (BM ts k) (BC xs ts k) (decide (k+1=Z ts)) xs (Aa ts k) _ hn L (hh k V).2 hu as e w2 ⟨rfl,hs2,hk2⟩;have HR:=S (show ZT xs (decide (k+1=Z ts)) (Aa ts k) (BC xs ts k) (BM ts k)=zh xs ts k from F);rw[D HR]at hs2 ⊢;have hx:=lH xs ts k;have zr:O wr.1<O w2.1:=Jz hk2.size
   have q0:w2.cell? (J (O wr.1) 0)=E (G (Aa ts k).k):=by rw[hk2.cell Js I];simp[go_sem]
   have N:=S (L.of_blocks (hk2.block bo Jq I) (hk2.block bs Jq I));have T:=S (((hB.alloc (JM #[G (Aa ts k).k,W (Aa ts k).g,W (Aa ts k).t] 142))).kept (za hk2) (yX (by simp[i8];omega)));have A:=S ((X.alloc X.size (JM #[G (Aa ts k).k,W (Aa ts k).g,W (Aa ts k).t] 142)).trans (hk2.y (by have:=X.size;simp;omega) I));have hE:=S hs2;have hy:=A.size;by_cases hr:zh xs ts k = -1
   .have hs:=S hr;have n:(zh xs ts k == -1)=Vp:=Ju hr
    go_wp2;go_ret2;exact⟨⟨JL,0,[],(k:Int),F,yW ⟨F,F⟩,yX ⟨hc,yW ⟨k,V,x,Jy (D hs),F,F⟩⟩⟩,A⟩
   have n:(zh xs ts k == -1)=Vt:=Ju hr
   have m:0<=zh xs ts k:=I;have hb:Hid (Ft w2 (O w.1+1) bo bs (BC xs ts (k+1)) (BM ts (k+1))):=(D hE) m;have U:=S (show CM xs ts (k+1) from λi hi=>by
    by_cases e:i=k
    .subst e;exact m
    .exact x i I)
   go_wp2_with (at_builtin;refine As MJ underlying72 (.tmp 35) (.tmp 37) F rfl (O w.1+2) _ k (zz (CY xs ts k)) F (T.alloc _) (J (O w2.1) 0) 1 1 (zz [zh xs ts k]) F rfl (Nv w2 (zh xs ts k)) (I0 _) Jm I Jq ?_);intro v4 w4 K Q C _;have B:Qb w w4:=(A.alloc I _).grown Q Jq (λq hq=>by simp[i8]at hq;omega);have H:∀bb,bb<O w2.1->bb≠g->w4.heap[bb]?=w2.heap[bb]?:=λbb h1 h2=>(Q.block bb Jq (by simp[i8];omega)).trans ((@zC w2 _).block bb h1)
   have q4:=(yv (H (O wr.1) zr I)).trans q0;have hw:=S (N.of_blocks (H bo I I) (H bs I I));have u:O w.1+1<O w2.1:=I;have M:=S (show Ft w4 (O w.1+1) bo bs (BC xs ts (k+1)) (BM ts (k+1)) from by
    have e:=λo=>yv (w:=w2) (a:=(J (O w.1+1) o)) (H (O w.1+1) u I)
    have f:=λo=>yG (w:=w2) (a:=(J (O w.1+1) o)) (H (O w.1+1) u I)
    have h:=D hb
    exact⟨(e _).trans h.c0,(e _).trans h.c1,(e _).trans h.c2,(e _).trans h.c3,λo=>(f o).trans (h.fz o)⟩)
   obtain⟨g4,c4,rfl⟩:=ER K (by simp[C]);rw[<-Nd,<-Uk]at K;have p:=S K;have b:=S B;by_cases hl:k+1=Z ts
   .have hH:=decide_eq_true hl;by_cases h7:(Aa ts k).k=7
    .have s:((Aa ts k).k==7)=Vp:=Ju h7
     have H7:=S h7;have HL:=S hl;go_wp2;go_ret2;have hl:=D HL;have ho:=D p;have y:Z (CY xs ts (k+1))=k+1:=IU _ _ _;rw[<-y]at ho;obtain⟨hg,hf⟩:=Rg (by rw[y]at ho ⊢;exact ho);refine⟨⟨E (J g4 0),c4,CY xs ts (k+1),-1,by rw[y];first|rfl|(rw[hl];rfl),yX ⟨g4,F,I,hf⟩,yX ⟨D hc,yX ⟨hl ▸ D U,yW ⟨⟨I,?_⟩,by rw[hl],F⟩⟩⟩⟩,D b⟩;rw[<-hl];exact H7
    .have s:((Aa ts k).k==7)=Vt:=Ju h7
     have HE:=S (show k+1=Z ts->¬ (0<Z ts/\(Aa ts (Z ts-1)).k=7) from λe=>by
      rw[<-e]
      exact λh=>h7 h.2)
     have HL:=S hl;go_wp2_with fail;have hl:=D HL;exact⟨⟨k+1,g4,c4,I,Jn,by first|rfl|(rw[hl]),U,M,hw,p,b,HE⟩,Ji⟩
   .have hH:=decide_eq_false hl;have HE:Hid (k+1=Z ts->¬ (0<Z ts/\(Aa ts (Z ts-1)).k=7)):=λe=>yV e hl
    go_wp2;exact⟨⟨k+1,g4,c4,I,Jn,F,U,M,hw,p,b,HE⟩,Ji⟩
  .have HX:=S (I:k=Z ts);go_wp2;go_ret2;have e:=D HX;subst e;exact⟨⟨JL,0,[],(Z ts:Int),F,yW ⟨F,F⟩,yX ⟨hc,yX ⟨x,yX ⟨z F,F,F⟩⟩⟩⟩,X⟩
def YI{a}(h:Sc a p bo bs L s 0 0 Jl)(d:AH a bo bs xs (Z xs))(b:bo<p)(c:bs<p):Cx a a p bo bs L xs s 0 0 [] Jl:=
 ⟨h,jt,Jb,d,yN,Gy.start xs s,λq b c=>I,yk,yn,b,c⟩
def iT(c:AH w2 bo bs xs (Z xs))(a:bo<O w2.1)(b:bs<O w2.1):Cx (w2.alloc (JM #[.map (E bo),.map (E bs),G L,W s,G 0,G 0,Jl] 212)) (w2.alloc (JM #[.map (E bo),.map (E bs),G L,W s,G 0,G 0,Jl] 212)) (O w2.1) bo bs L xs s 0 0 [] Jl:=by refine YI ⟨?_,?_,?_,?_,?_,?_,?_,λo=>?_⟩ (c.kept zC) a b;all_goals simp[go_sem]
theorem TT(g):∀(b:JD)(o:Nat)(w:JY)(q:Addr),(w.setCells g o b).frozen? q=w.frozen? q
 |[],_,_,_=>rfl
 |v::a,o,w,q=>(TT g a (o+1) (w.setCell (J g o) v) q).trans yx
theorem Q5(g i)(h:i≠g):∀(b:JD)(o:Nat)(w:JY),(w.setCells g o b).heap[i]?=w.heap[i]?
 |[],_,_=>rfl
 |v::a,o,w=>(Q5 g i h a (o+1) (w.setCell (J g o) v)).trans (jh _ _ _ _ h)
def iU(e:AH w2 bo bs xs (Z xs))(a:bo<p)(b:bs<p)(c:∀j,j<7->(w2.cell? (J p j)).isSome=Vp)(d:∀o,w2.frozen? (J p o)=Vt):Cx (w2.setCells p 0 [.map (E bo),.map (E bs),G L,W s,G 0,G 0,Jl]) (w2.setCells p 0 [.map (E bo),.map (E bs),G L,W s,G 0,G 0,Jl]) p bo bs L xs s 0 0 [] Jl:=by have h:=World.cell?_setCells_in p [.map (E bo),.map (E bs),G L,W s,G 0,G 0,Jl] 0 w2 (λj f=>by simpa using c j (Ju f));refine YI ⟨Ju (h 0 Js),Ju (h 1 Js),Ju (h 2 Js),Ju (h 3 Js),Ju (h 4 Js),Ju (h 5 Js),Ju (h 6 Js),λo=>(TT p _ _ _ _).trans (d o)⟩ (e.of_blocks (Q5 p bo I _ _ _) (Q5 p bs I _ _ _)) a b
def uZ(k l z s w)(hi:AH w k l z (Z z))(hc:zM z 0)(X:ZO z)(u:s.size<=20000):Calls Vb 112 #[b9 #[.map (E k),.map (E l)],W s] w λe w'=>(∃(g C:Nat)(t:JA),e=i9 (Ql g (Z t) C)/\(O w.1<=g/\Z t<=C/\C<=maxLen)/\Hid (CX w' g t (Z t))/\Hid (Zr z s 0 t))/\Qb w w':=by
 have d:=S (GN hc);have HV:=S (Mg (GN hc));have HK:=S (Xk (GN hc));have b:k<O w.1:=by obtain⟨c,hD,_⟩:=hi.ops;exact hD.lt
 have A:l<O w.1:=by obtain⟨c,hD,_⟩:=hi.srts;exact hD.lt
 have i:Qb w (w.alloc (JM #[.map (E k),.map (E l)] 173)):=zC;have k0:(w.alloc (JM #[.map (E k),.map (E l)] 173)).cell? (J (O w.1) 0)=E (.map (E k)):=Jg;have k1:(w.alloc (JM #[.map (E k),.map (E l)] 173)).cell? (J (O w.1) 1)=E (.map (E l)):=Jg;have H:=S (hi.kept (@zC w (JM #[.map (E k),.map (E l)] 173)));clear hi hc;go_enter func112,ntmps112;go_wp2_with fail;obtain⟨B,Q⟩:=Jx (w.alloc (JM #[.map (E k),.map (E l)] 173));have a:O w.1+1=O B.1:=by rw[Q];simp
 rw[<-Q]at i k0 k1 H ⊢;clear Q;have n1:¬ (O B.1)=O w.1:=I;go_region_held (λw'=>w'.cell? (J (O w.1) 0)=E (.map (E k))/\w'.cell? (J (O w.1) 1)=E (.map (E l))) (go_keep)
  (first|(go_at_call 159;refine(dL k l z _ (by first|exact H.kept (yN).drew|exact(H.kept zC).kept (yN).drew) HV X d).mono ?_;rintro e w2 ⟨⟨L,rfl,hL,M⟩,m⟩;have q0:=m.cell (p:=J (O w.1) 0) (by first|(simp;omega));have q1:=m.cell (p:=J (O w.1) 1) (by first|(simp;omega));have P:=S M;have h:=S m;obtain⟨V,v⟩:=JT m;clear M m))
 focus
  have f:O B.1<=O w2.1:=h.size
  have q:=S (iT (w2:=w2) (L:=L) (s:=s) (H.kept ((yN).drew.trans h)) I I)
  have K:Qb w (w2.alloc (JM #[.map (E k),.map (E l),G L,W s,G 0,G 0,Jl] 212)):=(i.drew.trans (h.mono i.size)).alloc I _
  have y:O w.1<=O w2.1:=I
 rotate_left
 focus
  have f:O B.1<O w2.1:=Jz h.size
  have q:=S (iU (w2:=w2) (p:=O B.1) (L:=L) (s:=s) (((H.kept zC).kept (yN).drew).kept h) I I (λj hj=>by
   rw[V _ _ (by simp)]
   match j,hj with
   |0,_=>simp[go_sem]
   |1,_=>simp[go_sem]
   |2,_=>simp[go_sem]
   |3,_=>simp[go_sem]
   |4,_=>simp[go_sem]
   |5,_=>simp[go_sem]
   |6,_=>simp[go_sem]) (λo=>by rw[v _ _ (by simp)];simp[go_sem]))
  have K:Qb w (w2.setCells (O B.1) 0 [.map (E k),.map (E l),G L,W s,G 0,G 0,Jl]):=zX i.size _ _ _ ((i.alloc i.size _).drew.trans (h.mono (by have:=i.size;simp;omega)))
  have y:=i.size
 all_goals
  have U:=q.lt
  go_wp2_with fail
  go_call sW _ k l L z s _ q u hL P HV HK as e w4 ⟨rfl,g,C,t,n,⟨hpg,hcp,R⟩,T,hlex,N⟩
  have c6:=D n
  have x:=K.trans (N.mono y)
  go_wp2
  go_ret
  exact⟨⟨g,C,t,F,⟨I,hcp,R⟩,T,hlex⟩,x⟩
