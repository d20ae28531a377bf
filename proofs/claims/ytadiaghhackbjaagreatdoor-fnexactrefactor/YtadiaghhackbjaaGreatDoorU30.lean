import Derived.Test.YtadiaghhackbjaaGreatDoorU14
import Derived.Test.YtadiaghhackbjaaGreatDoorU26
import Derived.Test.YtadiaghhackbjaaGreatDoorU29
namespace Go.Proofs.YtadiaghhackbjaaGreatDoor
set_option linter.all false
set_option maxHeartbeats 0
set_option maxRecDepth 100000
open Proofs.Tryz RowKit
variable{B P X cm e k m s:Nat}{U U0:List UnR}{W w w' w0 wr:World}{am:Option Addr}{cs:List Value}{ks us:List ByteArray}{ms:List zH}{ob:Obj}{out:List (List OpR)}{v:Value}
def inB(o:OpR)(xs:List OpR):Bool:=xs.any (fun x=>ZV x o)
theorem Zt{o:OpR}{xs:List OpR}:inB o xs=true↔o∈xs:=zI6
theorem zPc(a:Option Addr)(c:Nat)(o:OpR)(w:JY):Calls prog 22 #[.slice a 0 c,opV o] w fun e w'=>e=.returned (.bool false)/\Qb w w':=by
 unfold opV;go_enter func22,ntmps22;go_wp2;go_loopw [5] (fun i wr=>i=Qi 0/\Qb w wr) (fun i _=>0);case atStart=>exact⟨rfl,zC _ _⟩
 case round=>
  obtain⟨rfl,hb⟩:=hrel;go_wp2;go_ret;exact⟨rfl,hb⟩
theorem zOP(t:Value)(xs:List OpR)(o:OpR)(w:JY)(hm:xs.length<=1048576)(h:ZS w t xs):Calls prog 22 #[t,opV o] w fun e w'=>e=.returned (.bool (inB o xs))/\Qb w w':=by
 obtain⟨a,c,rfl,⟨h0,_⟩|⟨g,rfl,hg,ho⟩⟩:=h
 ·obtain rfl:=jd.1 h0;exact zPc a c o w
 ·go_call zKv g c xs.length xs o w hm (yk _) ho hg as e w' ⟨⟨v,rfl,hv⟩,hb⟩;have:v=inB o xs:=by
   rw[Bool.eq_iff_iff,hv,Zt,List.mem_iff_getElem];constructor
   ·rintro⟨j,hj,e⟩;exact⟨j,hj,by simpa[atO,yn,hj] using e⟩
   ·rintro⟨j,hj,e⟩;exact⟨j,hj,by simpa[atO,yn,hj] using e⟩
  exact⟨by rw[this],hb⟩
theorem zWu:(prog.info? 4).map (fun i=>(i.zero,i.size,i.bytes))=some (some (.bool false),1,1):=Jk
def zBY(bs:List Bool):List Value:=bs.map fun b=>.bool b
theorem zKG(a b:List Bool):zBY (a++b)=zBY a++zBY b:=by simp[zBY]
def zGF(w:JY)(B:Nat)(v:Value)(bs:List Bool):Prop:=w.ownsRow B 4 1 v bs.length (zBY bs)
theorem zGF.below{u:Value}{us:List Bool}(h:zGF w B u us)(hb:Qb w w'):zGF w' B u us:=
 World.ownsRow.kept h (zE hb none) (by cases u.ownBlock with
 |none=>exact yS rfl
 |some k=>exact yU Js)
theorem zOQ(w:JY):zGF (w.alloc (.cells #[] 4)) w.heap.size (Ql w.heap.size 0 0) []:=by
 have:=yG (base:=w.heap.size) (e:=4) (size:=1) w #[] 0 (yk _) (ym _) rfl;simpa[zGF,zBY] using this
theorem zPd(w:JY)(n:Bool):∀j u,(zBY [n])[j]?=some u->(w.alloc (.cells #[.bool n] 4)).cell? ((Qa w.heap.size 0).add j)=some u:=by
 intro j u hj;rw[Addr.add_mid];exact yC (w:=w.alloc (.cells #[.bool n] 4)) (b:=w.heap.size) (heap_alloc_new w _) 0 1 j u (by simpa[zBY] using hj)
theorem zOR(l:List Bool):∀u∈zBY l,u.oneCell'=true:=by
 intro u hu;simp only[zBY,List.mem_map] at hu;obtain⟨b,_,rfl⟩:=hu;rfl
def zPe(o:OpR)(tabs:List (List OpR))(k:Nat):List Bool:=(List.range k).map fun i=>inB o (zz tabs i)
theorem zKm(v:Value)(tabs:List (List OpR))(o:OpR)(w:JY)(hn:tabs.length<=100)(hT:zD4 w v tabs)(hl:∀i,i<tabs.length->(zz tabs i).length<=1048576):Calls prog 20 #[v,opV o] w fun e w'=>(∃u,e=.returned u/\zGF w' (w.heap.size+1) u (zPe o tabs tabs.length))/\Below w.heap.size w w':=by
 obtain⟨a,c,rfl,hT⟩:=hT;have HX:=zB (fun W xs t hm h=>zOP t xs o W hm h);unfold opV at HX ⊢;obtain⟨i0,C,J,V,A⟩:=zS zWu;have HI:=zB C;have HZ:=zB (yK J (yK V A));clear C J V A;obtain⟨W,hW⟩:=Jx (w.alloc (.cells #[Qs o.s,Qi o.k,Qi o.l,Qi o.sd] 33));have Y:W.heap.size=w.heap.size+1:=by rw[hW];simp
 have HE:=zB (by have:=zOQ W;rw[Y] at this;exact this:zGF (W.alloc (.cells #[] 4)) (w.heap.size+1) (Ql (w.heap.size+1) 0 0) []);have j:=zB (by rw[hW];exact zC _ _:Below w.heap.size w W);have HO:=zB (by rw[hW];exact⟨Jg,Jg,Jg,Jg⟩:zBO W w.heap.size o);have HT:=zB hT;have HL:=zB hl;have HW:=zB Y;clear hT hl;go_enter func20,ntmps20;go_wp2_with fail;rw[<-hW];clear hW Y;go_loopw [5,6] (fun out i wr=>∃(n:Nat)(v:Value)(bs:List Bool),n<=tabs.length/\out=v/\i=Qi n/\bs.length<=n/\Hid (bs=zPe o tabs n)/\Hid (zGF wr (w.heap.size+1) v bs)/\Hid (Below (w.heap.size+1) W wr)) (fun _ i _=>tabs.length-(intOf i).toNat);case atStart=>exact⟨0,_,[],ym _,rfl,rfl,yk _,zB rfl,HE,zB (zQg HW)⟩
 case round=>
  clear HE;obtain⟨n,v,bs,L,rfl,rfl,I,U,HR,HB⟩:=hrel;by_cases b:n<tabs.length
  ·have d:(n:Int)<(tabs.length:Int):=Jo;obtain⟨gs,rfl,F,hx⟩:∃gs,a=some (Qa gs 0)/\gs<w.heap.size/\∀i,i<tabs.length->∃t,w.cell? (Qa gs i)=some t/\ZS w t (zz tabs i):=HT.elim (fun h=>Jo) id;obtain⟨t,ht,Q⟩:=hx n b;have P:Hid (Below w.heap.size w wr):=j.trans (HB.mono Jo);have x1:=Jc P F ht;obtain⟨c0,c1,c2,c3⟩:=zA HO;have d0:=Jc HB (Jo:w.heap.size<w.heap.size+1) c0;have d1:=Jc HB (Jo:w.heap.size<w.heap.size+1) c1;have d2:=Jc HB (Jo:w.heap.size<w.heap.size+1) c2;have d3:=Jc HB (Jo:w.heap.size<w.heap.size+1) c3;have zr:w.heap.size+1<=wr.heap.size:=by have:=HB.size;have:=zA HW;omega
   have HC:=zB (HX wr.drew (zz tabs n) t (HL n b) ((Q.below P).below (yJ _ _).drew));have E:=zB (HR.below (yJ _ _).drew);have NF:=zB (fun(q:Nat)(hq:q<=w.heap.size) e=>(yR (World.ownsRow.lt HR q e).1 Jo:False));obtain⟨bq,X⟩:=Jx (inB o (zz tabs n));have HQ:=zB X;rw[<-X] at HC;clear c0 c1 c2 c3 ht Q hx X;go_wp2_with fail;go_region_held_law (fun W=>W.cell? (Qa w.heap.size 0)=some (Qs o.s)/\W.cell? (Qa w.heap.size 1)=some (Qi o.k)/\W.cell? (Qa w.heap.size 2)=some (Qi o.l)/\W.cell? (Qa w.heap.size 3)=some (Qi o.sd)/\W.cell? (Qa gs n)=some t) (go_keep)
    (first
     |(go_at_call 22;(with_reducible refine(zA HC).mono ?_);rintro e w3 ⟨rfl,hb3⟩;have z3:wr.heap.size<=w3.heap.size:=hb3.size;have e0:=Jc hb3 (Jo:w.heap.size<wr.heap.size) d0;have e1:=Jc hb3 (Jo:w.heap.size<wr.heap.size) d1;have e2:=Jc hb3 (Jo:w.heap.size<wr.heap.size) d2;have e3:=Jc hb3 (Jo:w.heap.size<wr.heap.size) d3;have e4:=Jc hb3 (Jo:gs<wr.heap.size) x1;have D:Hid (Below (w.heap.size+1) W w3):=HB.drew.trans (hb3.mono zr);have B:=zB (E.below hb3))
     |(refine step_append_lies _ (by rfl) (.tmp 14) (.tmp 22) 57 (by rfl) (w.heap.size+1) 4 i0 _ 1 1 underlying57 HI HZ.1 HZ.2.1 HZ.2.2 rfl Jd _ bs.length (zBY bs) (by rfl) (B.alloc _) (Qa w3.heap.size 0) 1 1 (zBY [bq]) (by rfl) rfl (zPd w3 bq) (zOR _) Jd Jm Jo Jq _ rfl ?_;intro g4 c4 w4 K H _ G;have f0:=(H.cell_far (Qa w.heap.size 0) Jq (fun x=>NF _ (by simp;try omega) x.symm)).trans (Jc (zC w3 _) (Jo:w.heap.size<w3.heap.size) e0);have f1:=(H.cell_far (Qa w.heap.size 1) Jq (fun x=>NF _ (by simp;try omega) x.symm)).trans (Jc (zC w3 _) (Jo:w.heap.size<w3.heap.size) e1);have f2:=(H.cell_far (Qa w.heap.size 2) Jq (fun x=>NF _ (by simp;try omega) x.symm)).trans (Jc (zC w3 _) (Jo:w.heap.size<w3.heap.size) e2);have f3:=(H.cell_far (Qa w.heap.size 3) Jq (fun x=>NF _ (by simp;try omega) x.symm)).trans (Jc (zC w3 _) (Jo:w.heap.size<w3.heap.size) e3);have f4:=(H.cell_far (Qa gs n) Jq (fun x=>NF _ (by simp;try omega) x.symm)).trans (Jc (zC w3 _) (Jo:gs<w3.heap.size) e4);simp only[yc,ya,yb];simp only[Act.put,ye,yg,yh]))
   have f:Hid (Below (w.heap.size+1) W w4):=(D.alloc Jo _).grown H Jq (fun q hq=>(World.ownsRow.lt B q hq).1);have y:bs.length+1=(bs++[bq]).length:=Js;rw[<-zKG,y] at K;rw[y];have g:Hid (zGF w4 (w.heap.size+1) _ (bs++[bq])):=K;clear K H y;go_wp2;exact⟨⟨n+1,_,bs++[bq],Jo,rfl,Jn,Jq,zB (by rw[zA U,zA HQ];simp[zPe,List.range_succ]),g,f⟩,Ji⟩
  ·have d:¬ (n:Int)<(tabs.length:Int):=Jo;obtain rfl:n=tabs.length:=Jo;have HG:Hid (Below w.heap.size w wr):=j.trans (HB.mono Jo);have e:=zA U;subst e;go_wp2;go_ret;exact⟨⟨_,rfl,HR⟩,HG⟩
structure SwS(e s:Nat)(W wr:JY)(B P:Nat)(v:Value)(m:Nat)(cs:List Value):Prop where
 ce:wr.cell? (Qa P 0)=some v
 fr:wr.frozen? (Qa P 0)=false
 row:wr.ownsRow B e s v m cs
 np:v.ownBlock≠some P
 bel:Below B W wr
theorem zBZ{u:Value}(h:w.ownsRow B e s u m cs)(hb:Qb w w'):w'.ownsRow B e s u m cs:=
 World.ownsRow.kept h (zE hb none) (by cases u.ownBlock with
 |none=>exact yS rfl
 |some k=>exact yU Js)
theorem SwS.drewN(h:SwS e s W wr B P v m cs)(n:Nat):SwS e s W (wr.drewN n) B P v m cs:=
 ⟨h.ce,h.fr,zBZ h.row (below_drewN (yJ _ _) n),h.np,below_drewN h.bel n⟩
theorem SwS.below{X:JY}(h:SwS e s W wr B P v m cs)(hP:P<wr.heap.size)(hB:B<=wr.heap.size)(hb:Qb wr X):SwS e s W X B P v m cs:=
 ⟨Jc hb hP h.ce,(yD (w:=wr) (hb.block P hP)).trans h.fr,zBZ h.row hb,h.np,h.bel.trans (hb.mono hB)⟩
theorem zBO.below4{N:Nat}{o:OpR}(h:zBO W N o)(hb:Below B W wr)(hN:N<B):zBO wr N o:=
 ⟨Jc hb hN h.1,Jc hb hN h.2.1,Jc hb hN h.2.2.1,Jc hb hN h.2.2.2⟩
theorem SwS.far{X w4:JY}(h:SwS e s W wr B P v m cs)(hP:P<wr.heap.size)(hX:Qb wr X)(hg:X.grownBy w4 v.ownBlock):w4.cell? (Qa P 0)=some v/\w4.frozen? (Qa P 0)=false:=by
 have hz:=hX.size;have hb:w4.heap[P]?=wr.heap[P]?:=(hg.block P Jo (fun e=>h.np e.symm)).trans (hX.block P hP);exact⟨(yu (w:=wr) hb).trans h.ce,(yD (w:=wr) hb).trans h.fr⟩
theorem SwS.put{m':Nat}{X w4:JY}{g:Nat}{n c:Nat}{cs':List Value}(h:SwS e s W wr B P v m cs)(hB:B<=P)(hP:P<wr.heap.size)(hX:Qb wr X)(hg:X.grownBy w4 v.ownBlock)(hr:w4.ownsRow B e s (Ql g n c) m' cs')(H:v.ownBlock=some g\/wr.heap.size<=g):SwS e s W (w4.setCell (Qa P 0) (Ql g n c)) B P (Ql g n c) m' cs':=by
 obtain⟨q0,q1⟩:=h.far hP hX hg;have n4:(Value.slice (some (Qa g 0)) n c).ownBlock≠some P:=fun e=>by
  have e':g=P:=by simpa[Value.ownBlock] using e
  rcases H with x|x
  ·exact h.np (e' ▸ x)
  ·omega
 exact⟨yt _ _ _ q0,(yv _ _ _ _).trans q1,zFZ hr P 0 _ n4,n4,((h.bel.trans (hX.mono Jo)).grown hg (Jy hX.size) (fun q e=>(World.ownsRow.lt h.row q e).1)).setCell (p:=Qa P 0) hB _⟩
structure zCw(w:JY)(N:Nat)(q:zAX):Prop where
 h:N<w.heap.size
 c0:w.cell? (Qa N 0)=some (Qi q.k)
 c1:w.cell? (Qa N 1)=some (Qs q.m)
 c2:w.cell? (Qa N 2)=some (Qs q.o.s)
 c3:w.cell? (Qa N 3)=some (Qi q.o.k)
 c4:w.cell? (Qa N 4)=some (Qi q.o.l)
 c5:w.cell? (Qa N 5)=some (Qi q.o.sd)
 c6:w.cell? (Qa N 6)=some (Qs q.t)
 c7:w.cell? (Qa N 7)=some (Qi q.l)
 c8:w.cell? (Qa N 8)=some (Qi q.sd)
theorem zCw.below{N:Nat}{q:zAX}(h:zCw w N q)(hb:Below B w w')(hB:N<B):zCw w' N q:=by
 have k:=fun o=>hb.cell (p:=Qa N o) hB
 exact⟨yl h.h hb.size,(k 0).trans h.c0,(k 1).trans h.c1,(k 2).trans h.c2,(k 3).trans h.c3,(k 4).trans h.c4,(k 5).trans h.c5,(k 6).trans h.c6,(k 7).trans h.c7,(k 8).trans h.c8⟩
def zMd(q:zAX):Array Value:=#[Qi q.k,Qs q.m,Qs q.o.s,Qi q.o.k,Qi q.o.l,Qi q.o.sd,Qs q.t,Qi q.l,Qi q.sd]
theorem zCw.new(w:JY)(q:zAX)(t:TypeId):zCw (w.alloc (.cells (zMd q) t)) w.heap.size q:=by
 unfold zMd;exact⟨Js,Jg,Jg,Jg,Jg,Jg,Jg,Jg,Jg,Jg⟩
open Go.Deep (BT)
theorem zKH(T:ET):(yT T).length=(ySy T).length:=by simp[yT]
theorem zOS(bz offz cz:Nat)(ns:List OpR)(zs:List zD)(B:Nat)(Q:bz<B)(x:zs.length<=20000):∀(T:ET),zE6 ns T->∀(s:Nat)(us vs:List ZG),zGX zs T s->s+tsz T<=zs.length->us.length+(ySy T).length<=90000->vs=us++yT T->zRR bz offz cz zs B (s+tsz T-1) us vs:=by
 intro T;induction T with
 |nil=>intro h;exact h.elim
 |node b o t l r ihl ihr=>
  rintro⟨rfl,h⟩ s us vs ⟨h1,h2,h3⟩ hz q hvs;simp only[tsz] at hz;have e:s+tsz (.node b 0 t l r)-1=s+tsz l+tsz r:=by simp only[tsz];omega
  rw[e];intro u W hW hB k;have H:∀ja jb:Nat,(if zY (b:Int)=0 then(0:Int) else((s+tsz l:Nat):Int)-1)=(ja:Int)->(if zY (b:Int)=2 then((s+tsz l+tsz r:Nat):Int)-1 else 0)=(jb:Int)->atN zs (s+tsz l+tsz r)=⟨(b:Int),t,(ja:Int),(jb:Int)⟩:=fun ja jb ha hb=>by
   rw[h3,tN,ha,hb]
  rcases h with⟨Y,rfl,rfl⟩|⟨rfl,rfl,hl,rfl⟩|⟨y,hk,hl,rfl⟩|⟨rfl,hk,hl,hr⟩
  ·have X:zY (b:Int)=0:=by rcases Y with h|h<;>subst h<;>decide
   refine zKF bz offz cz _ zs (b:Int) t 0 0 B u us vs W hW Q hB k (by simp only[tsz] at hz ⊢;omega) x (H 0 0 (by rw[yQ X];rfl) (by rw[yP Jo];rfl)) Jo (yS ⟨X,?_⟩);rw[hvs];have:yT (.node b 0 t .nil .nil)=[⟨t,false,false⟩]:=by
    simp only[yT,ySy];rw[yP Jo,yP Jo,yP Jo,yP Jo];simp[wS];omega
   rw[this]
  ·have hp:=hl.sh.pos;have hy:yT (.node 6 0 ByteArray.empty l .nil)=⟨opn,false,false⟩::(yT l++[⟨zCI,false,false⟩]):=by simp[yT,ySy,wS]
   have K:(ySy (.node 6 0 ByteArray.empty l .nil)).length=(ySy l).length+2:=by simp[ySy]
   rw[K] at q;refine zKF bz offz cz _ zs 6 ByteArray.empty (s+tsz l-1) 0 B u us vs W hW Q hB k (by simp only[tsz] at hz ⊢;omega) x (H _ 0 (by rw[yP Jd];omega) (by rw[yP Jd];rfl)) Jo (yU (yU (yS ⟨rfl,us++[⟨opn,false,false⟩],us++[⟨opn,false,false⟩]++yT l,rfl,ihl hl s _ _ h1 Jo Jq rfl,?_,?_⟩)))
   ·rw[hvs,hy];simp
   ·simp[zKH];omega
  ·have hp:=hl.sh.pos;rcases y with rfl|rfl
   ·have hy:yT (.node 3 0 t l .nil)=⟨t,true,false⟩::yT l:=by simp[yT,ySy,wS]
    have K:(ySy (.node 3 0 t l .nil)).length=(ySy l).length+1:=by simp[ySy]
    rw[K] at q;refine zKF bz offz cz _ zs 3 t (s+tsz l-1) 0 B u us vs W hW Q hB k (by simp only[tsz] at hz ⊢;omega) x (H _ 0 (by rw[yP Jd];omega) (by rw[yP Jd];rfl)) Jo (yU (yS ⟨rfl,us++[⟨t,true,false⟩],rfl,ihl hl s _ _ h1 Jo Jq ?_⟩));rw[hvs,hy];simp
   ·have hy:yT (.node 5 0 t l .nil)=yT l++[⟨t,true,false⟩]:=by simp[yT,ySy,wS]
    have K:(ySy (.node 5 0 t l .nil)).length=(ySy l).length+1:=by simp[ySy]
    rw[K] at q;refine zKF bz offz cz _ zs 5 t (s+tsz l-1) 0 B u us vs W hW Q hB k (by simp only[tsz] at hz ⊢;omega) x (H _ 0 (by rw[yP Jd];omega) (by rw[yP Jd];rfl)) Jo (yU (yU (yU (yS ⟨rfl,us++yT l,ihl hl s _ _ h1 Jo Jo rfl,?_,?_⟩))))
    ·rw[hvs,hy];simp
    ·simp[zKH];omega
  ·have hp:=hl.sh.pos;have hq:=hr.sh.pos;have hy:yT (.node 4 0 t l r)=yT l++(⟨t,true,true⟩::yT r):=by simp[yT,ySy,wS]
   have K:(ySy (.node 4 0 t l r)).length=(ySy l).length+(ySy r).length+1:=by simp[ySy];omega
   rw[K] at q;refine zKF bz offz cz _ zs 4 t (s+tsz l-1) (s+tsz l+tsz r-1) B u us vs W hW Q hB k Jo x (H _ _ (by rw[yP Jd];omega) (by rw[yQ Jd];omega)) Jo (yU (yU (yU (yU ⟨rfl,us++yT l,us++yT l++[⟨t,true,true⟩],ihl hl s _ _ h1 Jo Jo rfl,rfl,ihr hr (s+tsz l) _ _ h2 Jo (by simp[zKH];omega) ?_,?_⟩))))
   ·rw[hvs,hy];simp
   ·simp[zKH];omega
open Go.Maps
theorem zRS(a:Option Addr)(c:Nat)(w:JY):Calls prog 133 #[.slice a 0 c] w fun e w'=>e=.returned (.bool true)/\w'=w:=by
 go_enter func133,ntmps133;go_wp2;go_loop [7] (fun i=>i=Qi 0) (fun _=>0);case atStart=>rfl
 case round=>
  subst hrel;go_wp2;go_ret;exact⟨rfl,rfl⟩
theorem zFj(a:Option Addr)(c:Nat)(w:JY):Calls prog 91 #[.agg #[.slice a 0 c]] w fun e w'=>(∃x y,e=.returned (.tuple #[.agg #[.map (some x),.map (some y)],Qi 0])/\Idx w' x y [] 0)/\Qb w w':=by
 have H:=@run_makeMap prog;go_enter func91,ntmps91;go_wp2_with (first|(go_at_call 133;(with_reducible refine(zRS _ _ _).mono ?_);rintro e w1 ⟨rfl,hx⟩;obtain rfl:=hx.symm;clear hx));go_loop [24,5] (fun i mx=>i=Qi 0/\mx=.bool false) (fun _ _=>0);case atStart=>exact⟨rfl,rfl⟩
 case round=>
  obtain⟨rfl,rfl⟩:=hrel;go_wp2;refine yN (v:=.tuple #[.agg #[.map (some (w.heap.size+1+1)),.map (some (w.heap.size+1+1+1))],Qi 0]) ?res rfl ⟨⟨_,_,rfl,?ix⟩,((((zC _ _).alloc (by first|(simp;done)|(simp;omega)) _).alloc (by first|(simp;done)|(simp;omega)) _).alloc (by first|(simp;done)|(simp;omega)) _).alloc (by first|(simp;done)|(simp;omega)) _⟩;case res=>simp[results,results91,go_sem]
  case ix=>
   have h:=Idx.start ((w.alloc (.cells #[.slice a 0 c] 63)).alloc (.cells #[.map (some (w.heap.size+1+1)),.map (some (w.heap.size+1+1+1))] 161)) [] (.cells #[.map (some (w.heap.size+1+1)),.map (some (w.heap.size+1+1+1))] 161);simpa using h
theorem zMe(b h cap:Nat)(xs:List OpR)(w:JY)(hm:xs.length<=1048576)(hw:Ops w b h xs)(hs:ZA xs)(hB:b<w.heap.size):Calls prog 102 #[.agg #[.slice (some (Qa b h)) xs.length cap]] w fun e w'=>(∃c,e=.returned (Qi c)/\zO xs c)/\Qb w w':=by
 go_enter func102,ntmps102;go_wp2_with fail;go_call zDQ b h cap xs _ hm (hw.below (zC _ _) hB) hs Jq as e w1 ⟨⟨x,y,c,rfl,hc,_⟩,hb1⟩;have HC:=zB hc;clear hc;go_wp2_with fail;go_ret;exact⟨⟨c,rfl,HC⟩,((zC _ _).trans (hb1.mono Js)).alloc (Jz hb1.size) _⟩
theorem zOT(a:Option Addr)(cap:Nat)(w:JY):Calls prog 102 #[.agg #[.slice a 0 cap]] w fun e w'=>e=.returned (Qi 0)/\Qb w w':=by
 go_enter func102,ntmps102;go_wp2_with fail;go_call zFj a cap _ as e w1 ⟨⟨x,y,rfl,_⟩,hb1⟩;go_wp2_with fail;go_ret;exact⟨rfl,((zC _ _).trans (hb1.mono Js)).alloc (Jz hb1.size) _⟩
theorem zKI(v:Value)(xs:List OpR)(w:JY)(hm:xs.length<=1048576)(hw:ZS w v xs)(hs:ZA xs):Calls prog 102 #[.agg #[v]] w fun e w'=>(∃c,e=.returned (Qi c)/\zO xs c)/\Qb w w':=by
 obtain⟨a,c,rfl,⟨h0,_,_⟩|⟨g,rfl,hg,ho⟩⟩:=hw
 ·obtain rfl:=jd.1 h0;go_call zOT a c w as e w1 ⟨rfl,hb⟩;exact⟨⟨0,rfl,zJU⟩,hb⟩
 ·exact zMe g 0 c xs w hm ho hs hg
theorem zKn(a:Option Addr)(cap:Nat)(xs:List OpR)(w:JY)(hm:xs.length<=1048576)(h:ZS w (.slice a xs.length cap) xs)(hs:ZA xs):Calls prog 91 #[.agg #[.slice a xs.length cap]] w fun e w'=>(∃(x y:Option Nat)(c:Int),e=.returned (.tuple #[.agg #[.map x,.map y],Qi c])/\zO xs c/\(c=0->∃bo bs,x=some bo/\y=some bs/\Idx w' bo bs xs xs.length))/\Qb w w':=by
 obtain⟨a',c',e,⟨h0,_⟩|⟨g,rfl,hg,H⟩⟩:=h
 ·obtain rfl:xs=[]:=jd.1 h0;go_call zFj a cap w as e w' ⟨⟨x,y,rfl,hi⟩,hb⟩;exact⟨⟨_,_,0,rfl,zJU,fun _=>⟨x,y,rfl,rfl,hi⟩⟩,hb⟩
 ·injection e with e1 e2 e3;subst e1;exact zDQ g 0 cap xs w hm H hs hg
def zWv(w:JY)(C bs:Nat)(ms:List zH)(T:Nat->List OpR)(i:Nat)(e:Ending)(w':JY):Prop:=
 zBD e (zO (T i) 0)/\w.grownBy w' (some bs)/\∃G',ScM w' C bs ms T G'
theorem zMf(B C P bs:Nat)(am:Option Addr)(cm:Nat)(ms:List zH)(v1:Value)(vs:List UvR)(U:List UnR)(kv:Value)(pv:Option Nat)(ks:List JZ)(T:Nat->List OpR)(rk:Nat->Nat)(hn:ms.length<=100)(hN:zCM ms ks)(hR:RkE ms.length (nmF ms) U rk)(hT:BrE ms.length (nmF ms) U T)(hA:(Zm U).length<=400000)(hF:∀o∈Zm U,zEs o)(X:∀i,i<ms.length->(atU U i).us.length<=20001)(i:Nat)(hi:i<ms.length)(w:JY)(G:ByteArray->Option Value)(hM:zB3 w am ms)(hH:ScH w B C P bs am cm ms v1 vs U kv pv ks)(hG:ScM w C bs ms T G):Calls prog 88 #[Qp P,Qi i] w (zWv w C bs ms T i):=by
 have c0:=hH.pg.c0;have a:(i:Int)<(ms.length:Int):=Jo;rcases hM with hM|⟨bA,b,rfl,k,A⟩
 ·omega
 obtain⟨m0,m1⟩:=k i hi;have HX:=zB (zIP B C P bs _ cm ms v1 vs U kv pv ks T rk hn hN hR hT hA hF X (rk i+1) i hi Jo w G hH hG);have H:=hT.sub hR (by have:=hH.pg.uns.1;have:=hH.pg.ln;omega) (rk i+1) i hi Jo;have J:=zB (show(T i).length<=1048576 from(Jy (zBe (T i) (Zm U) (hT.nd hi) H)));have j:Hid (ZA (T i)):=fun q hq=>(hF _ (H _ (zIk hq))).1
 clear k hH hG hN hR hT hF X H;go_enter func88,ntmps88;go_wp2_with (first|(go_at_call 53;(with_reducible refine(zA HX).mono ?_);rintro e w6 ⟨v,G',rfl,g1,g2,g3,gp,g4,g5⟩;obtain⟨v',x,K,_⟩:=g2.at' i hi _ g1;obtain rfl:v=v':=(Ju x);have y:=K.ops;clear K;have Q:=zB (zKI v (T i) w6 J y j);have u:=zB g2;have V:=zB g3;clear g1 g2 g3 g4 g5 gp y x HX)|(go_at_call 102;(with_reducible refine(zA Q).mono ?_);rintro e w7 ⟨⟨c,rfl,hc⟩,hb7⟩;have HC:=zB hc;have p:=zB hb7;clear hc hb7 Q));go_ret;have g6:=zA V;have b7:=zA p;have hz:=g6.size;refine⟨⟨c==0,rfl,?_⟩,⟨b7.os.trans g6.os,b7.tape.trans g6.tape,b7.output.trans g6.output,yw hz b7.size,fun q hq Y=>(b7.block q Jo).trans (g6.block q hq Y)⟩,G',u.below b7⟩;unfold zE9;constructor
 ·intro h;have e:c=0:=Ju h
  rw[<-e];exact HC
 ·intro h;have e:=zAC HC h;simp[e]
def PUk(ms:List zH)(U:List UnR)(k:Nat):Prop:=U.length=k/\∀i,i<k->∃us,zy (atM ms i).t us (atU U i).os (atU U i).b 0 0/\(atU U i).us=dst us
theorem PUk.step{os:List OpR}{b:JZ}(h:PUk ms U k)(hu:zy (atM ms k).t us os b 0 0):PUk ms (U++[⟨dst us,os,b⟩]) (k+1):=by
 obtain⟨h1,h2⟩:=h;refine⟨by simp[h1],fun i hi=>?_⟩;by_cases e:i<k
 ·rw[zJY Jo];exact h2 i e
 ·have e1:i=k:=Jo;subst e1;rw[<-h1,zJZ,h1];exact⟨us,hu,rfl⟩
theorem PUk.small{U:List UnR}(h:PUk ms U ms.length)(hn:ms.length<=100):(Zm U).length<=400000/\(∀o∈Zm U,zEs o)/\∀i,i<ms.length->(atU U i).us.length<=20001/\∀u∈(atU U i).us,u.size<=maxLen:=by
 obtain⟨h1,h2⟩:=h;refine⟨?_,?_,?_⟩
 ·have:=zGT U (fun u hu=>by
   obtain⟨i,hi,e⟩:=zIn hu
   obtain⟨us,h3,_⟩:=h2 i Jo
   rw[<-e];exact(zEG h3).1)
  omega
 ·intro o ho;obtain⟨u,hu,H⟩:=List.mem_flatMap.1 ho;obtain⟨i,hi,e⟩:=zIn hu;obtain⟨us,h3,_⟩:=h2 i Jo;obtain⟨a,b,c,d⟩:=zJs h3 o (by rw[e];exact H);have wf:∀x:Int,0<=x->x<1000000->(Lit.int .i64 x).wf=true:=fun x h1 h2=>by
   show(decide (IntKind.i64.min<=x)&&decide (x<=IntKind.i64.max))=true;have e1:IntKind.i64.min = -9223372036854775808:=Jd;have e2:IntKind.i64.max=9223372036854775807:=Jd;rw[e1,e2];simp;omega
  exact⟨Jm,wf _ Jo Jo,wf _ Jo Jo,wf _ Jo Jo⟩
 ·intro i hi;obtain⟨us,h3,h4⟩:=h2 i hi;obtain⟨a,b⟩:=zEH h3;have hl:=zHY us [];simp at hl;rw[h4];refine⟨by unfold dst;omega,fun u hu=>?_⟩;rcases(zBR us []).1 hu with hu|hu
  ·cases hu
  ·have:=b u hu;unfold maxLen;omega
structure NmK(ms:List zH)(ks:List JZ)(k:Nat):Prop where
 ln:ks.length=k
 at':∀i,i<k->ks[i]?=some (atM ms i).n
 nd:ks.Nodup
 sz:∀x∈ks,x.size<=maxLen
theorem NmK.all(h:NmK ms ks ms.length):zCM ms ks:=⟨h.ln,h.at',h.nd,h.sz⟩
theorem NmK.b3(h:NmK ms ks k):(atM ms k).n ∉ ks↔¬ B3 ms k:=by
 constructor
 ·rintro h1 ⟨j,hj,e⟩;exact h1 (by rw[<-e];exact yB (h.at' j hj))
 ·intro h1 h2;obtain⟨j,hj,e⟩:=List.getElem_of_mem h2;have hl:=h.ln;have:=h.at' j Jo;rw[yr hj,e] at this;injection this with this;exact h1 ⟨j,Jo,this.symm⟩
theorem NmK.step(h:NmK ms ks k)(hn:(atM ms k).n ∉ ks)(hs:(atM ms k).n.size<=maxLen):NmK ms (ks++[(atM ms k).n]) (k+1):=by
 refine⟨by simp[h.ln],fun i hi=>?_,?_,fun x hx=>?_⟩
 ·by_cases e:i<k
  ·rw[yE (by rw[h.ln];exact e)];exact h.at' i e
  ·have e1:i=k:=Jo;subst e1;rw[<-h.ln,List.getElem?_concat_length,h.ln]
 ·rw[List.nodup_append];exact⟨h.nd,Js,fun a ha b hb e=>by simp at hb;rw[e,hb] at ha;exact hn ha⟩
 ·rcases List.mem_append.1 hx with hx|hx
  ·exact h.sz x hx
  ·simp at hx;rw[hx];exact hs
structure LdK(w0 W:JY)(X:Nat)(ob:Obj)(wr:JY):Prop where
 box:wr.heap[X]?=some ob
 hX:w0.heap.size+2<=X
 bel:Qb w0 wr
 row:wr.heap[w0.heap.size+2]?=W.heap[w0.heap.size+2]?
 siz:w0.heap.size+3<=wr.heap.size
 c5:wr.cell? (Qa (w0.heap.size+1) 5)=some (.slice none 0 0)/\wr.frozen? (Qa (w0.heap.size+1) 5)=false
def StN(w0 wr:JY)(X:Nat)(am:Option Addr)(cm:Nat)(ms:List zH)(U:List UnR)(ks:List JZ)(C:Nat)(k:Nat):Prop:=
 ∃v1 vs kv pv,kv.ownBlock≠some X/\pv≠some X/\PUk ms U ms.length/\(∀i,i<ms.length->¬ B2 ms i)/\NmK ms ks k/\ScH wr (w0.heap.size+3) C (w0.heap.size+1) w0.heap.size am cm ms v1 vs U kv pv ks
def St(w0 W:JY)(X:Nat)(ob:Obj)(am:Option Addr)(cm:Nat)(ms:List zH):Nat->Nat->World->Prop
 |0,k,wr=>LdK w0 W X ob wr/\(∀i,i<k->¬ B2 ms i)/\∃v1 vs U,vs.length=k/\PgA wr (w0.heap.size+3) (w0.heap.size+1) w0.heap.size am cm ms.length v1 vs U/\PUk ms U k/\v1.ownBlock≠some X
 |1,k,wr=>LdK w0 W X ob wr/\(∀i,i<k->¬ B3 ms i)/\∃U ks C,StN w0 wr X am cm ms U ks C k/\Zx wr w0.heap.size 0 (fun _=>none)
 |2,k,wr=>LdK w0 W X ob wr/\(∀i,i<ms.length->¬ B3 ms i)/\∃U ks C,StN w0 wr X am cm ms U ks C ms.length/\Zx wr w0.heap.size 0 (fun _=>none)/\∀i,i<k->¬ B4 ms U i
 |3,k,wr=>LdK w0 W X ob wr/\(∀i,i<ms.length->¬ B3 ms i)/\∃U ks C,StN w0 wr X am cm ms U ks C ms.length/\Zx wr w0.heap.size 0 (fun _=>none)/\(∀i,i<ms.length->¬ B4 ms U i)/\∀i,i<k->¬ TC (Edg ms U) i i
 |_,k,wr=>LdK w0 W X ob wr/\(∀i,i<ms.length->¬ B3 ms i)/\∃U ks C T rk G,StN w0 wr X am cm ms U ks C ms.length/\(∀i,i<ms.length->¬ B4 ms U i)/\(∀i,i<ms.length->¬ TC (Edg ms U) i i)/\RkE ms.length (nmF ms) U rk/\BrE ms.length (nmF ms) U T/\ScM wr C w0.heap.size ms T G/\∀i,i<k->zO (T i) 0
def Fl(ms:List zH):Nat->Nat->Prop
 |0,k=>(∀i,i<k->¬ B2 ms i)/\B2 ms k
 |1,k=>(∀i,i<ms.length->¬ B2 ms i)/\(∀i,i<k->¬ B3 ms i)/\B3 ms k
 |2,k=>(∀i,i<ms.length->¬ B2 ms i)/\(∀i,i<ms.length->¬ B3 ms i)/\∃U,PUk ms U ms.length/\(∀i,i<k->¬ B4 ms U i)/\B4 ms U k
 |3,k=>(∀i,i<ms.length->¬ B2 ms i)/\(∀i,i<ms.length->¬ B3 ms i)/\∃U,PUk ms U ms.length/\(∀i,i<ms.length->¬ B4 ms U i)/\(∀i,i<k->¬ TC (Edg ms U) i i)/\TC (Edg ms U) k k
 |_,k=>(∀i,i<ms.length->¬ B2 ms i)/\(∀i,i<ms.length->¬ B3 ms i)/\∃U T rk,PUk ms U ms.length/\(∀i,i<ms.length->¬ B4 ms U i)/\(∀i,i<ms.length->¬ TC (Edg ms U) i i)/\RkE ms.length (nmF ms) U rk/\BrE ms.length (nmF ms) U T/\(∀i,i<k->zO (T i) 0)/\¬ zO (T k) 0
def zKJ(w0 W:JY)(X:Nat)(ob:Obj)(am:Option Addr)(cm:Nat)(ms:List zH)(s k:Nat)(e:Ending)(w':JY):Prop:=
 ∃b,e=.returned (.bool b)/\(b=true->St w0 W X ob am cm ms s (k+1) w')/\(b=false->Fl ms s k/\LdK w0 W X ob w')
theorem zFk{p:Nat->Prop}(h:∀i,i<k->p i)(hk:p k):∀i,i<k+1->p i:=fun i hi=>by
 by_cases e:i=k
 ·rw[e];exact hk
 ·exact h i Jo
theorem LdK.xl(h:LdK w0 W X ob wr):X<wr.heap.size:=by
 by_cases e:X<wr.heap.size
 ·exact e
 ·have:=h.box;rw[Array.getElem?_eq_none Jo] at this;cases this
theorem LdK.kpp{v1:Value}(h:LdK w0 W X ob wr)(hl:∀g,v1.ownBlock=some g->w0.heap.size+3<=g)(hv:v1.ownBlock≠some X)(hk:KpP (w0.heap.size+1) v1 wr w'):LdK w0 W X ob w':=by
 have hz:=h.siz;have H:=hk.size;have hX:=h.hX;have nv:∀q,q<w0.heap.size+3->v1.ownBlock≠some q:=fun q hq e=>Jy (hl q e)
 exact⟨(hk.blk X h.xl Jo hv).trans h.box,hX,⟨hk.os.trans h.bel.os,hk.tape.trans h.bel.tape,hk.output.trans h.bel.output,Jo,fun q hq=>(hk.blk q Jo Jo (nv q Jo)).trans (h.bel.block q hq)⟩,(hk.blk _ Jo Jo (nv _ Jo)).trans h.row,Jo,⟨(hk.cel 5 Jd).1.trans h.c5.1,(hk.cel 5 Jd).2.trans h.c5.2⟩⟩
theorem LdK.below(h:LdK w0 W X ob wr)(hb:Qb wr w'):LdK w0 W X ob w':=by
 have hz:=h.siz;have H:=hb.size;exact⟨(hb.block X h.xl).trans h.box,h.hX,h.bel.trans (hb.mono Jo),(hb.block _ Jo).trans h.row,Jo,⟨(hb.cell (p:=(Qa (w0.heap.size+1) 5)) (show w0.heap.size+1<_ by omega)).trans h.c5.1,(hb.frozen (p:=(Qa (w0.heap.size+1) 5)) (show w0.heap.size+1<_ by omega)).trans h.c5.2⟩⟩
theorem LdK.eff{kv:Value}{pv:Option Nat}{C:Nat}(h:LdK w0 W X ob wr)(hC:w0.heap.size+3<=C)(he:Eff wr w' (w0.heap.size+1) 2 kv pv)(hk:∀g,kv.ownBlock=some g->C<=g)(hp:∀g,pv=some g->C<=g)(H:kv.ownBlock≠some X)(K:pv≠some X):LdK w0 W X ob w':=by
 have k:=h.hX;have hz:=h.siz;have Q:=he.size;have sm:∀q,q<w0.heap.size+3->q≠w0.heap.size+1->w'.heap[q]?=wr.heap[q]?:=fun q h1 h2=>he.blk q Jo h2 (fun e=>Jy (hk q e)) (fun e=>Jy (hp q e))
 exact⟨(he.blk X h.xl Jo H K).trans h.box,k,⟨he.os.trans h.bel.os,he.tape.trans h.bel.tape,he.output.trans h.bel.output,Jo,fun q hq=>(sm q Jo Jo).trans (h.bel.block q hq)⟩,(sm _ Jo Jo).trans h.row,Jo,⟨(he.cel 5 Jd Jd).1.trans h.c5.1,(he.cel 5 Jd Jd).2.trans h.c5.2⟩⟩
theorem LdK.grown(h:LdK w0 W X ob wr)(hg:wr.grownBy w' (some w0.heap.size)):LdK w0 W X ob w':=by
 have hz:=h.siz;have k:=hg.size;have H:=h.hX;exact⟨(hg.block X h.xl (fun e=>by injection e with e;omega)).trans h.box,H,⟨hg.os.trans h.bel.os,hg.tape.trans h.bel.tape,hg.output.trans h.bel.output,Jo,fun q hq=>(hg.block q Jo (fun e=>by injection e with e;omega)).trans (h.bel.block q hq)⟩,(hg.block _ Jo (fun e=>by injection e with e;omega)).trans h.row,Jo,⟨(yu (w:=wr) (hg.block (w0.heap.size+1) Jo (fun e=>by injection e with e;omega))).trans h.c5.1,(yD (w:=wr) (hg.block (w0.heap.size+1) Jo (fun e=>by injection e with e;omega))).trans h.c5.2⟩⟩
structure LdG(w0:JY)(am:Option Addr)(ms:List zH):Prop where
 hn:ms.length<=100
 arg:zB3 w0 am ms
 sz:∀i,i<ms.length->(atM ms i).n.size<=maxLen/\(atM ms i).t.size<=maxLen
 mx:zD7 w0
theorem zVd(g:LdG w0 am ms)(hk:k<ms.length)(h:St w0 W X ob am cm ms 0 k wr):Calls prog 84 #[Qp (w0.heap.size+1),Qi k] wr (zKJ w0 W X ob am cm ms 0 k):=by
 obtain⟨hK,hg,v1,vs,U,hl,hP,hU,K⟩:=h;have hn:=g.hn;go_call zKf w0.heap.size _ _ _ am cm ms v1 vs U k wr hP hK.siz Jo (g.arg.below hK.bel) hk Jo (g.sz k hk).2 (g.sz k hk).1 (g.mx.below hK.bel) as e w' ⟨⟨b,rfl,hb⟩,hkp,x,us,os,bb,c,l,v4,hui,hP4,hsn⟩;have H:=hK.kpp (fun g e=>(hP.row.lt g e).1) K hkp;refine⟨b,rfl,fun e=>?_,fun e=>⟨⟨hg,?_⟩,H⟩⟩
 ·have q:=hb.1 e;obtain⟨rfl,rfl,_,_⟩:=zSA q hui;exact⟨H,zFk hg q,v4,_,_,by simp[hl],hP4,hU.step hui,hsn.ne K hK.xl⟩
 ·by_cases hx:B2 ms k
  ·exact hx
  ·have:=hb.2 hx;rw[e] at this;cases this
theorem zTg(h:St w0 W X ob am cm ms 0 ms.length wr):St w0 W X ob am cm ms 1 0 wr:=by
 obtain⟨hK,hg,v1,vs,U,hl,hP,hU,H⟩:=h;refine⟨hK,fun i hi=>Jo,U,[],wr.heap.size,⟨v1,vs,.slice none 0 0,none,Jb,Js,hU,hg,⟨rfl,fun i hi=>Jo,Js,fun x hx=>by cases hx⟩,?_⟩,hP.sm⟩;exact⟨⟨hP.c0,hP.c1,hP.row,fun g e=>(hP.row.lt g e).2,hP.uns.at,hP.lo,Jo⟩,⟨hP.c2,hP.c3,hP.fz 2,hP.fz 3,World.ownsRow_nil _ _ _ _,yS ⟨rfl,rfl⟩,Jb,Js,fun g e=>by simp[Value.ownBlock] at e⟩,hP.c4,yk _,hP.hP,hP.hbs,hK.siz,hP.hne⟩
theorem zVe(g:LdG w0 am ms)(hk:k<ms.length)(h:St w0 W X ob am cm ms 1 k wr):Calls prog 85 #[Qp (w0.heap.size+1),Qi k] wr (zKJ w0 W X ob am cm ms 1 k):=by
 obtain⟨hK,hg,U,ks,C,⟨v1,vs,kv,pv,q,K,hU,x,hN,hH⟩,hm⟩:=h;have hn:=g.hn;have Y:=hN.ln;have y:=hH.hBC;have hC:=hH.hC;go_call zKh _ C am cm ms kv pv ks k wr hH.pg.c0 (g.arg.below hK.bel) hk hH.nm hC Jo (g.sz k hk).1 as e w' ⟨⟨b,rfl,hb⟩,kv',pv',hS,hE,hk',hp'⟩;have kl:∀g,kv.ownBlock=some g->C<=g:=fun g e=>(hH.nm.row.lt g e).1
 have pl:∀g,pv=some g->C<=g:=fun g e=>(hH.nm.plt g e).1
 have Q:=hK.eff y hE kl pl q K;refine⟨b,rfl,fun e=>?_,fun e=>⟨⟨x,hg,?_⟩,Q⟩⟩
 ·have H:=hb.1 e;rw[zCW H] at hS;refine⟨Q,zFk hg (hN.b3.1 H),U,_,C,⟨v1,vs,kv',pv',hk'.ne q hK.xl,hp'.ne K hK.xl,hU,x,hN.step H (g.sz k hk).1,?_⟩,hm.same (hE.blk _ hm.lt Jo (fun e=>Jy (kl _ e)) (fun e=>Jy (pl _ e)))⟩;exact⟨hH.pg.eff Jo hC hE kl pl,hS,(hE.cel 4 Jo Jo).1.trans hH.c4,yw hC hE.size,hH.hP,hH.hbs,hH.hBC,hH.hne⟩
 ·by_cases hx:B3 ms k
  ·exact hx
  ·have:=hb.2 (hN.b3.2 hx);rw[e] at this;cases this
theorem zTh(h:St w0 W X ob am cm ms 1 ms.length wr):St w0 W X ob am cm ms 2 0 wr:=by
 obtain⟨hK,hg,U,ks,C,hS,hm⟩:=h;exact⟨hK,hg,U,ks,C,hS,hm,fun i hi=>Jo⟩
theorem zCM.b4{U:List UnR}(h:zCM ms ks)(k:Nat):(∀u∈(atU U k).us,u∈ks)↔¬ B4 ms U k:=by
 constructor
 ·rintro h1 ⟨u,hu,h2⟩;obtain⟨i,hi,e⟩:=h.mem (h1 u hu);exact h2 i hi e
 ·intro h1 u hu;by_cases hx:u∈ks
  ·exact hx
  ·exact yR ⟨u,hu,fun j hj e=>hx (by rw[<-e];exact yB (h.at' j hj))⟩ h1
theorem zVf(g:LdG w0 am ms)(hk:k<ms.length)(h:St w0 W X ob am cm ms 2 k wr):Calls prog 86 #[Qp (w0.heap.size+1),Qi k] wr (zKJ w0 W X ob am cm ms 2 k):=by
 obtain⟨hK,hg,U,ks,C,⟨v1,vs,kv,pv,K,q,hU,H,hN,hH⟩,hm,h4⟩:=h;have hn:=g.hn;obtain⟨q1,q2⟩:=(hU.small hn).2.2 k hk;go_call zKi _ _ C am cm ms.length v1 vs U kv pv ks k wr hH.pg hk hH.nm q2 Jo Jo as e w' ⟨⟨b,rfl,hb⟩,hx⟩;obtain rfl:=hx.symm;refine⟨b,rfl,fun e=>?_,fun e=>⟨⟨H,hg,U,hU,h4,?_⟩,hK⟩⟩
 ·exact⟨hK,hg,U,ks,C,⟨v1,vs,kv,pv,K,q,hU,H,hN,hH⟩,hm,zFk h4 ((hN.all.b4 k).1 (hb.1 e))⟩
 ·by_cases hx:B4 ms U k
  ·exact hx
  ·have:=hb.2 ((hN.all.b4 k).2 hx);rw[e] at this;cases this
theorem zTi(h:St w0 W X ob am cm ms 2 ms.length wr):St w0 W X ob am cm ms 3 0 wr:=by
 obtain⟨hK,hg,U,ks,C,hS,hm,h4⟩:=h;exact⟨hK,hg,U,ks,C,hS,hm,h4,fun i hi=>Jo⟩
theorem ScH.below{C bs:Nat}{v1:Value}{vs:List UvR}{kv:Value}{pv:Option Nat}(h:ScH w B C P bs am cm ms v1 vs U kv pv ks)(hb:Qb w w'):ScH w' B C P bs am cm ms v1 vs U kv pv ks:=h.keep (zE hb _)
theorem zVg(g:LdG w0 am ms)(hk:k<ms.length)(h:St w0 W X ob am cm ms 3 k wr):Calls prog 87 #[Qp (w0.heap.size+1),Qi k] wr (zKJ w0 W X ob am cm ms 3 k):=by
 obtain⟨hK,hg,U,ks,C,⟨v1,vs,kv,pv,q,Q,hU,K,hN,hH⟩,hm,h4,h5⟩:=h;have hn:=g.hn;go_call zMX _ _ C am cm ms v1 vs U kv pv ks k wr hH.pg (g.arg.below hK.bel) hk hH.nm hH.hC hn hN.all (fun i hi=>(hN.all.b4 i).2 (h4 i hi)) (fun i hi=>((hU.small hn).2.2 i hi).1) as e w' ⟨⟨b,rfl,hb⟩,hbl⟩;have H:=hK.below hbl;refine⟨b,rfl,fun e=>?_,fun e=>⟨⟨K,hg,U,hU,h4,h5,?_⟩,H⟩⟩
 ·exact⟨H,hg,U,ks,C,⟨v1,vs,kv,pv,q,Q,hU,K,hN,hH.below hbl⟩,hm.same (hbl.block _ hm.lt),h4,zFk h5 (hb.1 e)⟩
 ·by_cases hx:TC (Edg ms U) k k
  ·exact hx
  ·have:=hb.2 hx;rw[e] at this;cases this
theorem zTj(h:St w0 W X ob am cm ms 3 ms.length wr):St w0 W X ob am cm ms 4 0 wr:=by
 obtain⟨hK,hg,U,ks,C,hS,hm,h4,h5⟩:=h;obtain⟨rk,r1,r2⟩:=zS1 hg h4 h5;have hR:RkE ms.length (nmF ms) U rk:=⟨fun i hi u hu=>⟨(zMH hi (h4 i hi) hu).1,r1 i hi u hu⟩,r2⟩;obtain⟨T,hT⟩:=zXO hR;exact⟨hK,hg,U,ks,C,T,rk,_,hS,h4,h5,hR,hT,⟨⟨0,[],hm,yk _,Js,fun j hj=>by cases hj⟩,fun j _ x hx=>(by cases hx),fun _ _ _ _ _ _ _ hx=>(by cases hx)⟩,fun i hi=>Jo⟩
theorem zVh(g:LdG w0 am ms)(hk:k<ms.length)(h:St w0 W X ob am cm ms 4 k wr):Calls prog 88 #[Qp (w0.heap.size+1),Qi k] wr (zKJ w0 W X ob am cm ms 4 k):=by
 obtain⟨hK,hg,U,ks,C,T,rk,G,⟨v1,vs,kv,pv,q,Q,hU,K,hN,hH⟩,h4,h5,hR,hT,hG,h6⟩:=h;have hn:=g.hn;obtain⟨p1,p2,p3⟩:=hU.small hn;go_call zMf _ C _ _ am cm ms v1 vs U kv pv ks T rk hn hN.all hR hT p1 p2 (fun i hi=>(p3 i hi).1) k hk wr G (g.arg.below hK.bel) hH hG as e w' ⟨⟨b,rfl,hb⟩,hgr,G',hG'⟩;have H:=hK.grown hgr;refine⟨b,rfl,fun e=>?_,fun e=>⟨⟨K,hg,U,T,rk,hU,h4,h5,hR,hT,h6,?_⟩,H⟩⟩
 ·exact⟨H,hg,U,ks,C,T,rk,G',⟨v1,vs,kv,pv,q,Q,hU,K,hN,hH.keep hgr⟩,h4,h5,hR,hT,hG',zFk h6 (hb.1 e)⟩
 ·intro hx;have:=hb.2 hx;rw[e] at this;cases this
theorem StN.below{w0 wr w':JY}{X:Nat}{am:Option Addr}{cm:Nat}{ms:List zH}{U:List UnR}{ks:List JZ}{C k:Nat}(h:StN w0 wr X am cm ms U ks C k)(hb:Qb wr w'):StN w0 w' wr.heap.size am cm ms U ks C k:=by
 obtain⟨v1,vs,kv,pv,_,_,hU,H,hN,hH⟩:=h;exact⟨v1,vs,kv,pv,fun e=>Jy ((hH.nm.row.lt _ e).2),fun e=>Jy ((hH.nm.plt _ e).2),hU,H,hN,hH.below hb⟩
theorem zKK(w:JY)(o:Obj):(w.alloc o).heap[w.heap.size]?=some o:=by
 show(w.heap.push o)[w.heap.size]?=some o;simp
theorem St.alloc{w0 W:JY}{X:Nat}{ob:Obj}{am:Option Addr}{cm:Nat}{ms:List zH}{s k:Nat}{wr:JY}(h:St w0 W X ob am cm ms s k wr)(o:Obj):St w0 W wr.heap.size o am cm ms s k (wr.alloc o):=by
 have hb:Qb wr (wr.alloc o):=zC _ _;have H:∀{X ob},LdK w0 W X ob wr->LdK w0 W wr.heap.size o (wr.alloc o):=fun hK=>by
  have hz:=hK.siz;exact⟨zKK wr o,Jo,hK.bel.trans (hb.mono Jo),(hb.block _ Jo).trans hK.row,Jq,⟨(hb.cell (p:=(Qa (w0.heap.size+1) 5)) (show w0.heap.size+1<_ by omega)).trans hK.c5.1,(hb.frozen (p:=(Qa (w0.heap.size+1) 5)) (show w0.heap.size+1<_ by omega)).trans hK.c5.2⟩⟩
 match s,h with
 |0,⟨hK,hg,v1,vs,U,hl,hP,hU,hvX⟩=>exact⟨H hK,hg,v1,vs,U,hl,hP.below hb,hU,fun e=>Jy ((hP.row.lt _ e).2)⟩
 |1,⟨hK,hg,U,ks,C,hS,hm⟩=>exact⟨H hK,hg,U,ks,C,hS.below hb,hm.same (hb.block _ hm.lt)⟩
 |2,⟨hK,hg,U,ks,C,hS,hm,h4⟩=>exact⟨H hK,hg,U,ks,C,hS.below hb,hm.same (hb.block _ hm.lt),h4⟩
 |3,⟨hK,hg,U,ks,C,hS,hm,h4,h5⟩=>exact⟨H hK,hg,U,ks,C,hS.below hb,hm.same (hb.block _ hm.lt),h4,h5⟩
 |s+4,⟨hK,hg,U,ks,C,T,rk,G,hS,h4,h5,hR,hT,hG,h6⟩=>exact⟨H hK,hg,U,ks,C,T,rk,G,hS.below hb,h4,h5,hR,hT,hG.below hb,h6⟩
theorem St.ldk(h:St w0 W X ob am cm ms s k wr):LdK w0 W X ob wr:=by
 match s,h with
 |0,h=>exact h.1
 |1,h=>exact h.1
 |2,h=>exact h.1
 |3,h=>exact h.1
 |s+4,h=>exact h.1
theorem ZH{q:Nat}{cs:Array Value}{t:TypeId}(h:w.heap[X]?=some (.cells cs t))(hv:cs[q]?=some v):w.cell? (Qa X q)=some v:=by
 simp[World.cell?,h,hv]
theorem zBI.hit{n:Nat}{B P:Nat->Prop}{R:Prop}(h:zBI n B P R)(hk:k<n)(hB:B k)(hb:∀i,i<k->¬ B i):P k:=by
 rcases h with⟨i,hi,h1,h2,h3⟩|⟨h1,_⟩
 ·rcases Nat.lt_trichotomy i k with e|e|e
  ·exact yR h1 (hb i e)
  ·rw[<-e];exact h3
  ·exact yR hB (h2 k e)
 ·exact yR hB (h1 k hk)
theorem zBI.miss{n:Nat}{B P:Nat->Prop}{R:Prop}(h:zBI n B P R)(hb:∀i,i<n->¬ B i):R:=by
 rcases h with⟨i,hi,h1,_⟩|⟨_,h1⟩
 ·exact yR h1 (hb i hi)
 ·exact h1
theorem zFl(h:PUk ms U ms.length)(h0:Zo ms U0)(i:Nat)(hi:i<ms.length):(atU U i).os=(atU U0 i).os/\(atU U i).us=dst (atU U0 i).us:=by
 obtain⟨us,h1,h2⟩:=h.2 i hi;obtain⟨e1,e2,_⟩:=zy.one h1 (h0.2 i hi);exact⟨e2,by rw[h2,e1]⟩
theorem zMg{u:JZ}:u∈dst us↔u∈us:=by
 unfold dst;rw[zBR];simp
theorem zOU(h:PUk ms U ms.length)(h0:Zo ms U0)(i:Nat)(hi:i<ms.length):B4 ms U i↔B4 ms U0 i:=by
 unfold B4;rw[(zFl h h0 i hi).2];simp only[zMg]
theorem zPf(h:PUk ms U ms.length)(h0:Zo ms U0):Edg ms U=Edg ms U0:=by
 funext i j;apply propext;unfold Edg;constructor
 ·rintro⟨h1,h2,h3⟩;rw[(zFl h h0 i h1).2,zMg] at h3;exact⟨h1,h2,h3⟩
 ·rintro⟨h1,h2,h3⟩;refine⟨h1,h2,?_⟩;rw[(zFl h h0 i h1).2,zMg];exact h3
theorem zVi(xs:List OpR):∃c,zO xs c:=by
 unfold zO;by_cases h1:500<xs.length
 ·exact⟨1,yS ⟨rfl,h1⟩⟩
 ·have h:xs.length<=500:=Jo;by_cases h2:zBi xs xs.length
  ·by_cases h3:Pr 3 xs
   ·exact⟨3,yU ⟨h,yU ⟨h2,yS ⟨rfl,h3⟩⟩⟩⟩
   ·by_cases h4:Pr 4 xs
    ·exact⟨4,yU ⟨h,yU ⟨h2,yU ⟨h3,yS ⟨rfl,h4⟩⟩⟩⟩⟩
    ·exact⟨0,yU ⟨h,yU ⟨h2,yU ⟨h3,yU ⟨rfl,h4⟩⟩⟩⟩⟩
  ·exact⟨2,yU ⟨h,yS ⟨rfl,h2⟩⟩⟩
theorem zHv{S T:List OpR}(h:zRy S T):zO T 0↔¬ ∃c,zO S c/\c≠0:=by
 by_cases hs:S.length<=500
 ·rw[h.1 hs];constructor
  ·rintro h1 ⟨c,h2,h3⟩;exact h3 (zAC h2 h1)
  ·intro h1;obtain⟨c,hc⟩:=zVi S;by_cases e:c=0
   ·rw[<-e];exact hc
   ·exact yR ⟨c,hc,e⟩ h1
 ·have ht:=h.2 Jo;constructor
  ·intro h1;rcases h1 with⟨h1,_⟩|⟨h1,_⟩
   ·cases h1
   ·omega
  ·intro h1;exact yR ⟨1,yS ⟨rfl,Jo⟩,Jd⟩ h1
theorem zVj{c who:Int}(h:zAF ms out c who)(hn:ms.length<=100)(hs:s<5)(hk:k<ms.length)(hf:Fl ms s k):out=[]/\c=(s:Int)+2/\who=(k:Int):=by
 rcases h with⟨h,_⟩|⟨_,h⟩
 ·omega
 rcases(Jo:s=0\/s=1\/s=2\/s=3\/s=4) with rfl|rfl|rfl|rfl|rfl
 ·obtain⟨h1,h2⟩:=hf;exact h.hit hk h2 h1
 ·obtain⟨h1,h2,h3⟩:=hf;exact(h.miss h1).hit hk h3 h2
 ·obtain⟨h1,h2,U,hU,h4,Q⟩:=hf;obtain⟨U0,H,h'⟩:=(h.miss h1).miss h2;exact h'.hit hk ((zOU hU H k hk).1 Q) (fun i hi=>fun x=>h4 i hi ((zOU hU H i Jo).2 x))
 ·obtain⟨h1,h2,U,hU,h4,h5,q⟩:=hf;obtain⟨U0,H,h'⟩:=(h.miss h1).miss h2;rw[zPf hU H] at h5 q;exact(h'.miss (fun i hi x=>h4 i hi ((zOU hU H i hi).2 x))).hit hk q h5
 ·obtain⟨h1,h2,U,T,rk,hU,h4,h5,hR,hT,h6,y⟩:=hf;obtain⟨U0,H,h'⟩:=(h.miss h1).miss h2;rw[zPf hU H] at h5;obtain⟨S,hS,X⟩:=(h'.miss (fun i hi x=>h4 i hi ((zOU hU H i hi).2 x))).miss h5;have K:=fun i (hi:i<ms.length)=>BrE.near hT hR hS (fun i hi=>zFl hU H i hi) (rk i+1) i hi Jo
  refine X.hit hk ?_ (fun i hi x=>((zHv (K i Jo)).1 (h6 i hi)) x);by_cases hx:B6 S k
  ·exact hx
  ·exact yR ((zHv (K k hk)).2 hx) y
theorem zVk{c who:Int}(h:zAF ms out c who)(hn:ms.length<=100){T:Nat->List OpR}{rk:Nat->Nat}(h1:∀i,i<ms.length->¬ B2 ms i)(h2:∀i,i<ms.length->¬ B3 ms i)(hU:PUk ms U ms.length)(h4:∀i,i<ms.length->¬ B4 ms U i)(h5:∀i,i<ms.length->¬ TC (Edg ms U) i i)(hR:RkE ms.length (nmF ms) U rk)(hT:BrE ms.length (nmF ms) U T)(h6:∀i,i<ms.length->zO (T i) 0):out=(List.range ms.length).map T/\c=0/\who=0:=by
 rcases h with⟨h,_⟩|⟨_,h⟩
 ·omega
 obtain⟨U0,K,h'⟩:=(h.miss h1).miss h2;rw[zPf hU K] at h5;obtain⟨S,hS,q⟩:=(h'.miss (fun i hi x=>h4 i hi ((zOU hU K i hi).2 x))).miss h5;have H:=fun i (hi:i<ms.length)=>BrE.near hT hR hS (fun i hi=>zFl hU K i hi) (rk i+1) i hi Jo
 obtain⟨e1,e2,e3⟩:=q.miss (fun i hi x=>((zHv (H i hi)).1 (h6 i hi)) x);refine⟨?_,e2,e3⟩;rw[e1];refine List.map_congr_left (fun i hi=>?_);have k:i<ms.length:=List.mem_range.1 hi;have hl:(S i).length<=500:=by
  by_cases hx:(S i).length<=500
  ·exact hx
  ·have:=(H i k).2 Jo;rcases h6 i k with⟨e,_⟩|⟨e,_⟩
   ·cases e
   ·omega
 exact((H i k).1 hl).symm
end Go.Proofs.YtadiaghhackbjaaGreatDoor
