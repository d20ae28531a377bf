import Derived.Test.YtadiaghhackbjaaGreatDoorU34
import Derived.Test.YtadiaghhackbjaaGreatDoorU37
import Derived.Test.YtadiaghhackbjaaGreatDoorU39
namespace Go.Proofs.YtadiaghhackbjaaGreatDoor
set_option linter.all false
set_option maxHeartbeats 0
set_option maxRecDepth 100000
open Proofs.Tryz RowKit Maps
variable{T:Nat -> List OpR}{b o:OpR}{cs ps:List ByteArray}{ms:List zH}{w:World}
structure PgZ(w:JY)(P:Nat)(am:Option Addr)(cm:Nat)(ms:List zH)(U:List UnR)(T:Nat->List OpR)(ts:List (List zD))(vS:Nat->Value)(au:Option Addr)(cu:Nat)(ar:Option Addr)(cr:Nat):Prop where
 c0:w.cell? (Qa P 0)=some (.slice am ms.length cm)
 c1:w.cell? (Qa P 1)=some (.slice au ms.length cu)
 c5:w.cell? (Qa P 5)=some (.slice ar ms.length cr)
 arg:zB3 w am ms
 un:∀i,i<ms.length->∃g vu vo,au=some (Qa g 0)/\g<w.heap.size/\w.cell? (Qa g (i*3))=some vu/\w.cell? (Qa g (i*3+1))=some vo/\w.cell? (Qa g (i*3+2))=some (Qs (atU U i).b)/\ZS w vo (atU U i).os/\∃a n c,vu=.slice a n c
 so:∀i,i<ms.length->ZS w (vS i) (T i)
 sc:∀i,i<ms.length->∀w',Qb w w'->Calls prog 53 #[Qp P,Qs (atM ms i).n] w' fun e w''=>e=.returned (.agg #[vS i])/\Qb w' w''
 tr:∀i,i<ms.length->∃g g2 c2,ar=some (Qa g 0)/\g<w.heap.size/\w.cell? (Qa g i)=some (Ql g2 (zCK ts i).length c2)/\g2<w.heap.size/\Zv w g2 0 (zCK ts i)
theorem PgZ.below{w w':JY}{P cm cu cr:Nat}{am au ar:Option Addr}{ms:List zH}{U:List UnR}{T:Nat->List OpR}{ts:List (List zD)}{vS:Nat->Value}(h:PgZ w P am cm ms U T ts vS au cu ar cr)(hb:Qb w w'):PgZ w' P am cm ms U T ts vS au cu ar cr:=by
 have z:=hb.size;have hP:P<w.heap.size:=World.block_lt_of_cell? _ _ h.c0;have k:=fun p (hp:p.block<w.heap.size)=>hb.cell (p:=p) hp
 refine⟨(k (Qa P 0) hP).trans h.c0,(k (Qa P 1) hP).trans h.c1,(k (Qa P 5) hP).trans h.c5,h.arg.below hb,fun i hi=>?_,fun i hi=>(h.so i hi).below hb,fun i hi W hW=>h.sc i hi W (hb.trans (hW.mono z)),fun i hi=>?_⟩
 ·obtain⟨g,vu,vo,e,h1,h2,h3,h4,h5,h6⟩:=h.un i hi;exact⟨g,vu,vo,e,Jo,(k (Qa g (i*3)) h1).trans h2,(k (Qa g (i*3+1)) h1).trans h3,(k (Qa g (i*3+2)) h1).trans h4,h5.below hb,h6⟩
 ·obtain⟨g,g2,c2,e,h1,h2,h3,h4⟩:=h.tr i hi;exact⟨g,g2,c2,e,Jo,(k (Qa g i) h1).trans h2,Jo,h4.below hb h3⟩
theorem PgI.z{wr:JY}{am:Option Addr}{cm:Nat}{H:List (List zD)}{d:PgD}{G:ByteArray->Option Value}(h:PgI w wr am cm ms H d G)(hk:zXQ w am cm ms H d)(hA:zB3 w am ms)(q:∀j,j<ms.length->∃x,G (atM ms j).n=some x)(X:zBk ms):∃vS au cu ar cr,PgZ wr (w.heap.size+1) am cm ms d.U d.T H vS au cu ar cr:=by
 have hp:=h.sh.pg;have hl:=hp.ln;have Y:d.vs.length=ms.length:=Jo;obtain⟨au,cu,eu⟩:∃a c,d.v1=.slice a d.vs.length c:=zR hp.row;have k:=h.tr.res;obtain⟨ar,cr,er⟩:=k.1;have P:H.length=ms.length:=hk.tr.1;rw[P] at er;rw[Y] at eu;have K:∀i,i<ms.length->∃v,G (atM ms i).n=some (.agg #[v])/\ZS wr v (d.T i):=fun i hi=>by
  obtain⟨x,hx⟩:=q i hi;obtain⟨v,rfl,hv,_⟩:=h.sc.at' i hi x hx;exact⟨v,hx,hv.ops⟩
 obtain⟨m,hm,_⟩:=h.sc.cnt;refine⟨fun i=>match G (atM ms i).n with|some (.agg a)=>a.getD 0 (.slice none 0 0)|_=>.slice none 0 0,au,cu,ar,cr,hp.c0,by rw[<-eu];exact hp.c1,by rw[<-er];exact h.c5,hA.below h.bel,fun i hi=>?_,fun i hi=>?_,fun i hi W hW=>?_,fun i hi=>?_⟩
 ·obtain⟨g,c,e,n0,n1,n2⟩:=hp.at hi;rw[eu] at e;obtain⟨rfl,_,rfl⟩:=Value.slice.inj e;obtain⟨⟨⟨a,c',J,_⟩,Q,y⟩,_⟩:=hp.uns.2 i Jo;have hg:g<wr.heap.size:=(World.ownsRow.lt hp.row g (by rw[eu];rfl)).2;exact⟨g,_,_,rfl,hg,n0,n1,by rw[<-y];exact n2,Q,a,_,c',J⟩
 ·obtain⟨v,e,ho⟩:=K i hi;simp only[e];exact ho
 ·obtain⟨v,e,ho⟩:=K i hi;obtain⟨a,c,rfl,_⟩:=id ho;have c4:=(hW.cell (p:=(Qa (w.heap.size+1) 4)) (World.block_lt_of_cell? _ _ h.sh.c4)).trans h.sh.c4;have:=zIO (w.heap.size+1) w.heap.size m _ c a (atM ms i).n G W (World.block_lt_of_cell? _ _ c4) c4 (hm.same (hW.block _ hm.lt)) e ((X i hi).1);simp only[e];exact this
 ·obtain⟨gR,cR,e,h1,h2⟩:=zTy k hk.tr Jo;rw[er] at e;obtain⟨rfl,_,rfl⟩:=Value.slice.inj e;obtain⟨g,c,h3,h4,h5⟩:=h2 i hi;exact⟨gR,g,c,rfl,h1,h3,h4,h5⟩
def zMo(ms:List zH)(U:List UnR)(o:OpR)(n:Nat):List ByteArray:=(zFC U o n).map fun i=>(atM ms i).n
theorem zGG(P cm cu cr:Nat)(am au ar:Option Addr)(ms:List zH)(U:List UnR)(T:Nat->List OpR)(ts:List (List zD))(vS:Nat->Value)(o:OpR)(w:JY)(hn:ms.length<=100)(h:PgZ w P am cm ms U T ts vS au cu ar cr)(R:∀i,i<ms.length->(atU U i).os.length<=1048576):Calls prog 57 #[Qp P,opV o] w fun e w'=>(∃v,e=.returned v/\Ze w' w.heap.size v (zMo ms U o ms.length))/\Below w.heap.size w w':=by
 unfold opV;obtain⟨i0,hd,m,M,t⟩:=zS zEd;have HI:=zB hd;have HZ:=zB (yK m (yK M t));obtain⟨N,hN⟩:=Jx w.heap.size;obtain⟨W,hW⟩:=Jx (w.alloc (.cells #[Qs o.s,Qi o.k,Qi o.l,Qi o.sd] 33));have B:Below w.heap.size w W:=by rw[hW];exact zC _ _
 have HP:=zB (h.below B);have hz:W.heap.size=N+1:=by rw[hW,hN];simp
 have HO:=zB (by rw[hW,hN];exact⟨Jg,Jg,Jg,Jg⟩:zBO W N o);have hh:=zB B;have HW:=zB hz;have HN:=zB hN;have ho:=zB R;have c1:=HP.c1;clear hd m M t h B hz R;go_enter func57,ntmps57;go_upto_region 2 with fail
 rw[<-hW,<-hN];clear hW hN;go_wp2_with fail;go_loopw [5,15] (fun F i wr=>∃(n:Nat)(ds:List JZ),n<=ms.length/\i=Qi n/\Hid (ds=zMo ms U o n)/\Hid (Ze wr (N+1) F ds)/\Hid (ds.length<=1048576*n)/\Hid (Below (N+1) W wr)) (fun _ i _=>ms.length-(intOf i).toNat);case atStart=>exact⟨0,[],ym _,rfl,zB rfl,zB (World.ownsRow_nil _ _ _ _),zB (ym _),zB (yJ _ _)⟩
 case round=>
  obtain⟨n,ds,ht,rfl,r,HR,H,HB⟩:=hrel;have K:=zB (by rw[zA HW];exact zA HB:Below W.heap.size W wr);have zr:N+1<=wr.heap.size:=by have:=K.size;have:=zA HW;omega
  obtain⟨av,cv,rfl⟩:=zR HR;by_cases u:n<ms.length
  ·have hs:(n:Int)<(ms.length:Int):=Jo;obtain⟨g,vu,vo,rfl,hg,u0,u1,u2,L,ua,un,uc,rfl⟩:=(HP.below K).un n u;obtain⟨bA,hi,rfl,a,hw⟩:=HP.arg.resolve_left Jo;have he:=zB (a n u).1;have G:bA<N+1:=Jy (zA HW)
   have hr:=(zA ho) n u;have O:=zB (show ∀W',Below W.heap.size W W'->ZS W' vo (atU U n).os from fun W' hb=>by
    obtain⟨g',_,vo',e,_,_,h1,_,h2,_⟩:=HP.un n u
    obtain⟨rfl⟩:g=g':=by injection e with e;injection e
    have:=(K.cell (p:=(Qa g (n*3+1))) (World.block_lt_of_cell? _ _ h1)).trans h1
    rw[u1] at this
    injection this with this
    rw[this]
    exact h2.below hb)
   obtain⟨os,d⟩:=Jx ((atU U n).os);obtain⟨bd,ha⟩:=Jx ((atU U n).b);obtain⟨nm,D⟩:=Jx ((atM ms n).n);rw[<-d] at hr O L;rw[<-ha] at u2;rw[<-D] at he;obtain⟨ao,co,rfl,_⟩:=L;obtain⟨W4,V⟩:=Jx (wr.alloc (.cells #[.slice ua un uc,.slice ao os.length co,Qs bd] 89));have C:Below wr.heap.size wr W4:=by rw[V];exact zC _ _
   have x1:W4.cell? (Qa wr.heap.size 1)=some (.slice ao os.length co):=by rw[V];simp[go_sem]
   have Z:=zB (HR.below C);have j:=zB (HB.trans (C.mono zr));have hf:=zB (by simp[zMo,zFC,d,D]:zMo ms U o (n+1)=zMo ms U o n++List.replicate (zGf o os) nm);have hp:=zB V;clear d ha D a C V;go_upto_region 5 with fail
   rw[<-zA hp];go_wp2_with fail;clear x1 u0 u1 u2;go_loopw [5,23] (fun F kk wr=>∃(k:Nat)(es:List JZ),k<=os.length/\kk=Qi k/\Hid (es=ds++List.replicate (zGf o (os.take k)) nm)/\Hid (Ze wr (N+1) F es)/\Hid (es.length<=1048576*n+k)/\Hid (Below (N+1) W wr)) (fun _ kk _=>os.length-(intOf kk).toNat);case atStart=>exact⟨0,ds,ym _,rfl,zB (by simp[zGf]),Z,H,j⟩
   case round=>
    clear HR HB H K Z j zr;obtain⟨k,es,hk,rfl,c,HR,H,HB⟩:=hrel;have K:=zB (by rw[zA HW];exact zA HB:Below W.heap.size W wr);have zr:N+1<=wr.heap.size:=by have:=K.size;have:=zA HW;omega
    obtain⟨aw,cw,rfl⟩:=zR HR;by_cases I:k<os.length
    ·have hv:(k:Int)<(os.length:Int):=Jo;obtain⟨a',c',e,h⟩:=(zA O) wr K;obtain⟨rfl,_,rfl⟩:=Value.slice.inj e;obtain⟨g2,rfl,hy,hc⟩:=h.resolve_left (fun x=>Jo);obtain⟨a0,a1,a2,a3⟩:=hc k I;simp only[yY] at a0 a1 a2 a3;obtain⟨x,hx⟩:=Jx (atO os k);have HT:=zB (zLc (o:=o) I);rw[<-hx] at a0 a1 a2 a3 HT;obtain⟨W6,J⟩:=Jx (wr.alloc (.cells #[Qs x.s,Qi x.k,Qi x.l,Qi x.sd] 33));have Y:Below wr.heap.size wr W6:=by rw[J];exact zC _ _
     have A:=zB (HR.below Y);have y:=zB (HB.trans (Y.mono zr));obtain⟨x0,x1,x2,x3⟩:zBO W6 wr.heap.size x:=by rw[J];exact⟨Jg,Jg,Jg,Jg⟩
     obtain⟨d0,d1,d2,d3⟩:=HO.below4 y Jo;have hq:=fun W=>zBs x o W
     have hu:=zDm;have z6:N+1<=W6.heap.size:=Jy Y.size
     have hj:=zB J;clear hc h e J Y hx;go_upto_region 8 with fail
     rw[<-zA hj];cases hsm:ZV x o
     ·have f:=zB hsm;simp only[hsm] at hq;clear hsm;go_wp2;refine⟨⟨k+1,es,Jo,Jn,zB ?_,A,zB (Jy (zA H)),y⟩,Ji⟩;rw[zA HT,zA f,zA c];simp
     ·have f:=zB hsm;simp only[hsm] at hq;have p0:=Jc y (by have h1:P<W.heap.size:=World.block_lt_of_cell? _ _ HP.c0;have:=zA HW;omega) HP.c0;have m0:=(y.cell (p:=(Qa bA (hi+n*2))) G).trans he;clear hsm;go_wp2_with (at_builtin;refine yL _ rfl (.tmp 30) (.tmp 39) 87 rfl (N+1) 9 i0 _ 1 16 underlying87 HI HZ.1 HZ.2.1 HZ.2.2 rfl Jd _ es.length (ZM es) rfl (A.below (zC _ _)) (Qa W6.heap.size 0) 1 1 (ZM [nm]) rfl rfl (zAz W6 nm) (Z3 _) ?b1 ?b2 ?b3 ?next);case b1=>have:=zA H;unfold maxLen;omega
      case b2=>have:=zA H;omega
      case b3=>first|omega|(simp;omega)
      case next=>
       intro v4 w4 X Q E S;have hm:=zB (by unfold Ze;rw[Zg,yq];exact X:Ze w4 (N+1) v4 (es++[nm]));have j:Hid (Below (N+1) W w4):=(y.alloc z6 _).grown Q Jq (fun q hq=>(A.lt q hq).1);clear X Q E S;go_wp2;refine⟨⟨k+1,es++[nm],Jo,Jn,zB ?_,hm,zB (by have:=zA H;simp;omega),j⟩,Ji⟩;rw[zA HT,zA f,zA c,yA];simp[List.replicate_succ']
    ·obtain rfl:k=os.length:=Jo;have hl:=zB (by rw[zA c,zA hf,zA r,List.take_length]:es=zMo ms U o (n+1));go_wp2;exact⟨⟨n+1,es,Jo,Jn,hl,HR,zB (Jy (zA H)),HB⟩,Ji⟩
  ·obtain rfl:n=ms.length:=Jo;have e:=zA r;subst e;have HG:Hid (Below w.heap.size w wr):=hh.trans (HB.mono (by rw[<-zA HN];omega));go_wp2;go_ret;exact⟨⟨_,rfl,HR.base (by rw[<-zA HN];omega)⟩,HG⟩
theorem zKS(v:Value)(ns:List JZ)(b:Nat)(m:JZ)(w:JY)(hl:ns.length<=1048576000)(hs:ZO w v ns)(hm:w.cell? (Qa b 0)=some (Qs m)):Calls prog 56 #[v,Ql b 1 1] w fun e w'=>(∃r,e=.returned (.bool r)/\(r=true↔ns=[m]))/\Qb w w':=by
 obtain⟨a,c,rfl,hs⟩:=hs;by_cases h1:ns.length=1
 ·obtain⟨x,rfl⟩:=List.length_eq_one_iff.1 h1;obtain⟨g,rfl,hg,hc⟩:=hs.resolve_left Js;have c0:w.cell? (Qa g 0)=some (Qs x):=hc 0 x rfl;rw[h1];cases he:x.toList==m.toList
  ·have HE:=zB (show false=true↔[x]=[m] from⟨fun h=>(by cases h),fun h=>by
    injection h with h
    rw[h] at he
    simp at he⟩)
   clear hc hs h1 hl;go_enter func56,ntmps56;go_wp2;go_loopw [13] (fun i wr=>i=Qi 0/\wr=w) (fun _ _=>0);case atStart=>exact⟨rfl,rfl⟩
   case round=>
    obtain⟨rfl,hw⟩:=hrel;have hx:=hw.symm;subst hx;go_wp2_with fail;go_quiet (fail);go_wp2;go_ret;exact⟨⟨false,rfl,HE⟩,below_drewN (yJ _ _) _⟩
  ·have HE:=zB (by have e:x=m:=zBC (Ju he);rw[e]:[x]=[m]);clear hc hs h1 hl;go_enter func56,ntmps56;go_wp2;go_loopw [13] (fun i wr=>∃k:Nat,k<=1/\i=Qi k/\Qb w wr/\(k=0->wr=w)) (fun i _=>1-(intOf i).toNat);case atStart=>exact⟨0,ym _,rfl,yJ _ _,fun _=>rfl⟩
   case round=>
    obtain⟨k,hk,rfl,hb,hw⟩:=hrel;by_cases h0:k=0
    ·subst h0;obtain rfl:=(hw rfl).symm;clear hw hb;go_wp2_with fail;go_quiet (fail);go_wp2;exact⟨⟨1,Jo,Jn,below_drewN (yJ _ _) _,fun h=>Jo⟩,by simp[intOf]⟩
    ·obtain rfl:k=1:=Jo;have HB:=zB hb;clear hw hb h0;go_wp2;go_ret;exact⟨⟨true,rfl,⟨fun _=>HE,fun _=>rfl⟩⟩,HB⟩
 ·have hI:((ns.length:Int)!=1)=true:=Jq;have HE:=zB (show false=true↔ns=[m] from⟨fun h=>(by cases h),fun h=>yR (by rw[h];rfl) h1⟩);clear h1 hs;go_enter func56,ntmps56;go_wp2;go_ret;exact⟨⟨false,rfl,HE⟩,yJ _ _⟩
def zDe(o:OpR)(T:Nat->List OpR)(n:Nat):List Nat:=(List.range n).filter fun i=>inB o (T i)
theorem zT1(o:OpR)(T:Nat->List OpR)(n:Nat):(zDe o T n).length<=n:=by
 have:=List.length_filter_le (fun i=>inB o (T i)) (List.range n);simpa[zDe] using this
theorem zEY{n i:Nat}:i∈zDe o T n↔i<n/\inB o (T i)=true:=by simp[zDe]
theorem zRd(o:OpR)(T:Nat->List OpR)(n:Nat):zDe o T (n+1)=zDe o T n++if inB o (T n)=true then[n] else[]:=by
 simp only[zDe,List.range_succ,List.filter_append];congr 1;cases h:inB o (T n)<;>simp[h]
theorem zHU(P cm cu cr:Nat)(am au ar:Option Addr)(ms:List zH)(U:List UnR)(T:Nat->List OpR)(ts:List (List zD))(vS:Nat->Value)(o b:OpR)(w:JY)(hn:ms.length<=100)(h:PgZ w P am cm ms U T ts vS au cu ar cr)(hT:∀i,i<ms.length->(T i).length<=1048576):Calls prog 54 #[Qp P,chV o b] w fun e w'=>(∃v,e=.returned v/\zD4 w' v ((zDe o T ms.length).map T))/\Below w.heap.size w w':=by
 unfold chV;obtain⟨i0,s,I,l,r⟩:=zS zQW;have HI:=zB s;have HZ:=zB (yK I (yK l r));obtain⟨N,hN⟩:=Jx w.heap.size;obtain⟨W,hW⟩:=Jx (w.alloc (.cells (chC o b) 81));have C:Below w.heap.size w W:=by rw[hW];exact zC _ _
 have HP:=zB (h.below C);have hz:W.heap.size=N+1:=by rw[hW,hN];simp
 have he:=zB (by rw[hW,hN];exact zC9.new w o b _:zC9 W N o b);have S:=zB C;have HW:=zB hz;have HN:=zB hN;have HT:=zB hT;have c0:=HP.c0;unfold chC at hW;clear s I l r h C hz hT;go_enter func54,ntmps54;go_upto_region 2 with fail
 rw[<-hW,<-hN];clear hW hN;go_wp2_with fail;go_loopw [5,14] (fun hg i wr=>∃(n:Nat)(js:List Nat),n<=ms.length/\i=Qi n/\Hid (js=zDe o T n)/\Hid (wr.ownsRow (N+1) 63 1 hg js.length (js.map vS))/\js.length<=n/\Hid (Below (N+1) W wr)) (fun _ i _=>ms.length-(intOf i).toNat);case atStart=>exact⟨0,[],ym _,rfl,zB rfl,zB (World.ownsRow_nil _ _ _ _),yk _,zB (yJ _ _)⟩
 case round=>
  obtain⟨n,js,hp,rfl,HJ,HR,hl,HB⟩:=hrel;have d:=zB (by rw[zA HW];exact zA HB:Below W.heap.size W wr);have zr:N+1<=wr.heap.size:=by have:=d.size;have:=zA HW;omega
  obtain⟨av,cv,rfl⟩:=zR HR;by_cases K:n<ms.length
  ·have hk:(n:Int)<(ms.length:Int):=Jo;have E:=zB (HP.below d);obtain⟨bA,ho,rfl,J,ht⟩:=E.arg.resolve_left Jo;obtain⟨m0,m1⟩:=J n K;obtain⟨nm,f⟩:=Jx ((atM ms n).n);obtain⟨tx,M⟩:=Jx ((atM ms n).t);rw[<-f] at m0;rw[<-M] at m1;obtain⟨W4,y⟩:=Jx (wr.alloc (.cells #[Qs nm,Qs tx] 53));have X:Below wr.heap.size wr W4:=by rw[y];exact zC _ _
   have y0:W4.cell? (Qa wr.heap.size 0)=some (Qs nm):=by rw[y];simp[go_sem]
   have B:=zB (E.sc n K W4 X);have D:=zB (E.so n K);obtain⟨a,c,e,_⟩:=zA D;have HE:=zB e;rw[<-f,e] at B;rw[e] at D;have hd:=(zA HT) n K;have z4:=X.size;have hc:=zB X;have hf:=zB y;clear J f M e X y;go_upto_region 5 with fail
   rw[<-zA hf];go_wp2_with fail;go_call zA B as e w5 ⟨rfl,hb5⟩;obtain⟨W5,Q⟩:=Jx (w5.alloc (.cells #[.slice a (T n).length c] 63));have V:Below w5.heap.size w5 W5:=by rw[Q];exact zC _ _
   have x0:W5.cell? (Qa w5.heap.size 0)=some (.slice a (T n).length c):=by rw[Q];simp[go_sem]
   have Y:Below wr.heap.size wr W5:=(hc.trans (hb5.mono z4)).trans (V.mono (Jy hb5.size));have m:=zB (HB.trans (Y.mono zr));have z5:w5.heap.size<W5.heap.size:=by rw[Q];simp
   have zw5:wr.heap.size<=w5.heap.size:=Jy hb5.size
   have R:=zB (zBx HR (fun g e=>Y.block g (World.ownsRow.lt HR g e).2));obtain⟨_,⟨d0,d1,d2,d3⟩,d4,d5,d6,d7⟩:=he.below m Jo;have A:=zB (zIR (.slice a (T n).length c) (T n) o b W5 hd (D.below Y));have hh:=zB Q;unfold chV at A;clear hb5 V Q Y B y0;go_upto_region 6 with fail
   rw[<-zA hh];go_wp2_with fail;go_call zA A as e w6 ⟨rfl,hb6⟩;have L:=zB (m.trans (hb6.mono Jo));have x:=zB (zBx R (fun g e=>hb6.block g (World.ownsRow.lt R g e).2));have x6:=Jc hb6 z5 x0;have z6:N+1<=w6.heap.size:=Jy hb6.size
   have HS:=zB (zRd o T n);clear hb6 A d0 d1 d2 d3 d4 d5 d6 d7 x0;cases hin:inB o (T n)
   ·have G:=zB (by rw[zA HS,hin,zA HJ];simp:js=zDe o T (n+1));clear hin;go_wp2;exact⟨⟨n+1,js,Jo,Jn,G,x,Jo,L⟩,Ji⟩
   ·have G:=zB (by rw[zA HS,hin,zA HJ];simp:js++[n]=zDe o T (n+1));clear hin;go_wp2_with (at_builtin;refine yL _ rfl (.tmp 25) (.tmp 27) 54 rfl (N+1) 63 i0 _ 1 24 underlying54 HI HZ.1 HZ.2.1 HZ.2.2 rfl Jd _ js.length (js.map vS) rfl (zBx x (fun g e=>(zC w6 _).block g (World.ownsRow.lt x g e).2)) (Qa w6.heap.size 0) 1 1 [.slice a (T n).length c] rfl rfl (fun j u hj=>(by cases j with|zero=>(simp at hj;subst hj;simp[go_sem])|succ j=>simp at hj)) (fun u hu=>(by simp at hu;subst hu;rfl)) ?b1 ?b2 ?b3 ?next);case b1=>exact Jm
    case b2=>omega
    case b3=>first|omega|(simp;omega)
    case next=>
     intro v4 w4 k H F O;have Z:=zB (by rw[yq,List.map_append];simp only[List.map_cons,List.map_nil];rw[zA HE];exact k:w4.ownsRow (N+1) 63 1 v4 (js++[n]).length ((js++[n]).map vS));have ha:Hid (Below (N+1) W w4):=(L.alloc z6 _).grown H Jq (fun q hq=>(World.ownsRow.lt x q hq).1);clear k H F O;go_wp2;exact⟨⟨n+1,js++[n],Jo,Jn,G,Z,Jq,ha⟩,Ji⟩
  ·obtain rfl:n=ms.length:=Jo;have hb:=zB (show zD4 wr (.slice av js.length cv) ((zDe o T ms.length).map T) by
    rw[<-zA HJ]
    refine⟨av,cv,by rw[List.length_map],?_⟩
    by_cases h0:js.length=0
    ·exact yS (by rw[List.length_map];exact h0)
    have hr:=zA HR
    obtain⟨_,⟨_,h1⟩|⟨g,cap,hs,e,_⟩⟩:=id hr
    ·exact yR h1 h0
    ·obtain⟨rfl,_,rfl⟩:=Value.slice.inj e
     refine yU ⟨g,rfl,(World.ownsRow.lt hr g rfl).2,fun i hi=>?_⟩
     rw[List.length_map] at hi
     refine⟨vS js[i],by rw[World.ownsRow.cellAt hr i Jo];simp[hi],?_⟩
     have hm:js[i]<ms.length:=(zEY.1 (by rw[<-zA HJ];exact List.getElem_mem hi)).1
     have e2:zz (js.map T) i=T js[i]:=by simp[zz,hi]
     rw[e2]
     exact(HP.so _ hm).below d)
   have HG:Hid (Below w.heap.size w wr):=S.trans (HB.mono (by rw[<-zA HN];omega));clear K;go_wp2;go_ret;exact⟨⟨_,rfl,hb⟩,HG⟩
open Go.Shelf
theorem zT2(s:JZ)(hs:s.size<=20000)(w:JY)(hm:zD7 w):Calls prog 105 #[Qs s,Qs ⟨#[10]⟩] w fun e w'=>∃ps:List JZ,Hid (ps=(pcs 10 s 0).map fun p=>s.extract p.1 p.2)/\ps.length<=s.size+1/\e=.returned (Ql w.heap.size ps.length ps.length)/\w'=w.alloc (.cells (ps.map Value.string).toArray 9):=by
 obtain⟨m,hm⟩:=hm;have h1:1<=(⟨#[10]⟩:JZ).size:=yk _;go_call Any.strings_Split zQc Jk s ⟨#[10]⟩ m w Jo hm h1 as e w' ⟨rfl,rfl⟩;have hl:=Lib.splitB_all ⟨#[10]⟩ h1 0 _ s rfl;have hc:=Lib.countB_le ⟨#[10]⟩ h1 s.size s (yk _);exact⟨Lib.splitB ⟨#[10]⟩ 0 (Lib.countB s ⟨#[10]⟩) s,zB (zI1 10 s),Jo,by rw[hl],rfl⟩
theorem zV6{o b:OpR}:∀(ps cs:List JZ),cs.length=ps.length->(∀j,j<ps.length->Rp1 o b (atB ps j) (atB cs j))->zOc o b ps cs
 |[],cs,hl,_=>jd.1 hl
 |p::r,[],hl,_=>by simp at hl
 |p::r,c::s,hl,h=>⟨c,s,rfl,h 0 Js,zV6 r s (Ju hl) fun j hj=>h (j+1) (Ju hj)⟩
theorem zT3{M:Nat}:∀(xs:List JZ),(∀j,j<xs.length->(atB xs j).size<=M)->(Lib.join (xs.map (·.data.toList)) [10]).length<=xs.length*(M+1)
 |[],_=>by simp[Lib.join,List.intercalate]
 |[x],h=>by
  have:=h 0 Js;have e:atB [x] 0=x:=rfl;rw[e] at this;simp[Lib.join_one];omega
 |x::y::r,h=>by
  have h0:=h 0 Js;have e:atB (x::y::r) 0=x:=rfl;rw[e] at h0;have ih:=zT3 (y::r) fun j hj=>h (j+1) (Ju hj)
  have:(Lib.join ((x::y::r).map (·.data.toList)) [10]).length=x.size+1+(Lib.join ((y::r).map (·.data.toList)) [10]).length:=by
   simp[Lib.join,List.intercalate,List.intersperse];omega
  rw[this];simp only[yy] at ih ⊢;rw[Nat.succ_mul (r.length+1)];omega
structure LnH(w:JY)(g k:Nat)(o b:OpR)(ps cs:List JZ):Prop where
 h:g<w.heap.size
 ce:∀j,j<cs.length->w.cell? (Qa g j)=some (Qs (atB cs j))/\w.frozen? (Qa g j)=false
 l:cs.length=ps.length
 lo:∀j,j<k->Rp1 o b (atB ps j) (atB cs j)
 hi:∀j,k<=j->atB cs j=atB ps j
 z:∀j,j<cs.length->(atB cs j).size<=20000
theorem LnH.below{w':JY}{g k:Nat}(h:LnH w g k o b ps cs)(hb:Qb w w'):LnH w' g k o b ps cs:=
 ⟨yl h.h hb.size,fun j hj=>⟨Jc hb h.h (h.ce j hj).1,(hb.frozen (p:=Qa g j) h.h).trans (h.ce j hj).2⟩,h.l,h.lo,h.hi,h.z⟩
theorem LnH.skip{g k:Nat}(h:LnH w g k o b ps cs)(hr:¬ OpW (wds (atB ps k)) o):LnH w g (k+1) o b ps cs:=by
 refine⟨h.h,h.ce,h.l,fun j hj=>?_,fun j hj=>h.hi j Jo,h.z⟩;by_cases e:j=k
 ·subst e;exact yU ⟨hr,h.hi j (yk _)⟩
 ·exact h.lo j Jo
theorem LnH.put{g k:Nat}(h:LnH w g k o b ps cs)(hk:k<cs.length)(hr:OpW (wds (atB ps k)) o)(hz:(zA8 (dW b)).size<=20000):LnH (w.setCell (Qa g k) (Qs (zA8 (dW b)))) g (k+1) o b ps (cs.set k (zA8 (dW b))):=by
 have ha:∀j,atB (cs.set k (zA8 (dW b))) j=if j=k then zA8 (dW b) else atB cs j:=fun j=>by
  unfold atB;simp only[yn,List.getElem?_set];by_cases e:k=j
  ·subst e;simp[hk]
  ·rw[yP e,yP (fun x=>e x.symm)]
 refine⟨by simpa[World.setCell] using h.h,fun j hj=>?_,by rw[List.length_set];exact h.l,fun j hj=>?_,fun j hj=>?_,fun j hj=>?_⟩
 ·rw[List.length_set] at hj;rw[ha];refine⟨?_,(yv _ _ _ _).trans (h.ce j hj).2⟩;by_cases e:j=k
  ·subst e;rw[yQ rfl];exact yt _ _ _ (h.ce j hj).1
  ·rw[yP e];exact(yj _ _ _ _ (fun x=>by injection x with _ x;exact e x.symm)).trans (h.ce j hj).1
 ·rw[ha];by_cases e:j=k
  ·subst e;rw[yQ rfl];exact yS ⟨hr,rfl⟩
  ·rw[yP e];exact h.lo j Jo
 ·rw[ha,yP Jo];exact h.hi j Jo
 ·rw[List.length_set] at hj;rw[ha];split
  ·exact hz
  ·exact h.z j hj
theorem zMp{xs:List JZ}{i:Nat}(h:i<xs.length):xs[i]?=some (atB xs i):=by
 unfold atB;rw[yn,yr h];rfl
theorem zMq(s:JZ)(o b:OpR)(w:JY)(hs:s.size<=20000)(hm:zD7 w)(ht:zFD w)(hb:OpT b)(c:b.s.size<=16):Calls prog 63 #[chV o b,Qs s] w fun e w'=>(∃ls,e=.returned (Qs (jn ls))/\(jn ls).size<=1000000000/\zOc o b ((pcs 10 s 0).map fun p=>s.extract p.1 p.2) ls)/\Below w.heap.size w w':=by
 unfold chV;obtain⟨N,hN⟩:=Jx w.heap.size;obtain⟨W,hW⟩:=Jx (w.alloc (.cells (chC o b) 81));have hz:W.heap.size=N+1:=by rw[hW,hN];simp
 have X:Below w.heap.size w W:=by rw[hW];exact zC _ _
 have t:=zB (by rw[hW,hN];exact zC9.new w o b _:zC9 W N o b);have HM:=zB (hm.below X);have HT:=zB (ht.below X);have a:=zB (zT2 s hs W HM);have hc:=zB X;have HZ:=zB hz;have HN:=zB hN;have he:=zLK c;have ha:=zB hb;unfold chC at hW;clear hm ht hb X;go_enter func63,ntmps63;go_wp2_with fail;rw[<-hW,<-hN];clear hW hN;go_call zA a as e W1 ⟨ps,HPS,hpl,rfl,hW1⟩;rw[hz];have g:Below W.heap.size W W1:=by rw[hW1];exact zC _ _
 have z1:W1.heap.size=N+2:=by rw[hW1];simp[hz]
 have D:=zB (show LnH W1 (N+1) 0 o b ps ps by
  refine⟨Jo,fun j hj=>?_,rfl,fun j hj=>yR hj (yx j),fun _ _=>rfl,fun j hj=>?_⟩
  ·rw[hW1,<-hz]
   exact⟨zLb W ps j _ (zMp hj),Jg⟩
  ·have hx:=yB (zMp hj)
   rw[zA HPS] at hx
   obtain⟨p,_,e⟩:=List.mem_map.1 hx
   rw[<-zA HPS] at e
   rw[<-e,Za]
   omega)
 have T:=zB g;have hf:=zB z1;clear hW1 g a hz z1;go_wp2_with fail;go_loopw [14] (fun i wr=>∃(k:Nat)(cs:List JZ),k<=ps.length/\i=Qi k/\Hid (LnH wr (N+1) k o b ps cs)/\Hid (Below (N+1) W wr)) (fun i _=>ps.length-(intOf i).toNat);case atStart=>exact⟨0,ps,ym _,rfl,D,zB (T.mono (by rw[zA HZ];exact yk _))⟩
 case round=>
  clear D;obtain⟨k,cs,hk,rfl,HL,HB⟩:=hrel;have zr:N+1<wr.heap.size:=HL.h;have V:=HL.l;have n:=zB (HM.below' HB (by have:=HM.lt;rw[zA HZ] at this;exact this));by_cases S:k<ps.length
  ·have hd:(k:Int)<(ps.length:Int):=Jo;have Y:k<cs.length:=Jo;obtain⟨c0,f0⟩:=HL.ce k Y;have B:=HL.z k Y;have U:=HL.hi k (yk _);obtain⟨l,hl⟩:=Jx (atB cs k);rw[<-hl] at c0 B U;have E:=zB U;have d:=zB (zIN l wr B n);clear hl U;go_wp2_with fail;go_call zA d as e w2 ⟨v2,rfl,hr2,hwl,hb2⟩;have HD:=zB (zFh v2 (wds l) w2 hr2.strs (fun x hx=>by have:=zGz hx;unfold maxLen;omega));have F:Hid (Below wr.heap.size wr w2):=hb2;clear hr2 hb2 d;go_wp2_with fail;go_call zA HD as e w3 ⟨x,ok,rfl,hcase,hb3⟩;obtain⟨W3,y⟩:=Jx (w3.alloc (.cells #[Qs x.s,Qi x.k,Qi x.l,Qi x.sd] 33));have P:Below w3.heap.size w3 W3:=by rw[y];exact zC _ _
   have z2:=F.size;have u:Below wr.heap.size wr W3:=(F.trans (hb3.mono z2)).trans (P.mono (Jy hb3.size));have v:=zB (HL.below u);have K:Hid (Below (N+1) W W3):=HB.trans (u.mono Jo);obtain⟨x0,x1,x2,x3⟩:zBO W3 w3.heap.size x:=by rw[y];exact⟨Jg,Jg,Jg,Jg⟩
   obtain⟨_,⟨d0,d1,d2,d3⟩,d4,d5,d6,d7⟩:=t.below K Jo;have HQ:=zB (fun W=>zBs x o W);have hg:=zDm;have O:=zB y;have key:(ok=true/\ZV x o=true/\OpW (wds l) o)\/((ok=false\/ZV x o=false)/\¬ OpW (wds l) o):=by
    rcases hcase with⟨rfl,h⟩|⟨rfl,h⟩
    ·by_cases e:x=o
     ·subst e;exact yS ⟨rfl,ZD.2 rfl,h⟩
     ·refine yU ⟨yU ?_,fun h'=>e (h.one h')⟩;cases hx:ZV x o with
      |false=>rfl
      |true=>exact yR (ZD.1 hx) e
    ·exact yU ⟨yS rfl,h o⟩
   clear hcase y P u hb3 HD;go_upto_region 6 with fail
   rw[<-zA O];rcases key with⟨rfl,Q,H⟩|⟨f,H⟩
   ·have hq:=zA HQ;simp only[Q] at hq;have C:=zB (zHT b W3 ha c (HT.below (by unfold Qb;rw[zA HZ];exact K)));have r:=zB H;clear Q H;go_wp2_with fail;go_call zA C as e w4 ⟨rfl,hb4⟩;have A:=zB (v.below hb4);obtain⟨e0,e1⟩:=A.ce k Y;have q:=zB (A.put Y (by rw[<-zA E];exact r) Jo);have M:Hid (Below (N+1) W w4):=K.trans (hb4.mono (Nat.le_of_lt v.h));obtain⟨J,hJ⟩:=Jx (zA8 (dW b));rw[<-hJ] at q ⊢;clear hb4 C hJ c0 f0 x0 x1 x2 x3 d0 d1 d2 d3 d4 d5 d6 d7 hq HQ;go_wp2_with fail;exact⟨⟨k+1,cs.set k J,Jo,Jn,q,zB (M.setCell (p:=(Qa (N+1) k)) (yk _) _)⟩,Ji⟩
   ·have q:=zB (v.skip (by rw[<-zA E];exact H));have R:ok=false\/(ok=true/\ZV x o=false):=by
     cases ok with
     |false=>exact yS rfl
     |true=>exact yU ⟨rfl,f.resolve_left Js⟩
    clear f H;rcases R with rfl|⟨rfl,Q⟩
    ·clear HQ;go_wp2_with fail;exact⟨⟨k+1,cs,Jo,Jn,q,K⟩,Ji⟩
    ·have hq:=zA HQ;simp only[Q] at hq;clear Q HQ;go_wp2_with fail;exact⟨⟨k+1,cs,Jo,Jn,q,K⟩,Ji⟩
  ·obtain rfl:k=ps.length:=Jo;have I:=zT3 cs (fun j hj=>HL.z j hj);have G:cs.length*(20000+1)<=20001*20001:=Nat.mul_le_mul Jo Jo;have HJ:=zB (zNT (N+1) 0 ps.length cs ⟨#[10]⟩ wr (fun j x hj=>by
    have hl:=(jc.1 hj).1
    rw[yY,((zA HL).ce j hl).1]
    rw[zMp hl] at hj
    injection hj with hj
    rw[hj]) zr Jo Jo (by show(Lib.join (cs.map (·.data.toList)) [10]).length<=_;omega))
   have Z:=zB (zV6 ps cs V HL.lo);have L:=zB (by show(Lib.join (cs.map (·.data.toList)) [10]).toArray.size<=_;simp only[List.size_toArray];omega:(jn cs).size<=1000000000);rw[V] at HJ;clear S V I G;go_wp2_with fail;go_call zA HJ as e w4 ⟨rfl,hb4⟩;have m:Hid (Below w.heap.size w w4):=hc.trans ((HB.trans (hb4.mono Jo)).mono (by rw[<-zA HN];omega));clear hb4;go_wp2_with fail;go_ret;refine⟨⟨cs,rfl,L,?_⟩,m⟩;rw[<-zA HPS];exact Z
def zFn(ms:List zH)(U:List UnR)(tabs:List (List OpR))(q:zAX)(c:Int):Prop:=
 (c=2/\¬ zAa q)\/(zAa q/\((c=3/\¬ zCE ms U q)\/(zCE ms U q/\((c=4/\zJ8 tabs ms.length q)\/(¬ zJ8 tabs ms.length q/\((c=5/\zPY tabs ms.length q)\/(c=0/\¬ zPY tabs ms.length q)))))))
theorem zQj{n:Nat}{Q:List OpR->Prop}:(∀i,i<((zDe o T n).map T).length->Q (zz ((zDe o T n).map T) i))↔∀i,i<n->o∈T i->Q (T i):=by
 constructor
 ·intro h i hi ho;obtain⟨j,hj,e⟩:=List.mem_iff_getElem.1 (zEY.2 ⟨hi,Zt.2 ho⟩);have:=h j (by rw[List.length_map];exact hj);simpa[zz,hj,e] using this
 ·intro h j hj;rw[List.length_map] at hj;obtain⟨h1,h2⟩:=zEY.1 (List.getElem_mem hj);have:=h _ h1 (Zt.1 h2);simpa[zz,hj] using this
theorem zT4{n:Nat}:zHR b ((zDe o T n).map T)=true↔∃i,i<n/\o∈T i/\b∈T i:=by
 simp only[zHR,List.any_eq_true,List.mem_map];constructor
 ·rintro⟨x,⟨i,hi,rfl⟩,hx⟩;obtain⟨h1,h2⟩:=zEY.1 hi;exact⟨i,h1,Zt.1 h2,Zt.1 hx⟩
 ·rintro⟨i,h1,h2,h3⟩;exact⟨_,⟨i,zEY.2 ⟨h1,Zt.2 h2⟩,rfl⟩,Zt.2 h3⟩
theorem zOe(P cm cu cr:Nat)(am au ar:Option Addr)(ms:List zH)(U:List UnR)(T:Nat->List OpR)(ts:List (List zD))(vS:Nat->Value)(q:zAX)(w:JY)(hn:ms.length<=100)(h:PgZ w P am cm ms U T ts vS au cu ar cr)(hT:∀i,i<ms.length->(T i).length<=1048576/\ZA (T i))(hD:∀i,i<ms.length->(atU U i).os.length<=1048576)(hR:q.o.s.size<=1048576)(hJ:q.t.size<=1048576):Calls prog 31 #[Qp P,zBQ q] w fun e w'=>(∃c,e=.returned (Qi c)/\zFn ms U ((List.range ms.length).map T) q c)/\Below w.heap.size w w':=by
 obtain⟨N,hN⟩:=Jx w.heap.size;obtain⟨W,hW⟩:=Jx (w.alloc (.cells (zMd q) 35));have hs:Below w.heap.size w W:=by rw[hW];exact zC _ _
 have hz:W.heap.size=N+1:=by rw[hW,hN];simp
 have HQ:=zB (by rw[hW,hN];exact zCw.new w q _:zCw W N q);have HP:=zB (h.below hs);obtain⟨b,f⟩:∃b,Hid (b=zC6 q):=⟨_,zB rfl⟩;have hH:=zB (by rw[zA f];exact zTw hR hJ:b.s.size<=1048576);have R:=zB (zKM q W);rw[<-zA f] at R;have h8:=zB hs;have HZ:=zB hz;have HN:=zB hN;have HT:=zB hT;have hx:=zB hD;obtain⟨_,q0,q1,q2,q3,q4,q5,q6,q7,q8⟩:=zA HQ;unfold zBQ chV at R;unfold zBQ;unfold zMd at hW;clear h hs hz hT hD;go_enter func31,ntmps31;go_upto_region 1 with fail
 rw[<-hW,<-hN];clear hW hN;go_wp2_with fail;go_call zA R as e w1 ⟨rfl,hb1⟩;obtain⟨X,hX⟩:=Jx w1.heap.size;obtain⟨W1,u⟩:=Jx (w1.alloc (.cells (chC q.o b) 81));have hc:Below w1.heap.size w1 W1:=by rw[u];exact zC _ _
 have J:Below W.heap.size W W1:=hb1.trans (hc.mono hb1.size);have O:=zB (by rw[u,hX];exact zC9.new w1 q.o b _:zC9 W1 X q.o b);have h4:=zB (HP.below J);have h0:=zB (HQ.below J HQ.h);have hy:=zB (h8.trans (J.mono h8.size));have hv:=zB (zHU P cm cu cr am au ar ms U T ts vS q.o b W1 hn h4 (fun i hi=>(HT i hi).1));obtain⟨_,⟨d0,d1,d2,d3⟩,d4,d5,d6,d7⟩:=zA O;unfold chC at u;unfold chV at hv;clear hb1 hc J R q0 q1 q2 q3 q4 q5 q6 q7 q8;go_upto_region 2 with fail
 rw[<-u,<-hX];clear u hX;go_wp2_with fail;go_call zA hv as e w2 ⟨⟨v2,rfl,hv2⟩,hb2⟩;have hG:=zB hv2;have hA:=zB (h4.below hb2);have M:=zB (h0.below hb2 h0.h);have a:=zB (O.below hb2 O.h);have h9:=zB (hy.trans (hb2.mono hy.size));have hu:=zB (zOV q w2);obtain⟨_,q0,q1,q2,q3,q4,q5,q6,q7,q8⟩:=zA M;unfold zBQ at hu;clear hb2 hv2 hv h4 h0 O hy d0 d1 d2 d3 d4 d5 d6 d7 HP HQ h8;go_wp2_with fail;go_call zA hu as e w3 ⟨⟨r,rfl,hr⟩,hb3⟩;have hI:=zB (hG.below hb3);have hM:=zB (hA.below hb3);have hw:=zB (M.below hb3 M.h);have S:=zB (a.below hb3 a.h);have hq:=zB (h9.trans (hb3.mono h9.size));clear hb3 hG hA M a h9 hu q0 q1 q2 q3 q4 q5 q6 q7 q8;cases r
 ·have HR:Hid (zFn ms U ((List.range ms.length).map T) q 2):=yS ⟨rfl,fun h=>(by cases hr.2 h)⟩;clear hr;go_wp2_with fail;go_ret;exact⟨⟨2,rfl,HR⟩,hq⟩
 have V:=zB (hr.1 rfl);clear hr;have H:Hid (∀Y,Below w3.heap.size w3 Y->PgZ Y P am cm ms U T ts vS au cu ar cr/\zCw Y N q/\zC9 Y X q.o b/\zD4 Y v2 ((zDe q.o T ms.length).map T)/\Below w.heap.size w Y):=fun Y hb=>⟨hM.below hb,hw.below hb hw.h,S.below hb S.h,hI.below hb,hq.trans (hb.mono hq.size)⟩
 have I:=zB (zGG P cm cu cr am au ar ms U T ts vS q.o w3.drew hn (H _ (yJ _ _).drew).1 hx);have E:=zB (zGG P cm cu cr am au ar ms U T ts vS q.o (w3.alloc (.cells #[Qs q.m] 9)).drew hn (H _ (zC _ _).drew).1 hx);have hp:(zMo ms U q.o ms.length).length<=1048576000:=by
  have:∀n,n<=ms.length->(zFC U q.o n).length<=1048576*n:=fun n=>by
   induction n with
   |zero=>intro _;simp[zFC]
   |succ n ih=>
    intro hk;have:=ih Jo;have h2:=(zA hx) n Jo;have h3:∀l:List OpR,zGf q.o l<=l.length:=fun l=>by
     induction l with
     |nil=>exact yk _
     |cons x r ih=>simp only[zGf,yy];split<;>omega
    have:=h3 (atU U n).os;simp only[zFC,yq,List.length_replicate];omega
  have:=this ms.length (yk _);simp only[zMo,List.length_map];omega
 obtain⟨ds,hg⟩:=Jx (zMo ms U q.o ms.length);rw[<-hg] at I E hp;have hO:=zB hg;obtain⟨hK,_,q1,q2,q3,q4,q5,_,_,_⟩:=zA hw;have z3:N<w3.heap.size:=hK;have nn1:=World.new_ne w3 _ q1;have nn2:=World.new_ne w3 _ q2;have nn3:=World.new_ne w3 _ q3;have nn4:=World.new_ne w3 _ q4;have nn5:=World.new_ne w3 _ q5;unfold opV at I E;clear hg;go_wp2_with fail;go_region_held3 (fun Y=>Y.cell? (Qa N 1)=some (Qs q.m)/\Y.cell? (Qa N 2)=some (Qs q.o.s)/\Y.cell? (Qa N 3)=some (Qi q.o.k)/\Y.cell? (Qa N 4)=some (Qi q.o.l)/\Y.cell? (Qa N 5)=some (Qi q.o.sd)) (go_keep)
  (
   first
   |(go_at_call 57;(with_reducible refine(zA I).mono ?_);rintro e w4 ⟨⟨v4,rfl,hv4⟩,hb4⟩;have K:Hid (Below w3.heap.size w3 w4):=(yJ _ _).drew.trans hb4;obtain⟨_,_,s1,s2,s3,s4,s5,_,_,_⟩:=((H) w4 K).2.1;have ss1:=World.new_ne w4 _ s1;have ss2:=World.new_ne w4 _ s2;have ss3:=World.new_ne w4 _ s3;have ss4:=World.new_ne w4 _ s4;have ss5:=World.new_ne w4 _ s5;have G:=zB (zKS v4 ds w4.heap.size q.m (w4.alloc (.cells #[Qs q.m] 9)) hp (hv4.strs.below (zC _ _)) Jg);obtain⟨a4,c4,rfl⟩:=zR hv4;clear hb4 hv4)
   |(go_at_call 57;(with_reducible refine(zA E).mono ?_);rintro e w4 ⟨⟨v4,rfl,hv4⟩,hb4⟩;have K:Hid (Below w3.heap.size w3 w4):=(zC _ _).drew.trans (hb4.mono Js);obtain⟨_,_,s1,s2,s3,s4,s5,_,_,_⟩:=((H) w4 K).2.1;have G:=zB (zKS v4 ds w3.heap.size q.m w4 hp hv4.strs (Jc hb4 Jh Jg));obtain⟨a4,c4,rfl⟩:=zR hv4;clear hb4 hv4)
   |(go_at_call 56;(with_reducible refine(zA G).mono ?_);rintro e w5 ⟨⟨r,rfl,hr⟩,hb5⟩;have L:Hid (Below w3.heap.size w3 w5):=K.trans (((zC w4 _).trans (hb5.mono Js)).mono K.size);obtain⟨_,_,t1,t2,t3,t4,t5,_,_,_⟩:=((H) w5 L).2.1;clear hb5)
   |(go_at_call 56;(with_reducible refine(zA G).mono ?_);rintro e w5 ⟨⟨r,rfl,hr⟩,hb5⟩;have L:Hid (Below w3.heap.size w3 w5):=K.trans (hb5.mono K.size);obtain⟨_,_,t1,t2,t3,t4,t5,_,_,_⟩:=((H) w5 L).2.1;clear hb5))
 all_goals
  obtain⟨_,_,he,Z,hd⟩:=(zA H) w5 L
  have y:=zB he
  have hf:=zB Z
  have v:=zB hd
  have h5:=zB hr
  clear hr he Z hd q1 q2 q3 q4 q5 s1 s2 s3 s4 s5 t1 t2 t3 t4 t5 I E G
  have g:=zB (by rw[zA h5,zA hO];rfl:r=true↔zCE ms U q)
  cases r
  ·have HR:Hid (zFn ms U ((List.range ms.length).map T) q 3):=yU ⟨V,yS ⟨rfl,fun h=>(by cases g.2 h)⟩⟩
   clear g h5
   go_wp2_with fail
   go_ret
   exact⟨⟨3,rfl,HR⟩,v⟩
  have D:=zB (g.1 rfl)
  have hC:=zB (zAf b.s b.k b.l b.sd w5 (by have:=zA hH;unfold maxLen;omega))
  obtain⟨_,_,d4,d5,d6,d7⟩:=zA y
  clear g h5
  go_wp2_with fail
  go_call zA hC as e w6 ⟨rfl,hb6⟩
  have C:=zB (hf.below hb6)
  have A:=zB (y.below hb6 y.h)
  have B:=zB (v.trans (hb6.mono v.size))
  have hh:Hid (∀i,i<((zDe q.o T ms.length).map T).length->(zz ((zDe q.o T ms.length).map T) i).length<=1048576/\ZA (zz ((zDe q.o T ms.length).map T) i)/\q.o∈zz ((zDe q.o T ms.length).map T) i):=(zQj (Q:=fun x=>x.length<=1048576/\ZA x/\q.o∈x)).2 fun i hi ho=>⟨(HT i hi).1,(HT i hi).2,ho⟩
  have h7:((zDe q.o T ms.length).map T).length<=100:=by rw[List.length_map];have:=zT1 q.o T ms.length;omega
  have F:=zB (show zJ8 ((List.range ms.length).map T) ms.length q↔okB b.s b.k b.l b.sd=false\/zHR b ((zDe q.o T ms.length).map T)=true by
   rw[zT4,zJ8,<-zA f]
   exact or_congr Iff.rfl ⟨fun⟨i,hi,h1,h2⟩=>⟨i,hi,by rw[zAy hi] at h1;exact h1,by rw[zAy hi] at h2;exact h2⟩,fun⟨i,hi,h1,h2⟩=>⟨i,hi,by rw[zAy hi];exact h1,by rw[zAy hi];exact h2⟩⟩)
  obtain⟨tb,hl⟩:=Jx ((zDe q.o T ms.length).map T)
  rw[<-hl] at C hh h7 F
  have hQ:=zB hl
  clear hb6 hC hf y d4 d5 d6 d7 hl
  cases hok:okB b.s b.k b.l b.sd
  ·have HR:Hid (zFn ms U ((List.range ms.length).map T) q 4):=yU ⟨V,yU ⟨D,yS ⟨rfl,F.2 (yS hok)⟩⟩⟩
   clear hok
   go_wp2_with fail
   go_ret
   exact⟨⟨4,rfl,HR⟩,B⟩
  have ht:=zB (zOW v2 tb b w6 h7 C (fun i hi=>(hh i hi).1))
  have hP:=zB hok
  obtain⟨_,_,d4,d5,d6,d7⟩:=zA A
  unfold opV at ht
  clear hok
  go_wp2_with fail
  go_call zA ht as e w7 ⟨rfl,hb7⟩
  have hE:=zB (C.below hb7)
  have hF:=zB (A.below hb7 A.h)
  have d:=zB (B.trans (hb7.mono B.size))
  clear hb7 ht d4 d5 d6 d7
  cases hsh:zHR b tb
  rotate_left
  ·have HR:Hid (zFn ms U ((List.range ms.length).map T) q 4):=yU ⟨V,yU ⟨D,yS ⟨rfl,F.2 (yU hsh)⟩⟩⟩
   clear hsh
   go_wp2_with fail
   go_ret
   exact⟨⟨4,rfl,HR⟩,d⟩
  have hB:Hid (¬ zJ8 ((List.range ms.length).map T) ms.length q):=fun h=>(F.1 h).elim (fun x=>by rw[zA hP] at x;cases x) (fun x=>by rw[hsh] at x;cases x)
  have h6:=zB (zKP v2 tb q.o b w7 h7 hE hh hH)
  obtain⟨_,⟨d0,d1,d2,d3⟩,d4,d5,d6,d7⟩:=zA hF
  unfold chV at h6
  clear hsh
  go_wp2_with fail
  go_call zA h6 as e w8 ⟨⟨r,rfl,hr⟩,hb8⟩
  have ha:=zB (d.trans (hb8.mono d.size))
  rw[zA hQ,zQj (Q:=fun x=>zO (swO q.o b x) 0),zA f] at hr
  clear hb8 h6 d0 d1 d2 d3 d4 d5 d6 d7
  rcases hr with⟨rfl,hr⟩|⟨rfl,hr⟩
  rotate_left
  ·have HR:=zB (show zFn ms U ((List.range ms.length).map T) q 5 from yU ⟨V,yU ⟨D,yU ⟨hB,yS ⟨rfl,by
    obtain⟨j,hj,c,h1,h2⟩:=hr
    rw[List.length_map] at hj
    obtain⟨hm,ho⟩:=zEY.1 (List.getElem_mem hj)
    exact⟨_,hm,by rw[zAy hm];exact Zt.1 ho,c,by rw[zAy hm];simpa[zz,hj] using h1,h2⟩⟩⟩⟩⟩)
   clear hr
   go_wp2_with fail
   go_ret
   exact⟨⟨5,rfl,HR⟩,ha⟩
  ·have HR:Hid (zFn ms U ((List.range ms.length).map T) q 0):=yU ⟨V,yU ⟨D,yU ⟨hB,yU ⟨rfl,fun⟨i,hi,h1,c,h2,h3⟩=>h3 (zAC h2 (by rw[zAy hi] at h1 ⊢;exact hr i hi h1))⟩⟩⟩⟩
   clear hr
   go_wp2_with fail
   go_ret
   exact⟨⟨0,rfl,HR⟩,ha⟩
theorem zT5{ns:List OpR}{s:JZ}{us:List zD}{p:Int}(h:zAs ns s us 0 p):s≠ByteArray.empty:=by
 rintro rfl;rcases h with⟨_,_,h,_⟩|⟨hv,⟨_,_,h,_⟩|⟨H,ts,hx,⟨i,_,_,_,_,h,_⟩|⟨K,⟨i,_,_,_,_,h,_⟩|⟨hf,h⟩⟩⟩⟩
 ·cases h
 ·cases h
 ·cases h
 ·cases h
 ·cases ts with
  |nil=>exact hx
  |cons t r=>
   rcases hx with⟨_,_,_,ht⟩|⟨j,_,_,_,hj,_⟩
   ·have:=hf 0 Js;have hk:t.k=7:=by rw[ht]
    unfold zZ at this;simp[atT,zCm,ZP,hk] at this
   ·simp at hj
theorem zOf(P cm cu cr:Nat)(am au ar:Option Addr)(ms:List zH)(U:List UnR)(T:Nat->List OpR)(ts:List (List zD))(vS:Nat->Value)(q:zAX)(w:JY)(hn:ms.length<=100)(h:PgZ w P am cm ms U T ts vS au cu ar cr)(hT:∀i,i<ms.length->(T i).length<=1048576/\ZA (T i))(hU:∀i,i<ms.length->∃us,zy (atM ms i).t us (atU U i).os (atU U i).b 0 0)(hR:zFd T (fun i=>(atU U i).b) ms.length ts)(hz:zBk ms)(hV:(zC6 q).ok=true)(hm:zD7 w)(hZ:zFD w):Calls prog 32 #[.pointer (some ⟨P,0,none⟩),chV q.o (zC6 q)] w fun e w'=>(∃v os,e=.returned v/\zAb w' w.heap.size v os/\zE7 q ms ((List.range ms.length).map T) ts ms.length os/\zBk os)/\Below w.heap.size w w':=by
 obtain⟨hy,hc,hr,hs⟩:=zTx hV;rw[zTv] at hr hs;obtain⟨b,hj⟩:∃b,Hid (b=zC6 q):=⟨_,zB rfl⟩;rw[<-zA hj] at hy hc ⊢;unfold chV;obtain⟨i0,hu,h6,h8,hB⟩:=zS zTD;have HI:=zB hu;have ht:=zB (yK h6 (yK h8 hB));have Ht:∀W:JY,(Instr.makeSlice 29 (Qi 0) (Qi (ms.length:Int))).run prog W=.ok (.slice (some ⟨W.heap.size,0,none⟩) 0 ms.length) (W.alloc (.cells (madeCells #[Qs ⟨#[]⟩,Qs ⟨#[]⟩] (ms.length*2)) 53)):=by
  intro W;have:=run_make (P:=prog) W 29 53 i0 _ underlying29 hu h6 .i64 .i64 0 ms.length Jo Jo (by rw[hB];omega) Jo;simpa[h8,Value.cells] using this
 obtain⟨N,hN⟩:=Jx w.heap.size;obtain⟨W,hW⟩:=Jx (w.alloc (.cells (chC q.o b) 81));have G:Below w.heap.size w W:=by rw[hW];exact zC _ _
 have h9:W.heap.size=N+1:=by rw[hW,hN];simp
 have H4:=zB (by rw[hW,hN];exact zC9.new w q.o b _:zC9 W N q.o b);have HP:=zB (h.below G);have HM:=zB (hm.below G);have Hr:=zB (hZ.below G);have Hh:=zB G;have HW:=zB h9;have HN:=zB hN;have HT:=zB hT;have HU:=zB hU;have HR:=zB hR;have Hj:=zB hz;have H7:=zB hy;have HK:=zB (yK hr hs);have c0:=HP.c0;have HE:=zB (show zAb (W.alloc (.cells (madeCells #[Qs ⟨#[]⟩,Qs ⟨#[]⟩] (ms.length*2)) 53)) (N+1) (.slice (some ⟨N+1,0,none⟩) 0 ms.length) [] by
  rw[<-h9]
  exact World.ownsRow_made W _ ms.length (yk _) Jm (by rw[size_madeCells]))
 unfold chC at hW;have c0':=((zC W (.cells (madeCells #[Qs ⟨#[]⟩,Qs ⟨#[]⟩] (ms.length*2)) 53)).cell (p:=⟨P,0,none⟩) (World.block_lt_of_cell? _ _ c0)).trans c0;clear hu h6 h8 hB h G hT hU hR hz hm hZ hr hs hV hy;go_enter func32,ntmps32;go_upto_region 1 with fail
 rw[<-hW,<-hN];clear hW hN;go_wp2_with fail;have Hd:=zB (by rw[<-zA HW];exact zC _ _:Below (N+1) W (W.alloc (.cells (madeCells #[Qs ⟨#[]⟩,Qs ⟨#[]⟩] (ms.length*2)) 53)));clear Ht c0 c0' h9;go_loopw [5,22] (fun Hs i wr=>∃(k:Nat)(os:List zH),k<=ms.length/\i=Qi k/\Hid (zE7 q ms ((List.range ms.length).map T) ts k os)/\Hid (zAb wr (N+1) Hs os)/\Hid (Below (N+1) W wr)/\Hid (zBk os)) (fun _ i _=>ms.length-(intOf i).toNat);case atStart=>exact⟨0,[],ym _,rfl,zB ⟨rfl,fun i h=>yR h (yx i)⟩,HE,Hd,zB (fun i h=>yR h (yx i))⟩
 case round=>
  clear HE Hd;obtain⟨k,os,hk,rfl,d,ha,HB,Ha⟩:=hrel;have hh:=zB (by rw[zA HW];exact zA HB:Below W.heap.size W wr);have zr:N+1<=wr.heap.size:=by have:=hh.size;have:=zA HW;omega
  obtain⟨av,cv,rfl⟩:=zR ha;have hv:os.length=k:=d.1;have HA:os.length<=100:=Jo;by_cases H:k<ms.length
  ·have HC:(k:Int)<(ms.length:Int):=Jo;have y:=zB (HP.below hh);obtain⟨bA,HD,rfl,hd,HH⟩:=y.arg.resolve_left Jo;obtain⟨m0,m1⟩:=hd k H;obtain⟨us,h7⟩:=(zA HU) k H;obtain⟨_,hE⟩:=HR.2 k H;obtain⟨z,Hx,A,hD⟩:=zW2 (o:=q.o) (b:=b) h7 (zT5 hE);obtain⟨hG,He,D⟩:=zGg hE;have S:=zOa h7;obtain⟨hQ,hH⟩:=(zA HT) k H;obtain⟨gu,vu,vo,rfl,Hi,u0,u1,u2,_⟩:=y.un k H;obtain⟨gR,g2,c2,rfl,Hu,n0,H9,L⟩:=y.tr k H;have p1:=y.c1;have p5:=y.c5;obtain⟨nm,m⟩:=Jx ((atM ms k).n);obtain⟨tx,ho⟩:=Jx ((atM ms k).t);obtain⟨bd,Hc⟩:=Jx ((atU U k).b);obtain⟨ns,h5⟩:=Jx (zCK ts k);rw[<-m] at m0;rw[<-ho] at m1 Hx hD S A;rw[<-Hc] at u2 A;rw[<-h5] at n0 L hG He D;have Hl:=zB (by rw[m];exact(Hj k H).1:nm.size<=maxLen);obtain⟨W4,V⟩:=Jx (wr.alloc (.cells #[Qs nm,Qs tx] 53));have R:Below wr.heap.size wr W4:=by rw[V];exact zC _ _
   have y0:W4.cell? ⟨wr.heap.size,0,none⟩=some (Qs nm):=by rw[V];simp[go_sem]
   have y1:W4.cell? ⟨wr.heap.size,1,none⟩=some (Qs tx):=by rw[V];simp[go_sem]
   have yf:W4.frozen? ⟨wr.heap.size,1,none⟩=false:=by rw[V];simp[go_sem]
   have z4:wr.heap.size<W4.heap.size:=by rw[V];simp
   have hF:P<wr.heap.size:=World.block_lt_of_cell? _ _ p1;have Q:Hid (∀Y,Below W4.heap.size W4 Y->Below wr.heap.size wr Y):=fun Y h=>R.trans (h.mono Jo)
   have X:=zB (show ∀Y,Below W4.heap.size W4 Y->Y.cell? ⟨wr.heap.size,0,none⟩=some (Qs nm)/\Y.cell? ⟨wr.heap.size,1,none⟩=some (Qs tx)/\Y.frozen? ⟨wr.heap.size,1,none⟩=false/\Y.cell? ⟨P,1,none⟩=some (.slice (some ⟨gu,0,none⟩) ms.length cu)/\Y.cell? ⟨gu,k*3+2,none⟩=some (Qs bd)/\Y.cell? ⟨P,5,none⟩=some (.slice (some ⟨gR,0,none⟩) ms.length cr)/\Y.cell? ⟨gR,k,none⟩=some (.slice (some ⟨g2,0,none⟩) ns.length c2)/\zC9 Y N q.o b from fun Y h=>by
    have hw:=(zA Q) Y h
    have kc:=fun p (hp:p.block<wr.heap.size)=>hw.cell (p:=p) hp
    exact⟨(h.cell (p:=⟨wr.heap.size,0,none⟩) z4).trans y0,(h.cell (p:=⟨wr.heap.size,1,none⟩) z4).trans y1,(h.frozen (p:=⟨wr.heap.size,1,none⟩) z4).trans yf,(kc ⟨P,1,none⟩ hF).trans p1,(kc ⟨gu,k*3+2,none⟩ Hi).trans u2,(kc ⟨P,5,none⟩ hF).trans p5,(kc ⟨gR,k,none⟩ Hu).trans n0,H4.below (HB.trans (hw.mono zr)) Jo⟩)
   have O:=zB (y.so k H);obtain⟨a,c,e,_⟩:=zA O;rw[e] at O;have hl:=zB (y.sc k H W4.drew R.drew);have h4:=zB (y.sc k H (W4.alloc (.cells #[.slice none 0 0] 63)).drew (R.alloc Jo _).drew);rw[<-m,e] at hl h4;have Hf:=zB m;have hX:=zB ho;have H0:=zB h5;have H8:=zB hD;have Hw:=zB A;have HF:=zB hv;have H2:=zB D;have H1:=zB hH;have H5:=zB L;have H6:=zB V;obtain⟨_,_,_,r1,r2,_,_,_⟩:=(zA X) W4 (yJ _ _);clear hd m ho Hc h5 h7 hE hD e R hv u0 u1 u2 A V D hH L p1 p5 n0;go_upto_region 5 with fail
   rw[<-zA H6];have nn1:=World.new_ne W4 _ y0;have nn2:=World.new_ne W4 _ r1;have nn3:=World.new_ne W4 _ r2;go_region_held3 (fun Y=>Y.cell? ⟨wr.heap.size,0,none⟩=some (Qs nm)/\Y.cell? ⟨P,1,none⟩=some (.slice (some ⟨gu,0,none⟩) ms.length cu)/\Y.cell? ⟨gu,k*3+2,none⟩=some (Qs bd)) (go_keep)
    (
     first
     |(go_at_call 53;(with_reducible refine(zA hl).mono ?_);rintro e w5 ⟨rfl,K⟩;have j:Hid (Below W4.heap.size W4 w5):=(yJ _ _).drew.trans K;obtain⟨s0,_,_,s1,s2,_⟩:=(zA X) w5 j;have ss1:=World.new_ne w5 _ s0;have ss2:=World.new_ne w5 _ s1;have ss3:=World.new_ne w5 _ s2;clear K)
     |(go_at_call 53;(with_reducible refine(zA h4).mono ?_);rintro e w5 ⟨rfl,K⟩;have j:Hid (Below W4.heap.size W4 w5):=(zC _ _).drew.trans (K.mono Js);obtain⟨s0,_,_,s1,s2,_⟩:=(zA X) w5 j;have ex0:=(K.cell (p:=⟨W4.heap.size,0,none⟩) Js).trans (show _=some (.slice none 0 0) by simp[go_sem]);have ex1:=(K.frozen (p:=⟨W4.heap.size,0,none⟩) Js).trans (show _=false by simp[go_sem]);clear K))
   all_goals
    first
    |(
      obtain⟨W5,x⟩:=Jx (w5.alloc (.cells #[.slice a (T k).length c] 63))
      rw[<-x]
      have K:Below W4.heap.size W4 W5:=by rw[x];exact j.alloc j.size _
      obtain⟨X5,J⟩:=Jx w5.heap.size
      have x5:W5.cell? ⟨X5,0,none⟩=some (.slice a (T k).length c):=by rw[x,J];simp[go_sem]
      have x5l:wr.heap.size<X5:=Jy j.size
      rw[<-J]
      clear J x)
    |(
      obtain⟨W5,x⟩:=Jx (w5.setCell ⟨W4.heap.size,0,none⟩ (.slice a (T k).length c))
      rw[<-x]
      have K:Below W4.heap.size W4 W5:=by rw[x];exact j.setCell (p:=⟨W4.heap.size,0,none⟩) (yk _) _
      obtain⟨X5,J⟩:=Jx W4.heap.size
      have x5:W5.cell? ⟨X5,0,none⟩=some (.slice a (T k).length c):=by rw[x,J];exact yt _ _ _ ex0
      have x5l:wr.heap.size<X5:=Jo
      rw[<-J]
      clear J x ex0 ex1)
    have HX:Hid (∀Y,Below W5.heap.size W5 Y->Y.cell? ⟨X5,0,none⟩=some (.slice a (T k).length c)):=fun Y h=>(h.cell (p:=⟨X5,0,none⟩) (World.block_lt_of_cell? _ _ x5)).trans x5
    have z5:=K.size
    have hP:=zB K
    have hg:=zB (zIR (.slice a (T k).length c) (T k) q.o b W5 hQ (O.below (Q W5 K)))
    obtain⟨_,_,_,_,_,_,_,⟨_,⟨d0,d1,d2,d3⟩,d4,d5,d6,d7⟩⟩:=(zA X) W5 K
    unfold chV at hg
    clear K s0 s1 s2 r1 r2 hl h4 y0 y1 yf j nn1 nn2 nn3
    go_wp2_with fail
    go_call zA hg as e w6 ⟨rfl,hb6⟩
    have f:=zB hb6
    have B:Below W4.heap.size W4 w6:=hP.trans (hb6.mono z5)
    have u:=zB B
    have z6:=B.size
    obtain⟨y0,y1,yf,_⟩:=(zA X) w6 B
    clear hb6 B hg d0 d1 d2 d3 d4 d5 d6 d7 x5
    cases hin:inB q.o (T k)
    focus
     have hM:=zB (show zKg q (zz ((List.range ms.length).map T) k) (zCK ts k) (atM ms k) ⟨nm,tx⟩ from⟨Hf,yU ⟨fun h=>(by rw[zAy H] at h;rw[Zt.2 h] at hin;cases hin),hX⟩⟩)
     have hS:=zB (Jm:tx.size<=maxLen)
     clear hin
     go_upto_region 9 with fail
     obtain⟨Wm,rfl⟩:=Jx w6
     obtain⟨tf,rfl⟩:=Jx tx
     have Z:=zB (Q Wm u)
     clear yf S
    rotate_left
    focus
     have hK:=zB (Zt.1 hin)
     obtain⟨gx,rfl,Hg,he⟩:∃gx,a=some ⟨gx,0,none⟩/\gx<wr.heap.size/\Ops wr gx 0 (T k):=by
      obtain⟨a',c',e,⟨h0,_⟩|⟨g,rfl,h1,h2⟩⟩:=zA O
      ·exact yR (zA hK) (by rw[jd.1 h0];simp)
      ·obtain⟨rfl,_,_⟩:=Value.slice.inj e;exact⟨g,rfl,h1,h2⟩
     have hA:=zB (zKR tx (z+1) w6 S Jo)
     rw[<-zA Hw] at hA
     have I:Below W.heap.size W w6:=hh.trans ((Q w6 u).mono (Jy (zA HW)))
     have hJ:=zB (zMq (tx.extract 0 (z+1)) q.o b w6.drew (by rw[Za];omega) (HM.below I.drew) (Hr.below I.drew) H7 hc)
     have hY:=zB (fun Y (hb:Below W4.heap.size W4 Y)=>zPm gx c g2 c2 (T k) ns q.o b Y hQ (he.below (Q Y hb) Hg) (Jy (((Q) Y hb).size)) H1 Jo (H5.below (Q Y hb) H9) (Jy (((Q) Y hb).size)) H2 HK Jo)
     unfold chV at hJ hY
     clear hin he I
     go_wp2_with fail
     go_call zA hA as e wx ⟨rfl,hx⟩
     obtain rfl:=hx.symm
     have x6:=(zA HX) w6 f
     obtain⟨_,_,_,_,_,p5,n0,⟨_,⟨d0,d1,d2,d3⟩,d4,d5,d6,d7⟩⟩:=(zA X) w6 u
     have ne1:wr.heap.size≠X5:=Jo
     have ne2:wr.heap.size≠P:=Jo
     have ne3:wr.heap.size≠gR:=Jo
     have ne4:wr.heap.size≠N:=Jo
     have ne5:=ne1.symm
     have ne6:=ne2.symm
     have ne7:=ne3.symm
     have ne8:=ne4.symm
     clear hx hA
     go_upto_region 8 with fail
     go_region_held3 (fun Y=>Y.cell? ⟨X5,0,none⟩=some (.slice (some ⟨gx,0,none⟩) (T k).length c)/\Y.cell? ⟨P,5,none⟩=some (.slice (some ⟨gR,0,none⟩) ms.length cr)/\Y.cell? ⟨gR,k,none⟩=some (.slice (some ⟨g2,0,none⟩) ns.length c2)/\Y.cell? ⟨N,0,none⟩=some (Qs q.o.s)/\Y.cell? ⟨N,1,none⟩=some (Qi q.o.k)/\Y.cell? ⟨N,2,none⟩=some (Qi q.o.l)/\Y.cell? ⟨N,3,none⟩=some (Qi q.o.sd)/\Y.cell? ⟨N,4,none⟩=some (Qs b.s)/\Y.cell? ⟨N,5,none⟩=some (Qi b.k)/\Y.cell? ⟨N,6,none⟩=some (Qi b.l)/\Y.cell? ⟨N,7,none⟩=some (Qi b.sd)) (go_keep)
      (
       first
       |(go_at_call 63;(with_reducible refine(zA hJ).mono ?_);rintro e w7 ⟨⟨ls,rfl,hjz,hrp⟩,hb7⟩;have Hp:=zB hrp;have M:Hid (Below W4.heap.size W4 w7):=u.drew.trans (hb7.mono z6);have h3:Hid (Below W5.heap.size W5 w7):=f.drew.trans (hb7.mono f.size);have e0:=(zA HX) w7 h3;obtain⟨_,_,_,_,_,e1,e2,⟨_,⟨e3,e4,e5,e6⟩,e7,e8,e9,ea⟩⟩:=(zA X) w7 M;have Hy:=zB (hY w7 M);clear hb7 hrp)
       |(go_at_call 64;(with_reducible refine(zA Hy).mono ?_);rintro e w8 ⟨⟨pt,pv,rfl,hpi⟩,hb8⟩;have Ho:=hpi.size;have Hk:=zB hpi;have hI:Hid (Below W4.heap.size W4 w8):=M.trans (hb8.mono M.size);have Hq:Hid (Below W5.heap.size W5 w8):=h3.trans (hb8.mono h3.size);have f0:=(zA HX) w8 Hq;obtain⟨h0,h1,hf,_,_,f1,f2,⟨_,⟨f3,f4,f5,f6⟩,f7,f8,f9,fa⟩⟩:=(zA X) w8 hI;have radd:=fun Y:World=>run_string_add_sum (P:=prog) (w:=Y) (jn ls) pt Jo;clear hb8 hpi))
     obtain⟨tf,r⟩:=Jx (jn ls++pt)
     have hM:=zB (show zKg q (zz ((List.range ms.length).map T) k) (zCK ts k) (atM ms k) ⟨nm,tf⟩ from⟨Hf,yS ⟨by rw[zAy H];exact hK,jn ls,pt,pv,by rw[<-zA hX,<-zA hj];exact H8 ls Hp,by rw[zAy H,<-zA H0,<-zA hj];exact Hk,r⟩⟩)
     have hS:=zB (by rw[r,zA7];unfold maxLen;omega:tf.size<=maxLen)
     go_upto_region 9 with fail
     rw[<-r]
     obtain⟨Wm,E⟩:=Jx (w8.setCell ⟨wr.heap.size,1,none⟩ (Qs tf))
     rw[<-E]
     replace y0:Wm.cell? ⟨wr.heap.size,0,none⟩=some (Qs nm):=by rw[E,yj _ _ _ _ (by simp)];exact h0
     replace y1:Wm.cell? ⟨wr.heap.size,1,none⟩=some (Qs tf):=by rw[E];exact yt _ _ _ h1
     have Z:=zB (by rw[E];exact(Q w8 hI).setCell (p:=⟨wr.heap.size,1,none⟩) (yk _) _:Below wr.heap.size wr Wm)
     clear E r Ho hjz h0 h1 hf yf S radd e0 e1 e2 e3 e4 e5 e6 e7 e8 e9 ea f0 f1 f2 f3 f4 f5 f6 f7 f8 f9 fa d0 d1 d2 d3 d4 d5 d6 d7 p5 n0 x6
    all_goals
     have zm:=Z.size
     have hO:Hid (zAb (Wm.alloc (.cells #[Qs nm,Qs tf] 53)) (N+1) (.slice av os.length cv) os):=ha.below (Z.alloc zm _)
     have Hv:=zB (zLY Wm ⟨nm,tf⟩)
     go_wp2_with (at_builtin;refine yL _ rfl (.tmp 61) (.tmp 63) 29 rfl (N+1) 53 i0 _ 2 32 underlying29 HI ht.1 ht.2.1 ht.2.2 rfl Jd _ os.length (zAV os) rfl hO ⟨Wm.heap.size,0,none⟩ 1 1 (zAV [⟨nm,tf⟩]) rfl rfl Hv (zIM _) ?b1 ?b2 ?b3 ?next)
     case b1=>exact Jm
     case b2=>omega
     case b3=>first|omega|(simp;omega)
     case next=>
      intro v4 w9 F C hC Hb;have Hm:=zB (by unfold zAb;rw[zGD,yq];exact F:zAb w9 (N+1) v4 (os++[⟨nm,tf⟩]));have H3:Hid (Below (N+1) W w9):=(HB.trans ((Z.alloc zm _).mono zr)).grown C Jq (fun q hq=>(ha.lt q hq).1);have Hn:=zB (d.step hM);have Hz:=zB (show zBk (os++[⟨nm,tf⟩]) from fun i hi=>by
       rw[zQX]
       by_cases e:i<os.length
       ·rw[yQ e];exact Ha i e
       ·simp at hi;rw[yP e,yQ Jo];exact⟨Hl,hS⟩)
      clear F C hC Hb;go_wp2;exact⟨⟨k+1,os++[⟨nm,tf⟩],Jo,Jn,Hn,Hm,H3,Hz⟩,Ji⟩
  ·obtain rfl:k=ms.length:=Jo;have HG:Hid (Below w.heap.size w wr):=Hh.trans (HB.mono (by rw[<-zA HN];omega));clear H hv;go_wp2;go_ret;exact⟨⟨_,os,rfl,ha.base (by rw[<-zA HN];omega),d,Ha⟩,HG⟩
theorem zRe{U U':List UnR}{q:zAX}(h:∀i,i<ms.length->(atU U i).os=(atU U' i).os):zCE ms U q↔zCE ms U' q:=by
 have:∀n,n<=ms.length->zFC U q.o n=zFC U' q.o n:=fun n=>by
  induction n with
  |zero=>intro _;rfl
  |succ n ih=>intro hn;simp only[zFC];rw[ih Jo,h n Jo]
 unfold zCE;rw[this _ (yk _)]
theorem zEW.code{H:List zH}{q:zAX}{c c' wt:Int}{ts:List (List zD)}{U:List UnR}(h:zEW ms q H c)(ht:zAe ms ts 0 wt)(hl:zAF ms ((List.range ms.length).map T) 0 0)(hu:∀i,i<ms.length->∃us,zy (atM ms i).t us (atU U i).os (atU U i).b 0 0)(hc:zFn ms U ((List.range ms.length).map T) q c'):(c'≠0/\H=[]/\c=c')\/(c'=0/\zCE ms U q/\(zC6 q).ok=true/\∃ms' t2 c2 w2,zE7 q ms ((List.range ms.length).map T) ts ms.length ms'/\zAe ms' t2 c2 w2/\((c2≠0/\H=[]/\c=6)\/(c2=0/\H=ms'/\c=0))):=by
 obtain⟨ts',ct,wt',k,⟨h0,_⟩|⟨rfl,tabs,U',K,X,h⟩⟩:=h
 ·exact yR ((k.one ht).2.1) h0
 obtain⟨rfl,_⟩:=k.one ht;obtain⟨rfl,_⟩:=K.one hl;have hd:zCE ms U q↔zCE ms U' q:=zRe fun i hi=>by
  obtain⟨us,h1⟩:=hu i hi;exact(h1.one (X.2 i hi)).2.1
 rcases hc with⟨rfl,x⟩|⟨x,hc⟩
 ·rcases h with⟨_,h1,h2⟩|⟨y,_⟩
  ·exact yS ⟨Jd,h1,h2⟩
  ·exact yR y x
 rcases h with⟨y,_⟩|⟨_,h⟩
 ·exact yR x y
 rcases hc with⟨rfl,x⟩|⟨xd,hc⟩
 ·rcases h with⟨_,h1,h2⟩|⟨y,_⟩
  ·exact yS ⟨Jd,h1,h2⟩
  ·exact yR (hd.2 y) x
 rcases h with⟨y,_⟩|⟨_,h⟩
 ·exact yR (hd.1 xd) y
 rcases hc with⟨rfl,x⟩|⟨x,hc⟩
 ·rcases h with⟨_,h1,h2⟩|⟨y,_⟩
  ·exact yS ⟨Jd,h1,h2⟩
  ·exact yR x y
 rcases h with⟨y,_⟩|⟨_,h⟩
 ·exact yR y x
 have Q:(zC6 q).ok=true:=by
  cases e:(zC6 q).ok
  ·exact yR (yS e) x
  ·rfl
 rcases hc with⟨rfl,x⟩|⟨rfl,x⟩
 ·rcases h with⟨_,h1,h2⟩|⟨y,_⟩
  ·exact yS ⟨Jd,h1,h2⟩
  ·exact yR x y
 rcases h with⟨y,_⟩|⟨_,h⟩
 ·exact yR y x
 exact yU ⟨rfl,xd,Q,h⟩
theorem zEZ(am:Option Addr)(cm:Nat)(ms:List zH)(q:zAX)(w:JY)(g:ms.length<=100->LdG w am ms)(hz:zBk ms)(hh:q.o.s.size<=1048576)(hj:q.t.size<=1048576)(hm:zD7 w)(F:zFD w){C:List zH}{c:Int}(h:zEW ms q C c):Calls prog 9 #[.slice am ms.length cm,zBQ q] w fun e w'=>(∃v,e=.returned (.tuple #[v,Qi c])/\zAb w' w.heap.size v C)/\Below w.heap.size w w':=by
 obtain⟨N,hN⟩:=Jx w.heap.size;obtain⟨W,hW⟩:=Jx (w.alloc (.cells (zMd q) 35));have K:Below w.heap.size w W:=by rw[hW];exact zC _ _
 have HQ:=zB (by rw[hW,hN];exact zCw.new w q _:zCw W N q);have HM:=zB (hm.below K);have hk:=zB (F.below K);have X:=zB K;have HN:=zB hN;have E:=zB hz;have HH:=zB h;obtain⟨ts,ct,wt,ht,h⟩:=h;have I:=zB ht;have HG:Hid (ms.length<=100->LdG W am ms):=fun x=>⟨x,(g x).arg.below K,(g x).sz,(g x).mx.below K⟩
 have HX:=zB (zE8 am cm ms W HG ht);have n:Hid (ct≠0->C=[]/\c=1):=fun x=>h.elim (fun y=>y.2) (fun y=>yR y.1 x)
 unfold zBQ;unfold zMd at hW;clear hz hm F h ht g K;go_enter func9,ntmps9;go_upto_region 1 with fail
 rw[<-hW,<-hN];clear hW hN;go_wp2_with fail;go_call zA HX as e w1 (⟨h0,_,rfl,Q⟩|⟨rfl,rfl,d,G,rfl,HOK,HAL,HPG⟩)
 ·obtain⟨rfl,rfl⟩:=(zA n) h0;have hI:(ct != 0)=true:=Ju h0
  have he:=zB (X.trans (Q.mono X.size));clear h0 Q;go_wp2_with fail;go_ret2;exact⟨⟨_,rfl,World.ownsRow_nil _ _ _ _⟩,he⟩
 have hn:ms.length<=100:=HOK.ld.good.1;obtain⟨vS,au,cu,ar,cr,b⟩:=HPG.z HOK (HG hn).arg HAL E;have Q:=HPG.bel;have r:=zB b;have j:=zB Q;have p:=zB (HQ.below Q HQ.h);have M:Hid (∀i,i<ms.length->(d.T i).length<=1048576/\ZA (d.T i)):=fun i hi=>⟨Jy ((HOK.tb i hi).2.1),(HOK.tb i hi).1⟩
 have u:=zB (zOe (W.heap.size+1) cm cu cr am au ar ms d.U d.T ts vS q w1 hn b M (fun i hi=>by obtain⟨us,h1⟩:=HOK.un i hi;have:=(zEG h1).1;omega) hh hj);obtain⟨_,q0,q1,q2,q3,q4,q5,q6,q7,q8⟩:=zA p;unfold zBQ at u;clear b Q HX HQ n HPG HAL HG;go_wp2_with fail;go_call zA u as e w2 ⟨⟨c',rfl,hc'⟩,hb2⟩;have A:=zB (HH.code I HOK.ld HOK.un hc');have O:=zB (r.below hb2);have hf:=zB (p.below hb2 p.h);have H:Hid (Below W.heap.size W w2):=j.trans (hb2.mono j.size);have Z:=zB (X.trans (H.mono X.size));clear hb2 hc' u q0 q1 q2 q3 q4 q5 q6 q7 q8 r p j HH I;rcases zA A with⟨h0,rfl,rfl⟩|⟨rfl,J,R,ms',t2,c2,w2',f,S,hl⟩
 ·have hI:(c != 0)=true:=Ju h0
  clear h0 A;go_wp2_with fail;go_ret2;exact⟨⟨_,rfl,World.ownsRow_nil _ _ _ _⟩,Z⟩
 have hq:1<=ms.length:=by
  rcases Nat.eq_zero_or_pos ms.length with e|e
  ·unfold zCE at J;rw[e] at J;simp[zFC] at J
  ·exact e
 have B:=zB (zKM q w2);obtain⟨_,q0,q1,q2,q3,q4,q5,q6,q7,q8⟩:=zA hf;have a:=zB (fun Y (hb:Below w2.heap.size w2 Y)=>zOf (W.heap.size+1) cm cu cr am au ar ms d.U d.T ts vS q Y hn (O.below hb) M HOK.un HOK.tr E R (HM.below (H.trans (hb.mono H.size))) (hk.below (H.trans (hb.mono H.size))));have hg:=zB f;have ha:=zB S;unfold zBQ chV at B;unfold chV at a;clear A J R f S;go_wp2_with fail;go_call zA B as e w3 ⟨rfl,hb3⟩;have V:=zB hb3;have D:=zB (a w3 hb3);clear hb3 B a q0 q1 q2 q3 q4 q5 q6 q7 q8;go_wp2_with fail;go_call zA D as e w4 ⟨⟨v4,os,rfl,hr4,hc4,hs4⟩,hb4⟩;obtain rfl:=hc4.one hg;have P:Below w2.heap.size w2 w4:=V.trans (hb4.mono V.size);have k:Below W.heap.size W w4:=H.trans (P.mono H.size);have ho:os.length=ms.length:=hc4.1;obtain⟨g4,c4,rfl⟩:=hr4.has Jo;have hc:=zB hr4;have m:=zB (zKp (some (Qa g4 0)) c4 os w4 (fun x=>⟨x,hr4.arg,hs4,HM.below k⟩) ha);have hp:=zB k;have L:=zB (X.trans (k.mono X.size));have z34:w.heap.size<=w3.heap.size:=by have:=Z.size;have:=V.size;omega
 clear hb4 P k hc4 hs4 hr4 ho D;go_wp2_with fail;go_call zA m as e w5 ⟨v5,rfl,_,hb5⟩;have hd:=zB ((hc.below hb5).base z34);have l:=zB (L.trans (hb5.mono L.size));clear hb5 m;rcases hl with⟨h0,rfl,rfl⟩|⟨rfl,rfl,rfl⟩
 ·have hI:(c2 != 0)=true:=Ju h0
  clear h0;go_wp2_with fail;go_ret2;exact⟨⟨_,rfl,World.ownsRow_nil _ _ _ _⟩,l⟩
 ·go_wp2_with fail;go_ret2;exact⟨⟨_,rfl,hd⟩,l⟩
end Go.Proofs.YtadiaghhackbjaaGreatDoor
