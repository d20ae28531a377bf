import Derived.Test.YtadiaghhackbjaaGreatDoorU28
import Derived.Test.YtadiaghhackbjaaGreatDoorU33
namespace Go.Proofs.YtadiaghhackbjaaGreatDoor
set_option linter.all false
set_option maxHeartbeats 0
set_option maxRecDepth 100000
open Proofs.Tryz RowKit Maps
variable{out:List (List zD)}
theorem zHx(am:Option Addr)(cm:Nat)(ms:List zH)(w:JY)(hn:100<ms.length):Calls prog 51 #[.slice am ms.length cm] w fun e w'=>e=.returned (.tuple #[.pointer none,Qi 1,Qi 100])/\w'=w:=by
 have h:(100:Int)<(ms.length:Int):=Jo;go_enter func51,ntmps51;go_wp2_with fail;go_ret3;exact⟨rfl,rfl⟩
theorem zIa.congr{T T':Nat->List OpR}{b b':Nat->ByteArray}{n:Nat}{c who:Int}(h:zIa T b n out c who)(he:∀i,i<n->T i=T' i/\b i=b' i):zIa T' b' n out c who:=by
 have hp:∀{i us c},i<n->PsI T b i us c->PsI T' b' i us c:=fun{i us c} hi ⟨p,h⟩=>⟨p,by rw[<-(he i hi).1,<-(he i hi).2];exact h⟩
 rcases h with⟨k,us,cd,t,h1,h2,h3,h4⟩|⟨h1,h2⟩
 ·exact yS ⟨k,us,cd,t,h1,⟨h2.1,fun i hi=>hp Jo (h2.2 i hi)⟩,hp h1 h3,h4⟩
 ·exact yU ⟨⟨h1.1,fun i hi=>hp hi (h1.2 i hi)⟩,h2⟩
theorem zBh{w:JY}{b o:Nat}{v:Value}(h:w.cell? (Qa b o)=some v):b<w.heap.size:=World.block_lt_of_cell? _ _ h
theorem zTo(w:JY)(o:Obj):w.heap.size<(w.alloc o).heap.size:=Js
theorem zTp(w:JY)(v:Value)(t:TypeId):(w.alloc (.cells #[v] t)).cell? (Qa w.heap.size 0)=some v:=Jg
theorem zVm(w:JY)(v:Value)(t:TypeId):(w.alloc (.cells #[v] t)).frozen? (Qa w.heap.size 0)=false:=Jg
structure PgD where
 B:Nat
 C:Nat
 v1:Value
 vs:List UvR
 U:List UnR
 kv:Value
 pv:Option Nat
 ks:List JZ
 T:Nat->List OpR
 vv:Value
 tv:List Value
 ta:List (Option Addr)
def PgI(w wr:JY)(am:Option Addr)(cm:Nat)(ms:List zH)(out:List (List zD))(d:PgD)(G:ByteArray->Option Value):Prop:=RpI w wr d.B d.C am cm ms d.v1 d.vs d.U d.kv d.pv d.ks d.T d.vv d.tv d.ta out G
structure zXQ(w:JY)(am:Option Addr)(cm:Nat)(ms:List zH)(out:List (List zD))(d:PgD):Prop where
 cb:d.C<=d.B
 tb:∀i,i<ms.length->ZA (d.T i)/\(d.T i).length<=500/\(atU d.U i).b.size<=20000
 un:∀i,i<ms.length->∃us,zy (atM ms i).t us (atU d.U i).os (atU d.U i).b 0 0
 ld:zAF ms ((List.range ms.length).map d.T) 0 0
 tr:zFd d.T (fun i=>(atU d.U i).b) ms.length out
def zPh(w:JY)(am:Option Addr)(cm:Nat)(ms:List zH)(out:List (List zD))(c who:Int)(e:Ending)(w':JY):Prop:=
 (c≠0/\out=[]/\e=.returned (.tuple #[.pointer none,Qi c,Qi who])/\Qb w w') \/
 (c=0/\who=0/\∃d G,e=.returned (.tuple #[Qp (w.heap.size+1),Qi 0,Qi 0])/\Hid (zXQ w am cm ms out d)/\Hid (∀j,j<ms.length->∃x,G (atM ms j).n=some x)/\Hid (PgI w w' am cm ms out d G))
theorem zE8(am:Option Addr)(cm:Nat)(ms:List zH)(w:JY)(g:ms.length<=100->LdG w am ms){c who:Int}(h:zAe ms out c who):Calls prog 30 #[.slice am ms.length cm] w (zPh w am cm ms out c who):=by
 obtain⟨tabs,c0,w0,hL,hT⟩:=h;by_cases hn:ms.length<=100
 ·have HX:=zB (zIg am cm ms w (g hn));have HL:=zB hL;have HT:=zB hT;have HG:=zB (g hn);clear hL hT g;go_enter func30,ntmps30;go_wp2_with fail;go_call zA HX as e w1 (⟨s,k,cc,hs,hk,hcc,rfl,hf,hb⟩|⟨rfl,W,X,ob,hst⟩)
  ·obtain⟨_,rfl,rfl⟩:=zVj HL hn hs hk hf;obtain⟨h0,rfl,rfl,rfl⟩:(s:Int)+2≠0/\out=[]/\c=(s:Int)+2/\who=(k:Int):=by
    rcases zA HT with⟨h,h1,h2,h3⟩|⟨h,_⟩
    ·exact⟨h,h1,h2,h3⟩
    ·omega
   subst hcc;have Hn:((s:Int)+2 != 0)=true:=Jq;have HB:=zB hb;clear hf hb HX HL HT;go_wp2_with fail;go_ret3;exact yS ⟨h0,rfl,rfl,HB⟩
  ·obtain⟨hK,h3,U,ks,C,T,rk,G,⟨v1,vs,kv,pv,_,_,hU,J,hN,hH⟩,h4,h5,hR,E,hG,h6⟩:=hst;obtain⟨rfl,rfl,rfl⟩:=zVk HL hn J h3 hU h4 h5 hR E h6;have hM:=zB (show zIa T (fun i=>(atU U i).b) ms.length out c who by
    rcases zA HT with⟨h,_⟩|⟨_,U0,Hk,h⟩
    ·exact yR rfl h
    ·refine h.congr fun i hi=>⟨zAy hi,?_⟩
     obtain⟨us,h1,h2⟩:=hU.2 i hi
     exact(zy.one (Hk.2 i hi) h1).2.2.1)
   obtain⟨i0,h8,hF,hO,hQ⟩:=zS zN0;have Hd:=zB h8;have HZ:=zB (yK hF (yK hO hQ));clear h8 hF hO hQ;obtain⟨p1,p2,p3⟩:=hU.small hn;have hq:=zB (show ∀i,i<ms.length->ZA (T i)/\(T i).length<=500/\(atU U i).b.size<=20000 from fun i hi=>⟨fun j hj=>(p2 _ (E.sub hR (by rw[hU.1];exact yk _) (rk i+1) i hi Jo _ (zIk hj))).1,by
    rcases h6 i hi with h|⟨h,_⟩
    ·exact yR h.1 Jd
    ·exact h,by
    obtain⟨us,h1,_⟩:=hU.2 i hi
    exact zLU h1⟩)
   have Hp:w.heap.size+3<=C:=hH.hBC;have l:=hH.hC;have Hh:Hid (∀i,i<ms.length->∃us,zy (atM ms i).t us (atU U i).os (atU U i).b 0 0):=fun i hi=>(by obtain⟨us,h1,_⟩:=hU.2 i hi;exact⟨us,h1⟩)
   have hd:=zB (fun(i:Nat)(hi:i<ms.length)(wr:JY)(G':ByteArray->Option Value)(Hj:ScH wr (w.heap.size+3) C (w.heap.size+1) w.heap.size am cm ms v1 vs U kv pv ks)(Hb:ScM wr C w.heap.size ms T G')=>zIP _ C _ _ am cm ms v1 vs U kv pv ks T rk hn hN.all hR E p1 p2 (fun i hi=>(p3 i hi).1) (rk i+1) i hi Jo wr G' Hj Hb);have r:=zB (show(∀g,kv.ownBlock=some g->g<w1.heap.size)/\∀g,pv=some g->g<w1.heap.size from⟨fun g e=>(hH.nm.row.lt g e).2,fun g e=>(hH.nm.plt g e).2⟩);have H0:=zB (show RpI w w1 w1.heap.size C am cm ms v1 vs U kv pv ks T (.slice none 0 0) [] [] [] G from⟨hH,hG,hK.bel,hK.c5.1,hK.c5.2,TrI.nil _ _,yk _,fun j hj x hx g e e2=>by cases e2⟩);have Hm:=zB hK.bel;have c1:=hH.pg.c1;obtain⟨a1,cc1,rfl⟩:∃a c,v1=.slice a vs.length c:=zR hH.pg.row;have Ho:=hH.pg.ln;clear HX HT hK h3 J hN hH h4 h5 hR E hG h6 hU p1 p2 p3;go_wp2_with fail;go_loopw [28] (fun x wr=>∃(k:Nat)(vv:Value)(tv:List Value)(ta:List (Option Addr))(o:List (List zD))(G':ByteArray->Option Value),k<=vs.length/\x=Qi k/\Hid (RpI w wr w1.heap.size C am cm ms (.slice a1 vs.length cc1) vs U kv pv ks T vv tv ta o G')/\Hid (zFd T (fun i=>(atU U i).b) k o)/\Hid (∀j,j<k->∃x,G' (atM ms j).n=some x)) (fun x _=>vs.length-(intOf x).toNat);case atStart=>exact⟨0,_,[],[],[],G,ym _,rfl,H0,zB (zFd.nil _ _),zB (fun j h=>yR h (yx j))⟩
   case round=>
    clear H0;obtain⟨k,vv,tv,ta,o,G',hk,rfl,HI,D,S⟩:=hrel;obtain⟨av,cv,rfl⟩:∃a c,vv=.slice a tv.length c:=zR HI.tr.row;have Hv:tv.length<=1048576:=by have:=HI.tr.len.1;have:=D.1;omega
    by_cases hZ:k<vs.length
    ·have hX:(k:Int)<(vs.length:Int):=Jo;have P:k<ms.length:=Jo;obtain⟨bA,K,rfl,m,Hc⟩:∃b K,am=some (Qa b K)/\zLl w b K ms/\b<w.heap.size:=by
      rcases HG.arg with h|h
      ·omega
      ·exact h
     have m0:=(HI.bel.cell (p:=(Qa bA (K+k*2))) Hc).trans (m k P).1;obtain⟨g1,cq,e1,n0,n1,n2⟩:=HI.sh.pg.at P;obtain⟨rfl,rfl⟩:a1=some (Qa g1 0)/\cc1=cq:=by injection e1 with x _ y;exact⟨x,y⟩
     obtain⟨⟨⟨au,cu,ht,_⟩,⟨ao,co,ho,_⟩,hg⟩,_⟩:=HI.sh.pg.uns.2 k hZ;rw[ht] at n0;rw[ho] at n1;obtain⟨hw,Ht,Hg⟩:=(zA hq) k P;obtain⟨bd,F⟩:=Jx ((atU U k).b);rw[hg,<-F] at n2;rw[<-F] at Hg;obtain⟨ul,hv⟩:=Jx ((atU U k).us.length);obtain⟨ol,hA⟩:=Jx ((atU U k).os.length);rw[<-hv] at n0;rw[<-hA] at n1;obtain⟨nm,I⟩:=Jx ((atM ms k).n);rw[<-I] at m0;have hI:=zB (fun us c (h:∃p,zAs (T k) bd us c p)=>show PsI T (fun i=>(atU U i).b) k us c by
      obtain⟨p,h⟩:=h
      exact⟨p,by show zAs (T k) (atU U k).b us c p;rw[<-F];exact h⟩)
     have Hs:=HI.hz;have Hu:=HI.bel.size;obtain⟨UO,He⟩:=Jx (Obj.cells #[.slice au ul cu,.slice ao ol co,Qs bd] 89);have L:Below wr.heap.size wr (wr.alloc (.cells #[.slice au ul cu,.slice ao ol co,Qs bd] 89)).drew:=(zC _ _).drew;have J:Below wr.heap.size wr ((wr.alloc (.cells #[.slice au ul cu,.slice ao ol co,Qs bd] 89)).alloc (.cells #[.slice none 0 0] 70)).drew:=((zC _ _).alloc Js _).drew;have O:=zB (hd k P _ G' (HI.sh.below L) (HI.sc.below L));have R:=zB (hd k P _ G' (HI.sh.below J) (HI.sc.below J));rw[<-I] at O R;have HP:=zB (show ∀(w6:JY)(v:Value)(G'':ByteArray->Option Value),G'' (atM ms k).n=some (.agg #[v])->ScM w6 C w.heap.size ms T G''->∃a6 c6,v=.slice a6 (T k).length c6/\∀W',Below w6.heap.size w6 W'->Calls prog 52 #[.agg #[.slice a6 (T k).length c6],Qs bd] W' (zAI (T k) bd W') from fun w6 v G'' s1 s2=>by
      obtain⟨v',Hi,hl,_⟩:=s2.at' _ P _ s1
      obtain rfl:v=v':=Ju Hi
      have hE:=hl.ops
      obtain⟨a6,c6,rfl,_⟩:=id hE
      exact⟨a6,c6,rfl,fun W' hb=>zMc a6 c6 (T k) bd W' Jo (fun W'' ha=>zKn a6 c6 (T k) W'' Jo (hE.below (hb.trans (ha.mono hb.size))) hw) hw Jo⟩)
     have Z:=zB L;have hW:=zB J;have Hw:=zB I;have nb1:wr.heap.size+1≠bA:=Jo;have nb2:bA≠wr.heap.size+1:=Jo;have ne1:(some w.heap.size:Option Nat)≠some bA:=fun x=>by injection x with x;omega
     have ne2:(some w.heap.size:Option Nat)≠some wr.heap.size:=fun x=>by injection x with x;omega
     have ne3:(some w.heap.size:Option Nat)≠some (wr.heap.size+1):=fun x=>by injection x with x;omega
     have l2:wr.heap.size<(wr.alloc (.cells #[.slice au ul cu,.slice ao ol co,Qs bd] 89)).drew.heap.size:=Js;have l3:bA<((wr.alloc (.cells #[.slice au ul cu,.slice ao ol co,Qs bd] 89)).alloc (.cells #[.slice none 0 0] 70)).drew.heap.size:=Jq;have l4:wr.heap.size<((wr.alloc (.cells #[.slice au ul cu,.slice ao ol co,Qs bd] 89)).alloc (.cells #[.slice none 0 0] 70)).drew.heap.size:=Jq;have l5:wr.heap.size+1<((wr.alloc (.cells #[.slice au ul cu,.slice ao ol co,Qs bd] 89)).alloc (.cells #[.slice none 0 0] 70)).drew.heap.size:=Js;have he:Hid ((wr.alloc (.cells #[.slice au ul cu,.slice ao ol co,Qs bd] 89)).drew.cell? (Qa bA (K+k*2))=some (Qs nm)):=((zC wr _).cell (p:=(Qa bA (K+k*2))) (Jo:bA<wr.heap.size)).trans m0;have h7:=zB (Jg:(wr.alloc (.cells #[.slice au ul cu,.slice ao ol co,Qs bd] 89)).drew.cell? (Qa wr.heap.size 2)=some (Qs bd));have hV:Hid (((wr.alloc (.cells #[.slice au ul cu,.slice ao ol co,Qs bd] 89)).alloc (.cells #[.slice none 0 0] 70)).drew.cell? (Qa bA (K+k*2))=some (Qs nm)):=(((zC wr _).alloc Js _).cell (p:=(Qa bA (K+k*2))) (Jo:bA<wr.heap.size)).trans m0;have hr:Hid (((wr.alloc (.cells #[.slice au ul cu,.slice ao ol co,Qs bd] 89)).alloc (.cells #[.slice none 0 0] 70)).drew.cell? (Qa wr.heap.size 2)=some (Qs bd)):=((zC (wr.alloc (.cells #[.slice au ul cu,.slice ao ol co,Qs bd] 89)) _).cell (p:=Qa wr.heap.size 2) Js).trans Jg;have h9:=zB (Jg:((wr.alloc (.cells #[.slice au ul cu,.slice ao ol co,Qs bd] 89)).alloc (.cells #[.slice none 0 0] 70)).drew.cell? (Qa (wr.heap.size+1) 0)=some (.slice none 0 0));have hm:=zB (Jg:((wr.alloc (.cells #[.slice au ul cu,.slice ao ol co,Qs bd] 89)).alloc (.cells #[.slice none 0 0] 70)).drew.frozen? (Qa (wr.heap.size+1) 0)=false);have l1:bA<(wr.alloc (.cells #[.slice au ul cu,.slice ao ol co,Qs bd] 89)).drew.heap.size:=Jq;clear e1 ht ho hg F hv hA m L J I He UO;go_wp2_with fail
     go_region_held3 (fun W=>W.cell? (Qa bA (K+k*2))=some (Qs nm)/\W.cell? (Qa wr.heap.size 2)=some (Qs bd)) (go_keep) (first
      |(go_at_call 53;(with_reducible refine(zA O).mono ?_);rintro e w6 ⟨v,G'',rfl,s1,s2,s3,sp,s4,s5⟩;obtain⟨a6,c6,rfl,hp⟩:=(zA HP) w6 v G'' s1 s2;have f:=zB (hp w6 (yJ _ _));have N:=zB (hp (w6.alloc (.cells #[.slice none 0 0] 70)) (zC _ _));have B:=zB (yK s2 (yK s3 s5));have hS:=zB (show ∀j,j<k+1->∃x,G'' (atM ms j).n=some x from fun j hj=>(by by_cases e:j=k;exact⟨_,e ▸ s1⟩;obtain⟨x,hx⟩:=(zA S) j Jo;exact⟨x,sp j Jo x hx⟩));have z6:=s3.size;  have c1:=(zK s3 l1 ne1 (K+k*2)).trans (zA he);have c2:=(zK s3 l2 ne2 2).trans (zA h7);have nn1:=World.new_ne w6 _ c1;have nn2:=World.new_ne w6 _ c2;clear s1 s2 s3 sp s4 s5 hp)
      |(go_at_call 53;(with_reducible refine(zA R).mono ?_);rintro e w6 ⟨v,G'',rfl,s1,s2,s3,sp,s4,s5⟩;obtain⟨a6,c6,rfl,hp⟩:=(zA HP) w6 v G'' s1 s2;have f:=zB (hp w6 (yJ _ _));have N:=zB (hp (w6.alloc (.cells #[.slice none 0 0] 70)) (zC _ _));have B:=zB (yK s2 (yK s3 s5));have hS:=zB (show ∀j,j<k+1->∃x,G'' (atM ms j).n=some x from fun j hj=>(by by_cases e:j=k;exact⟨_,e ▸ s1⟩;obtain⟨x,hx⟩:=(zA S) j Jo;exact⟨x,sp j Jo x hx⟩));have z6:=s3.size;  have c1:=(zK s3 l3 ne1 (K+k*2)).trans (zA hV);have c2:=(zK s3 l4 ne2 2).trans (zA hr);have x0:=(zK s3 l5 ne3 0).trans (zA h9);have x1:=(ZW s3 l5 ne3 0).trans (zA hm);have nn1:=World.new_ne w6 _ c1;have nn2:=World.new_ne w6 _ c2;clear s1 s2 s3 sp s4 s5 hp)
      |(go_at_call 52;(with_reducible refine(zA f).mono ?_);rintro e w7 ⟨⟨a7,c7,us,cd,pl,rfl,HON,HPI⟩,hb7⟩;have V:=zB hb7;have z7:=hb7.size;  have q1:=(hb7.cell (p:=(Qa bA (K+k*2))) (zBh c1)).trans c1;have q2:=Jc hb7 (zBh c2) c2;have y0:=(hb7.cell (p:=(Qa (wr.heap.size+1) 0)) (zBh x0)).trans x0;have y1:=(hb7.frozen (p:=(Qa (wr.heap.size+1) 0)) (zBh x0)).trans x1;clear hb7)
      |(go_at_call 52;(with_reducible refine(zA f).mono ?_);rintro e w7 ⟨⟨a7,c7,us,cd,pl,rfl,HON,HPI⟩,hb7⟩;have V:=zB hb7;have z7:=hb7.size;  have q1:=(hb7.cell (p:=(Qa bA (K+k*2))) (zBh c1)).trans c1;have q2:=Jc hb7 (zBh c2) c2;clear hb7)
      |(go_at_call 52;(with_reducible refine(zA N).mono ?_);rintro e w7 ⟨⟨a7,c7,us,cd,pl,rfl,HON,HPI⟩,hb7⟩;have V:=zB hb7;have z7:=hb7.size;  have q1:=(hb7.cell (p:=(Qa bA (K+k*2))) (yl (zBh c1) (zC _ _).size)).trans (((zC w6 _).cell (p:=(Qa bA (K+k*2))) (zBh c1)).trans c1);have q2:=(hb7.cell (p:=Qa wr.heap.size 2) (yl (zBh c2) (zC _ _).size)).trans (Jc (zC w6 _) (zBh c2) c2);have y0:=(hb7.cell (p:=Qa w6.heap.size 0) (zTo w6 _)).trans (zTp w6 _ _);have y1:=(hb7.frozen (p:=Qa w6.heap.size 0) (zTo w6 _)).trans (zVm w6 _ _);clear hb7))
     all_goals
      first
      |(
        obtain⟨W8,H⟩:=Jx (w7.alloc (.cells #[.slice a7 us.length c7] 70))
        rw[<-H]
        have A:Below w6.heap.size w6 W8:=by rw[H];exact V.alloc z7 _
        have HR:=zB (HI.read (cc:=c7) l r Z B (zE A (some w6.heap.size)) (by simp at z6;omega) (yU (yk _)) (by rw[H];exact(HON.step (zC _ _)).base (by simp at z6;omega):Zi W8 wr.heap.size a7 us))
        obtain⟨X8,Y⟩:=Jx w7.heap.size
        have y8:W8.cell? (Qa X8 0)=some (.slice a7 us.length c7):=by rw[H,Y];simp[go_sem]
        have x8:wr.heap.size<=X8:=by simp at z6;omega
        rw[<-Y]
        clear A H Y)
      |(
        obtain⟨W8,H⟩:=Jx (w7.setCell (Qa w6.heap.size 0) (.slice a7 us.length c7))
        rw[<-H]
        have A:Below w6.heap.size w6 W8:=by rw[H];exact((zC _ _).trans (V.mono Js)).setCell (p:=Qa w6.heap.size 0) (yk _) _
        have HR:=zB (HI.read (cc:=c7) l r Z B (zE A (some w6.heap.size)) (by simp at z6;omega) (yU (yk _)) (by rw[H];exact(HON.grown (ZJ w7 w6.heap.size 0 _) (fun q e=>by injection e with e;simp;omega)).base (by simp at z6;simp;omega):Zi W8 wr.heap.size a7 us))
        obtain⟨X8,Y⟩:=Jx w6.heap.size
        have y8:W8.cell? (Qa X8 0)=some (.slice a7 us.length c7):=by rw[H,Y];exact yt _ _ _ y0
        have x8:wr.heap.size<=X8:=by simp at z6;omega
        rw[<-Y]
        clear A H Y y0 y1)
      |(
        obtain⟨W8,H⟩:=Jx (w7.setCell (Qa (wr.heap.size+1) 0) (.slice a7 us.length c7))
        rw[<-H]
        have HR:=zB (HI.read (cc:=c7) l r hW B (by rw[H];exact zRV V _ _ _:w6.grownBy W8 (some (wr.heap.size+1))) Jo (yS Js) (by rw[H];exact(HON.grown (ZJ w7 (wr.heap.size+1) 0 _) (fun q e=>by injection e with e;simp at z6;omega)).base (by simp at z6;omega):Zi W8 wr.heap.size a7 us))
        obtain⟨X8,Y⟩:=Jx (wr.heap.size+1)
        have y8:W8.cell? (Qa X8 0)=some (.slice a7 us.length c7):=by rw[H,Y];exact yt _ _ _ y0
        have x8:wr.heap.size<=X8:=Jo
        rw[<-Y]
        clear H Y y0 y1 x0 x1)
      have Hf:=zB HR.bel
      clear B f N HON V z6 z7 c1 c2 q1 q2 nn1 nn2 O R HP Z hW he h7 hV hr h9 hm l1 l2 l3 l4 l5 ne1 ne2 ne3 nb1 nb2
      by_cases hc:cd=0
      ·subst hc
       have y5:=HR.c5
       have f5:=HR.f5
       have z8:=HR.siz
       have hP:=zB (show(Value.slice av tv.length cv).ownBlock≠some (w.heap.size+1)/\(Value.slice av tv.length cv).ownBlock≠some X8 from⟨fun e=>Jy ((World.ownsRow.lt HI.tr.row _ e).1),fun e=>Jy ((World.ownsRow.lt HI.tr.row _ e).2)⟩)
       have hB:X8<W8.heap.size:=zBh y8
       have hh:w.heap.size+1<W8.heap.size:=zBh y5
       have Hl:X8≠w.heap.size+1:=Jo
       have k6:=fun o'=>((zC W8 o').cell (p:=(Qa (w.heap.size+1) 5)) hh).trans y5
       have k8:=fun o'=>Jc (zC W8 o') hB y8
       have hJ:=zB (fun(w4:JY)(v4:Value)=>HR.step (W8.alloc (.cells #[.slice a7 us.length c7] 70)).drew w4 v4 (zC _ _).drew)
       have hD:=zB HR.row
       have hY:=zB (D.step (hI _ _ ⟨_,HPI⟩))
       clear HR
       go_wp2_with fail
       go_region_law (refine step_append_lies _ (by rfl) (.tmp 56) (.tmp 58) 44 (by rfl) w1.heap.size 70 i0 _ 1 24 underlying44 Hd HZ.1 HZ.2.1 HZ.2.2 rfl Jd _ tv.length tv (by rfl) (zBx hD (fun g e=>((zC W8 _).drew).block g (World.ownsRow.lt hD g e).2)) (Qa W8.heap.size 0) 1 1 [.slice a7 us.length c7] (by rfl) rfl (fun j u hj=>(by cases j with|zero=>(simp at hj;subst hj;simp[go_sem])|succ j=>simp at hj)) (fun u hu=>(by simp at hu;subst hu;rfl)) Jd Jm Jo Jq _ rfl ?_;intro g4 c4 w4 d Q M hy;have m2:w4.cell? (Qa (w.heap.size+1) 5)=some (.slice av tv.length cv):=(zK Q (b:=w.heap.size+1) Jq hP.1 5).trans (k6 _);have m3:w4.frozen? (Qa (w.heap.size+1) 5)=false:=(ZW Q (b:=w.heap.size+1) Jq hP.1 5).trans (((zC W8 _).frozen (p:=(Qa (w.heap.size+1) 5)) hh).trans f5);have Ha:=zB (hJ w4 (Ql g4 (tv.length+1) c4) Q (show zFe w4 _ _ (tv++[.slice a7 us.length c7]) by unfold zFe;rw[yq];exact d) (M.imp (fun e=>e.symm) (fun e=>⟨g4,rfl,Jo⟩)));clear d Q M hy)
       all_goals
        go_wp2_with fail
        exact⟨⟨k+1,_,_,_,_,_,Jo,Jn,Ha,hY,hS⟩,Ji⟩
      ·have Hr:(cd != 0)=true:=Ju hc
       have Hq:=HPI.code
       obtain⟨h1,h2,h3⟩:=hM.hit P D (hI _ _ ⟨_,HPI⟩) hc
       have HE:Hid (zPh w (some (Qa bA K)) cm ms out c who (.returned (.tuple #[.pointer none,Qi (10+cd),Qi k])) W8):=yS ⟨Jo,h1,by rw[h2,h3],Hf⟩
       clear hc h1 h2 h3 HR
       go_wp2_with fail
       go_ret3
       exact HE
    ·obtain rfl:k=ms.length:=Jo;obtain⟨rfl,rfl,rfl⟩:=hM.miss D;have HE:Hid (zPh w _ cm ms out 0 0 (.returned (.tuple #[Qp (w.heap.size+1),Qi 0,Qi 0])) wr):=yU ⟨rfl,rfl,⟨_,_,_,_,_,_,_,_,T,_,_,_⟩,_,rfl,zB ⟨l,hq,Hh,HL,D⟩,S,HI⟩;have hX:¬ ((ms.length:Nat):Int)<(vs.length:Int):=Jo;go_wp2_with fail;go_ret3;exact HE
 ·have h1:c0=1/\w0=100:=by
   rcases hL with⟨_,_,h⟩|⟨h,_⟩
   ·exact h
   ·exact yR h hn
  obtain⟨rfl,rfl⟩:=h1;obtain⟨_,rfl,rfl,rfl⟩:(1:Int)≠0/\out=[]/\c=1/\who=100:=by
   rcases hT with h|⟨h,_⟩
   ·exact h
   ·omega
  have HX:=zB (zHx am cm ms w Jo);clear g hL hT;go_enter func30,ntmps30;go_wp2_with (first|(go_at_call 51;(with_reducible refine(zA HX).mono ?_);rintro e w1 ⟨rfl,hx⟩;obtain rfl:=hx.symm;clear hx));go_ret3;exact yS ⟨Jd,rfl,rfl,yJ _ _⟩
def zWw(w:JY)(out:List (List zD))(c who:Int)(e:Ending)(w':JY):Prop:=
 ∃v,e=.returned (.tuple #[v,Qi c,Qi who])/\Hid (zJu w' w.heap.size v out)/\Qb w w'
theorem zKp(am:Option Addr)(cm:Nat)(ms:List zH)(w:JY)(g:ms.length<=100->LdG w am ms){c who:Int}(h:zAe ms out c who):Calls prog 34 #[.slice am ms.length cm] w (zWw w out c who):=by
 have HX:=zB (zE8 am cm ms w g h);clear g h;go_enter func34,ntmps34;go_wp2_with fail;go_call zA HX as e w1 (⟨h0,rfl,rfl,hb⟩|⟨rfl,rfl,d,G,rfl,HOK,_,HPG⟩)
 ·have hI:(c != 0)=true:=Ju h0
  clear h0;go_wp2_with fail;go_ret3;exact⟨_,rfl,zB ⟨⟨_,_,rfl⟩,yS rfl⟩,hb⟩
 ·have hc:=HPG.c5;have hb:=HPG.bel;have HT:=zB (HPG.tr.res.low (by have:=HOK.cb;have:=HPG.sh.hBC;omega:w.heap.size<=d.B));obtain⟨⟨a,c,e⟩,_⟩:=id HT;rw[e] at hc HT;clear e;go_wp2_with fail;go_ret3;exact⟨_,rfl,HT,hb⟩
end Go.Proofs.YtadiaghhackbjaaGreatDoor
