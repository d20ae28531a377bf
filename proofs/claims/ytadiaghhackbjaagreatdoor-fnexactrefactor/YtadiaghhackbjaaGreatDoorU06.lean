import Derived.Test.YtadiaghhackbjaaGreatDoorU03
import Derived.Test.YtadiaghhackbjaaGreatDoorU04
import Derived.Test.YtadiaghhackbjaaGreatDoorU05
namespace Go.Proofs.YtadiaghhackbjaaGreatDoor
set_option linter.all false
set_option maxHeartbeats 0
set_option maxRecDepth 100000
open Proofs.Tryz RowKit
variable{B:Nat}{U:List UnR}{os:List OpR}{v:Value}{w w':World}
structure UvR where
 vu:Value
 vo:Value
 b:ByteArray
variable{us vs:List UvR}
def atV(vs:List UvR)(i:Nat):UvR:=vs.getD i ⟨.slice none 0 0,.slice none 0 0,ByteArray.empty⟩
def Zz(zs:List UvR):List Value:=zs.flatMap fun x=>[x.vu,x.vo,Qs x.b]
theorem zF9(xs ys:List UvR):Zz (xs++ys)=Zz xs++Zz ys:=by simp[Zz]
theorem zK8:∀(zs:List UvR)(i:Nat),i<zs.length->(Zz zs)[i*3]?=some (atV zs i).vu/\(Zz zs)[i*3+1]?=some (atV zs i).vo/\(Zz zs)[i*3+2]?=some (Qs (atV zs i).b)
 |[],i,h=>yR h (yx i)
 |o::r,0,_=>⟨rfl,rfl,rfl⟩
 |o::r,i+1,h=>by
  have ih:=zK8 r i (Ju h);have e:∀j,(Zz (o::r))[(i+1)*3+j]?=(Zz r)[i*3+j]?:=fun j=>by
   have:(i+1)*3+j=(i*3+j)+3:=Jo;rw[this];rfl
  exact⟨(e 0).trans ih.1,(e 1).trans ih.2.1,(e 2).trans ih.2.2⟩
theorem zSL:(prog.info? 89).map (fun i=>(i.zero,i.size,i.bytes))=some (some (.agg #[.slice none 0 0,.slice none 0 0,Qs ⟨#[]⟩]),3,64):=Jk
theorem zHh(w:JY)(x:UvR):∀j u,(Zz [x])[j]?=some u->(w.alloc (.cells #[x.vu,x.vo,Qs x.b] 89)).cell? ((Qa w.heap.size 0).add j)=some u:=by
 intro j u hj;rw[Addr.add_mid];have:=yC (w:=w.alloc (.cells #[x.vu,x.vo,Qs x.b] 89)) (b:=w.heap.size) (heap_alloc_new w _) 0 3;exact this j u (by simpa[Zz] using hj)
def zBt(w:JY)(B:Nat)(u:Value)(vs:List UvR):Prop:=w.ownsRow B 89 3 u vs.length (Zz vs)
theorem zBt.below{u:Value}(h:zBt w B u us)(hb:Qb w w'):zBt w' B u us:=
 World.ownsRow.kept h (zE hb none) (by cases u.ownBlock with
 |none=>exact yS rfl
 |some k=>exact yU Js)
theorem zBt.grown{u:Value}{row:Option Nat}(h:zBt w B u us)(hg:w.grownBy w' row)(H:∀k,u.ownBlock=some k->row≠some k):zBt w' B u us:=
 World.ownsRow.kept h hg (by
  cases e:u.ownBlock with
  |none=>exact yS rfl
  |some k=>exact yU (fun x=>H k e x.symm))
theorem zBt.lt{w:JY}{B:Nat}{u:Value}{us:List UvR}(h:zBt w B u us):∀g,u.ownBlock=some g->B<=g/\g<w.heap.size:=fun g hg=>World.ownsRow.lt h g hg
def zNV(w:JY)(g:Nat)(vs:List UvR):Prop:=∀i,i<vs.length->w.cell? (Qa g (i*3))=some (atV vs i).vu/\w.cell? (Qa g (i*3+1))=some (atV vs i).vo/\w.cell? (Qa g (i*3+2))=some (Qs (atV vs i).b)
theorem zNV.below{g:Nat}(h:zNV w g vs)(hb:Below B w w')(hB:g<B):zNV w' g vs:=fun i hi=>by
 obtain⟨h0,h1,h2⟩:=h i hi;exact⟨Jc hb hB h0,Jc hb hB h1,Jc hb hB h2⟩
theorem zBt.ops{g c:Nat}(h:zBt w B (Ql g us.length c) us):zNV w g us:=fun i hi=>by
 obtain⟨c0,c1,c2⟩:=zK8 us i hi;have e:=fun j (hj:j<3)=>World.ownsRow.cellAt h (i*3+j) Jo
 exact⟨Ju ((e 0 Jo).trans c0),Ju ((e 1 Jo).trans c1),Ju ((e 2 Jo).trans c2)⟩
theorem ZS.below(h:ZS w v os)(hb:Qb w w'):ZS w' v os:=
 h.grown (row:=none) (zE hb none) (fun g _ e=>by cases e)
def zCu(w:JY)(B:Nat)(vs:List UvR)(U:List UnR):Prop:=vs.length=U.length/\∀i,i<vs.length->(ZO w (atV vs i).vu (atU U i).us/\ZS w (atV vs i).vo (atU U i).os/\(atV vs i).b=(atU U i).b)/\(∀g,(atV vs i).vu.ownBlock=some g->g<B)/\(∀g,(atV vs i).vo.ownBlock=some g->g<B)
theorem zCu.belowB{C:Nat}(h:zCu w B vs U)(hb:Below C w w')(hC:B<=C):zCu w' B vs U:=by
 refine⟨h.1,fun i hi=>?_⟩;obtain⟨⟨h1,h2,h3⟩,h4,h5⟩:=h.2 i hi;refine⟨⟨?_,?_,h3⟩,h4,h5⟩
 ·obtain⟨a,c,hv,hx⟩:=h1;refine⟨a,c,hv,hx.imp id ?_⟩;rintro⟨g,rfl,q1,q2⟩;have hg:g<B:=h4 g (by rw[hv];rfl);exact⟨g,rfl,yl q1 hb.size,fun j x hj=>Jc hb Jh (q2 j x hj)⟩
 ·obtain⟨a,c,hv,hx⟩:=h2;refine⟨a,c,hv,hx.imp id ?_⟩;rintro⟨g,rfl,q1,q2⟩;have hg:g<B:=h5 g (by rw[hv];rfl);exact⟨g,rfl,yl q1 hb.size,q2.below hb Jo⟩
theorem zCu.mono{B':Nat}(h:zCu w B vs U)(hB:B<=B'):zCu w B' vs U:=
 ⟨h.1,fun i hi=>⟨(h.2 i hi).1,fun g e=>yl ((h.2 i hi).2.1 g e) hB,fun g e=>yl ((h.2 i hi).2.2 g e) hB⟩⟩
theorem zNW{x:UvR}{i:Nat}(h:i<vs.length):atV (vs++[x]) i=atV vs i:=by
 unfold atV;rw[yn,yn,yE h]
theorem zNX{x:UvR}:atV (vs++[x]) vs.length=x:=by
 unfold atV;rw[yn,List.getElem?_append_right (yk _)];simp
theorem zJY{vs:List UnR}{x:UnR}{i:Nat}(h:i<vs.length):atU (vs++[x]) i=atU vs i:=by
 unfold atU;rw[yn,yn,yE h]
theorem zJZ{vs:List UnR}{x:UnR}:atU (vs++[x]) vs.length=x:=by
 unfold atU;rw[yn,List.getElem?_append_right (yk _)];simp
def zIE(w:JY)(v:Value)(vs:List UvR)(U:List UnR):Prop:=vs.length=U.length/\∀i,i<vs.length->(ZO w (atV vs i).vu (atU U i).us/\ZS w (atV vs i).vo (atU U i).os/\(atV vs i).b=(atU U i).b)/\(∀g,(atV vs i).vu.ownBlock=some g->v.ownBlock≠some g/\g<w.heap.size)/\(∀g,(atV vs i).vo.ownBlock=some g->v.ownBlock≠some g/\g<w.heap.size)
theorem zIE.at(h:zIE w v vs U):zCu w w.heap.size vs U:=
 ⟨h.1,fun i hi=>⟨(h.2 i hi).1,fun g e=>((h.2 i hi).2.1 g e).2,fun g e=>((h.2 i hi).2.2 g e).2⟩⟩
theorem zIE.step{w1 w4:JY}{v4:Value}{x:UvR}{y:UnR}(h:zIE w v vs U)(hb:Qb w w1)(hv:∀g,v.ownBlock=some g->g<w.heap.size)(h1:ZO w1 x.vu y.us)(h2:ZS w1 x.vo y.os)(h3:x.b=y.b)(hu:∀g,x.vu.ownBlock=some g->w.heap.size<=g/\g<w1.heap.size)(ho:∀g,x.vo.ownBlock=some g->w.heap.size<=g/\g<w1.heap.size)(hg:w1.grownBy w4 v.ownBlock)(K:v4.ownBlock=v.ownBlock\/∃k,v4.ownBlock=some k/\w1.heap.size<=k):zIE w4 v4 (vs++[x]) (U++[y]):=by
 have H:∀g,g<w1.heap.size->v.ownBlock≠some g->v4.ownBlock≠some g:=fun g h1 h2 e=>by
  rcases K with h|⟨k,h,hk⟩
  ·exact h2 (h.symm.trans e)
  ·rw[h] at e;injection e with e;omega
 have hz:=hb.size;have q:=hg.size;have hx:∀g,w.heap.size<=g->v.ownBlock≠some g:=fun g hg e=>Jy (hv g e)
 refine⟨by simp[h.1],fun i hi=>?_⟩;by_cases e:i<vs.length
 ·rw[zNW e,zJY (by rw[<-h.1];exact e)];obtain⟨⟨q1,q2,q3⟩,q4,q5⟩:=h.2 i e;refine⟨⟨(q1.below hb).grown hg (fun g e=>(q4 g e).1),(q2.below hb).grown hg (fun g e=>(q5 g e).1),q3⟩,fun g e=>⟨H g (Jy ((q4 g e).2)) (q4 g e).1,Jy ((q4 g e).2)⟩,fun g e=>⟨H g (Jy ((q5 g e).2)) (q5 g e).1,Jy ((q5 g e).2)⟩⟩
 ·have e1:i=vs.length:=by simp at hi;omega
  subst e1;have e2:atU (U++[y]) vs.length=y:=by rw[h.1];exact zJZ
  rw[zNX,e2];refine⟨⟨h1.grown hg (fun g e=>hx g (hu g e).1),h2.grown hg (fun g e=>hx g (ho g e).1),h3⟩,fun g e=>⟨H g (hu g e).2 (hx g (hu g e).1),Jy ((hu g e).2)⟩,fun g e=>⟨H g (ho g e).2 (hx g (ho g e).1),Jy ((ho g e).2)⟩⟩
theorem zJa(v:Value)(ws:List JZ)(w:JY)(hs:ZO w v ws)(hz:∀x∈ws,x.size<=maxLen):Calls prog 49 #[v] w (zOt w ws):=
 zP0 49 v ws w hs hz (fun a c n w h=>zOz a c n w h) (fun g c n k t l sd w h1 h2 h3 h4 h5 h6=>zNU g c n k t l sd w h1 h2 h3 h4 h5 h6)
theorem zSM{s:JZ}(h:20000<s.size):zy s [] [] ByteArray.empty 1 0:=yS ⟨h,rfl,rfl,rfl,rfl,rfl⟩
theorem zSN(c:UInt8)(s:JZ):∀(n a:Nat),s.size-a<n->a<=s.size->∀p∈pcs c s a,p.1<=p.2/\p.2<=s.size
 |0,a,hn,ha=>Jo
 |n+1,a,hn,ha=>by
  obtain⟨g1,g2,g3,g4⟩:=zAc c s a ha;rw[zAw c s a ha];intro p hp;rcases List.mem_cons.1 hp with rfl|hp
  ·exact⟨g1,g2⟩
  ·by_cases h:nx c s a<s.size
   ·rw[yQ h] at hp;exact zSN c s n _ Jo Jo p hp
   ·rw[yP h] at hp;cases hp
theorem zSO{ls:List LnR}{k:Nat}(h:k<ls.length):(plc ls).drop k=((atL ls k).f,(atL ls k).t)::(plc ls).drop (k+1):=by
 have hl:k<(plc ls).length:=by simpa[plc] using h
 rw[List.drop_eq_getElem_cons hl];congr 1;simp[plc,atL,yn,yr h]
theorem zNY{s:JZ}{ls:List LnR}{k:Nat}(h:k<ls.length){us:List JZ}(ht:zFA s ((plc ls).drop k) (k+1) us os)(hn:wsL s ls k≠[zAK]):(∀us' os',zBA (wsL s ls k) us os us' os'->zFA s ((plc ls).drop (k+1)) (k+1+1) us' os')/\((∀us' os',¬ zBA (wsL s ls k) us os us' os')->zy s [] [] ByteArray.empty 2 ((k+1:Nat):Int)):=by
 rw[zSO h] at ht;exact⟨fun us' os' hl=>ht.next hn hl,fun hl=>ht.bad hn hl⟩
theorem zSP{U:Nat}{vu vo:Value}{us:List JZ}{b x:JZ}{w1 w4:JY}{g4 c4:Nat}(h:UnM w B U vu vo us os b)(hb:Qb w w1)(H:w4.ownsRow B 9 1 (Ql g4 (us.length+1) c4) (us.length+1) (ZM us++ZM [x]))(hg:w1.grownBy w4 vu.ownBlock)(k:vu.ownBlock=some g4\/g4=w1.heap.size):UnM (w4.setCell (Qa U 0) (Ql g4 (us.length+1) c4)) B U (Ql g4 (us.length+1) c4) vo (us++[x]) os b/\Below B w (w4.setCell (Qa U 0) (Ql g4 (us.length+1) c4)):=by
 have hr:Ze w4 B (Ql g4 (us.length+1) c4) (us++[x]):=by
  unfold Ze;rw[Zg,yq];exact H
 exact h.putU hb hg hr (k.imp (fun e=>e.symm) (fun e=>⟨g4,rfl,Jo⟩))
theorem zEJ(s:JZ)(w:JY)(hs:s.size<=maxLen):Calls prog 38 #[Qs s] w (zGw w s):=by
 by_cases V:20000<s.size
 ·have hU:(20000:Int)<(s.size:Int):=Jo;have HP:=zB (fun w'=>zBU (w:=w) (w':=w') (zSM V));unfold maxLen at hs;clear V;go_enter func38,ntmps38;go_wp2;refine yN (v:=.tuple #[.agg #[.slice none 0 0,.slice none 0 0,Qs ⟨#[]⟩],Qi 1,Qi 0]) ?res rfl (HP _ ?_);case res=>simp[results,results38,go_sem]
  first
   |exact zC _ _
   |exact zM (yk _) [.slice none 0 0,.slice none 0 0,Qs ⟨#[]⟩] 0 _ (zC _ _)
 have Hc:s.size<=20000:=Jo;have hU:¬ (20000:Int)<(s.size:Int):=Jo;clear V hs;obtain⟨iS,hM,hh,hp,ha⟩:=zS zEd;have HI:=zB hM;have HZ:=zB (yK hh (yK hp ha));obtain⟨iO,hP,hd,hm,hf⟩:=zS zEb;have Hg:=zB hP;have hw:=zB (yK hd (yK hm hf));clear hM hh hp ha hP hd hm hf;have HL:=zB (zH9 s (w.alloc (.cells #[.slice none 0 0,.slice none 0 0,Qs ⟨#[]⟩] 89)) Jo);have hI:=zB (show zGx (w.alloc (.cells #[.slice none 0 0,.slice none 0 0,Qs ⟨#[]⟩] 89)) w.heap.size from⟨Jg,Jg,Jg,fun o=>Jg⟩);go_enter func38,ntmps38;go_wp2_with fail;go_call zA HL as e w1 ⟨g,c,ls,rfl,hg,hgl,HOP,HST,HPL,hll,hb1⟩;have hO:Hid (Qb w w1):=(zC _ _).trans (hb1.mono Js);have hH:=zB (hI.below hb1 Js);have z1:w.heap.size+1<=w1.heap.size:=Jz hb1.size
 have Hp:w.heap.size+1<=g:=Ju hg
 have hD:=zB (zIC s g c ls w1 Jo HOP HST);clear hb1 HL hI hg;go_wp2_with fail;go_call zA hD as e w1' ⟨rb,rfl,hbeg,hx⟩;obtain rfl:=hx.symm;clear hx hD;have hC:=zB (by rw[List.drop_zero,zA HPL];exact zFA.start Hc:zFA s ((plc ls).drop 0) (0+1) [] []);have Hh:=zB (show ∀i,i<ls.length->(atL ls i).t<=s.size from fun i hi=>by
  have:=zSN 10 s (s.size+1) 0 Jo (ym _) ((atL ls i).f,(atL ls i).t) (by rw[<-zA HPL];exact List.mem_map.2 ⟨atL ls i,zFv hi,rfl⟩)
  exact this.2)
 have hA:∃E:Nat,E<=ls.length/\(∀j,j<E->wsL s ls j≠[zAK])/\((rb = -1/\E=ls.length)\/(rb=(E:Int)/\E<ls.length/\wsL s ls E=[zAK])):=by
  rcases hbeg with⟨h1,h2⟩|⟨i,h1,h2,h3,h4⟩
  ·exact⟨ls.length,yk _,h2,yS ⟨h1,rfl⟩⟩
  ·exact⟨i,Jo,h4,yU ⟨h2,h1,h3⟩⟩
 obtain⟨E,hE,hF,hX⟩:=hA;have Hf:=zB hF;have h8:Hid (Qb w1 (((w1.alloc (.cells #[] 9)).alloc (.cells #[] 33)).alloc (.cells #[Ql w1.heap.size 0 0,Ql (w1.heap.size+1) 0 0,Qs ⟨#[]⟩] 89))):=((zC _ _).alloc Js _).alloc Jq _;have hQ:=zB (show UnM (((w1.alloc (.cells #[] 9)).alloc (.cells #[] 33)).alloc (.cells #[Ql w1.heap.size 0 0,Ql (w1.heap.size+1) 0 0,Qs ⟨#[]⟩] 89)) w1.heap.size (w1.heap.size+1+1) (Ql w1.heap.size 0 0) (Ql (w1.heap.size+1) 0 0) [] [] ⟨#[]⟩ from
  ⟨Jg,Jg,Jg,fun o=>Jg,Jo,by
   have:=((yG (base:=w1.heap.size) (e:=9) (size:=1) w1 #[] 0 (yk _) (ym _) rfl).alloc (.cells #[] 33)).alloc (.cells #[Ql w1.heap.size 0 0,Ql (w1.heap.size+1) 0 0,Qs ⟨#[]⟩] 89)
   simpa[Ze,ZM] using this,by
   have:=(yG (base:=w1.heap.size) (e:=33) (size:=4) (w1.alloc (.cells #[] 9)) #[] 0 Js (ym _) rfl).alloc (.cells #[Ql w1.heap.size 0 0,Ql (w1.heap.size+1) 0 0,Qs ⟨#[]⟩] 89)
   simpa[zAo,zl] using this,(by simp[Value.ownBlock];omega),Jb,fun q e e2=>by simp[Value.ownBlock] at e e2;omega⟩)
 clear hbeg hF;rcases hX with⟨hS,b⟩|⟨hS,b,hK⟩;all_goals subst hS
 rotate_left
 have Hy:¬ (E:Int)<0:=Jo;have Hn:(E:Int)<(ls.length:Int):=Jo;have Ha:=zB hK;clear hK;rotate_left
 have hN:=zB b;clear b;all_goals
  go_wp2_with fail
  go_loopw [9] (fun i wr=>∃(k:Nat)(us:List JZ)(os:List OpR)(vu vo:Value),k<=E/\i=Qi k/\us.length<=k/\os.length<=k/\Hid (zFA s ((plc ls).drop k) (k+1) us os)/\Hid (UnM wr w1.heap.size (w1.heap.size+1+1) vu vo us os ⟨#[]⟩)/\Qb w1 wr) (fun i _=>E-(intOf i).toNat)
  case atStart=>exact⟨0,[],[],_,_,ym _,rfl,yk _,yk _,hC,hQ,h8⟩
  case round=>
   clear hQ h8 hC;obtain⟨k,us,os,vu,vo,hk,rfl,Hx,Hw,HT,HU,X⟩:=hrel;have Hz:=X.size;have I:Hid (Qb w wr):=hO.trans (X.mono Jo);have Hb:=HU.lt;by_cases hW:k<E
   ·have Hm:(k:Int)<(E:Int):=Jo;have S:k<ls.length:=Jo;have Hk:(k:Int)<(ls.length:Int):=Jo;obtain⟨o0,_,_⟩:=(HOP.below X hgl) k S;obtain⟨ws,d⟩:=Jx (wsL s ls k);have hu:ZO wr (atL ls k).wv ws:=by rw[d];exact(HST _ (zFv S)).below X
    have h9:∀x∈ws,x.size<=maxLen:=fun x hx=>by
     rw[d] at hx;have h1:=zGz hx;rw[Za] at h1;unfold maxLen;omega
    obtain⟨h7,L⟩:=zNY S HT (Hf k hW);rw[<-d] at h7 L;have M:=zB h7;have J:=zB L;have ht:=zB (zJa _ ws wr hu h9);have hb:∀q n c,(atL ls k).wv = Ql q n c->n≠0->q<w1.heap.size:=fun q n c e hn=>by
     obtain⟨a',c',h6,h'⟩:=(zA HST) _ (zFv S);rw[e] at h6;simp only[Value.slice.injEq] at h6;obtain⟨h1,h2,_⟩:=h6;rcases h' with h'|⟨q',h3,h4,_⟩
     ·omega
     ·rw[h3] at h1;simp only[Option.some.injEq,Addr.mk.injEq] at h1;omega
    have C:=zB hb;have F:=zB hu;obtain⟨aw,cw,hv,_⟩:=hu;rw[hv] at o0 ht F C;have Hq:=zB d;clear d h9 h7 L hv HT hb;go_wp2_with fail;go_call zA ht as e w2 ⟨o,ok,rfl,hcase,hb2⟩;have K:=zB (HU.below hb2);have z2:=hb2.size;have Z:Hid (Qb w1 w2):=X.trans (hb2.mono Jo);have he:Hid (Qb w w2):=I.trans (hb2.mono Jo);have y:=zB (F.below hb2);have hJ:=K.lt;clear hb2 ht HU F I X o0 Hb;rcases hcase with⟨rfl,ho⟩|⟨rfl,ho⟩
    ·have HO:=zB ho;obtain⟨ao,co,rfl⟩:∃a c,vo=.slice a os.length c:=zR K.ro;have u1:=K.c1;clear ho J;go_wp2_with (at_builtin;refine yL _ rfl (.tmp 46) (.tmp 48) 61 rfl w1.heap.size 33 iO _ 4 40 underlying61 Hg hw.1 hw.2.1 hw.2.2 rfl Jd _ os.length (zl os) rfl (K.ro.below ((zC _ _).alloc Js _)) (Qa (w2.heap.size+1) 0) 1 1 (zl [o]) rfl rfl (fun j u hj=>(Ju (zD9 (w2.alloc (.cells #[Qs o.s,Qi o.k,Qi o.l,Qi o.sd] 33)) o j u hj))) (zAi _) ?b1 ?b2 ?b3 ?next);case b1=>exact Jm
     case b2=>omega
     case b3=>simp;omega
     case next=>
      intro v4 w4 Q H N P;have hy:Qb w2 ((w2.alloc (.cells #[Qs o.s,Qi o.k,Qi o.l,Qi o.sd] 33)).alloc (.cells #[Qs o.s,Qi o.k,Qi o.l,Qi o.sd] 33)):=(zC _ _).alloc Js _;obtain⟨kc,kf⟩:=K.keep hy (yU rfl) H;have m0:=(kc 1).trans u1;have g1:=kf 1;have hR:zAo w4 w1.heap.size v4 (os++[o]):=by
       unfold zAo;rw[zAS,yq];exact Q
      obtain⟨G,m⟩:=K.putO hy H hR (P.imp id (fun e=>⟨_,e,Js⟩));obtain⟨g4,c4,rfl⟩:=zDE Q (by simp[N]);have hz:=zB G;have hr:Hid (Qb w1 _):=Z.trans m;clear Q H P N kc kf hy G m hR u1;go_wp2_with fail;refine⟨⟨k+1,us,os++[o],_,_,Jo,Jn,Jo,Jq,zB (M _ _ (yU (yU ⟨o,HO,rfl,rfl⟩))),hz,hr⟩,Ji⟩
    ·have A:=zB ho;clear ho;by_cases Y:∃x,ws=[zMy,x]
     ·obtain⟨x,rfl⟩:=Y;obtain⟨gw,cw',R,hB,hc⟩:=y.lt Js;simp only[Value.slice.injEq] at R;obtain⟨rfl,_,rfl⟩:=R;have k0:w2.cell? (Qa gw 0)=some (Qs ⟨#[117,115,101]⟩):=hc 0 _ rfl;have k1:w2.cell? (Qa gw 1)=some (Qs x):=hc 1 _ rfl;have Hj:gw<w1.heap.size:=(zA C) gw _ _ rfl Js;have Hv:gw≠w1.heap.size+1+1:=Jo;have Hu:Hid (vu.ownBlock≠some gw):=fun e=>Jy ((K.ru.lt gw e).1)
      obtain⟨au,cu,rfl⟩:=zR K.ru;have u0:=K.c0;have hY:[zMy,x].length=2:=rfl;rw[hY];have Hi:(w2.alloc (.cells #[Qs o.s,Qi o.k,Qi o.l,Qi o.sd] 33)).cell? (Qa (w1.heap.size+1+1) 0)=some (.slice au us.length cu):=((zC w2 _).cell (p:=(Qa (w1.heap.size+1+1) 0)) hJ).trans u0;have k6:=fun o'=>((zC (w2.alloc (.cells #[Qs o.s,Qi o.k,Qi o.l,Qi o.sd] 33)) o').cell (p:=(Qa (w1.heap.size+1+1) 0)) Jq).trans Hi
      clear hc A J y C;go_wp2_with fail;go_region_law (refine step_append_lies _ (by rfl) (.tmp 61) (.tmp 65) 87 (by rfl) w1.heap.size 9 iS _ 1 16 underlying87 HI HZ.1 HZ.2.1 HZ.2.2 rfl Jd _ us.length (ZM us) (by rfl) (K.ru.below (((zC _ _).alloc Js _).drew)) (Qa (w2.heap.size+1) 0) 1 1 (ZM [x]) (by rfl) rfl (fun j u hj=>(Ju (zAz (w2.alloc (.cells #[Qs o.s,Qi o.k,Qi o.l,Qi o.sd] 33)) x j u hj))) (Z3 _) Jd Jm Jo Jq _ rfl ?_;intro g4 c4 w4 Q H P hG;obtain⟨kc,kf⟩:=K.keep ((zC _ _).alloc Js _).drew (yS rfl) H;have m0:=(kc 0).trans u0;have g0:=kf 0;obtain⟨G,m⟩:=zSP K ((zC _ _).alloc Js _).drew Q H P;have hz:=zB G;have hr:Hid (Qb w1 _):=Z.trans m;clear Q H P hG kc kf G m);all_goals
       go_wp2_with fail
       refine⟨⟨k+1,us++[x],os,_,_,Jo,Jn,Jq,Jo,zB (M _ _ (yU (yS ⟨x,rfl,rfl,rfl⟩))),hz,hr⟩,Ji⟩
     ·have O:ws.length≠0->∀us' os',¬ zBA ws us os us' os':=fun h0 us' os' hl=>by
       rcases hl with⟨e,_⟩|⟨x,e,_⟩|⟨o',e,_⟩
       ·exact h0 (by rw[e];rfl)
       ·exact Y ⟨x,e⟩
       ·exact A o' e
      by_cases h0:ws.length=0
      ·have e0:ws=[]:=jd.1 h0;have He:=zB (M us os (yS ⟨e0,rfl,rfl⟩));rw[h0];clear O e0 h0 Y M J A y C;go_wp2_with fail;exact⟨⟨k+1,us,os,vu,vo,Jo,Jn,Jo,Jo,He,zB (K.below (zC _ _)),Z.alloc Jo _⟩,Ji⟩
      ·have U:=zB (J (O h0));obtain⟨gw,cw',R,hB,hc⟩:=y.lt Jo;simp only[Value.slice.injEq] at R;obtain⟨rfl,_,rfl⟩:=R;obtain⟨q,hq⟩:∃q,ws[0]?=some q:=⟨_,yr Jo⟩;have k0:=hc 0 q hq;have h5:((ws.length:Int)==2)=false\/(((ws.length:Int)==2)=true/\(q.toList==[117,115,101])=false):=by
        by_cases e:ws.length=2
        ·right;refine⟨Jq,zGS (fun ek=>?_)⟩;match ws,e,hq with
         |[p1,p2],_,hq=>
          simp at hq;exact Y ⟨p2,by rw[hq,ek];rfl⟩
        ·left;simp;omega
       have Hl:(0:Int)<(ws.length:Int):=Jo;have HP:=zB (fun w'=>zBU (w:=w) (w':=w') U);obtain⟨x0,x1,x2,x3⟩:zGx (w2.alloc (.cells #[Qs o.s,Qi o.k,Qi o.l,Qi o.sd] 33)) w.heap.size:=(hH.below Z Jo).below (zC w2 _) Jo;have x30:=x3 0;have x31:=x3 1;have x32:=x3 2;clear O h0 Y M J A y C hc hq x3;rcases h5 with hZ|⟨hZ,Hs⟩;all_goals
        go_wp2_with fail
        refine yN (v:=.tuple #[.agg #[.slice none 0 0,.slice none 0 0,Qs ⟨#[]⟩],Qi 2,Qi ((k+1:Nat):Int)]) ?res rfl (HP _ ?_)
        case res=>simp[results,results38,go_sem,x0,x1,x2]
        first
         |exact he.alloc Jo _
         |exact zM (yk _) [.slice none 0 0,.slice none 0 0,Qs ⟨#[]⟩] 0 _ (he.alloc Jo _)
   ·have r:k=E:=Jo;have hV:¬ (k:Int)<(E:Int):=Jo;obtain⟨x0,x1,x2,x3⟩:zGx wr w.heap.size:=hH.below X Jo;have x30:=x3 0;have x31:=x3 1;have x32:=x3 2;clear x3
    first
    |(
      have U:=zB (show zy s [] [] ByteArray.empty 3 0 by
       have h:=zA HT
       rw[r,zA hN,List.drop_eq_nil_of_le (by simp[plc])] at h
       exact h.fin)
      have HP:=zB (fun w'=>zBU (w:=w) (w':=w') U)
      have Ht:¬ (k:Int)<(ls.length:Int):=Jy (zA hN)
      clear r hV
      go_wp2_with fail
      refine yN (v:=.tuple #[.agg #[.slice none 0 0,.slice none 0 0,Qs ⟨#[]⟩],Qi 3,Qi 0]) ?res rfl (HP _ ?_)
      case res=>simp[results,results38,go_sem,x0,x1,x2]
      first
       |exact I
       |exact zM (yk _) [.slice none 0 0,.slice none 0 0,Qs ⟨#[]⟩] 0 _ I)
    |(
      obtain⟨T,hT⟩:=Jx ((atL ls E).t)
      have Ho:T<=s.size:=by rw[hT];exact Hh E b
      have U:=zB (show zy s us os (zBa s T) 0 0 by
       have h:=zA HT
       rw[r,zSO b] at h
       have h2:=h.begin Ha
       rw[hT]
       exact h2)
      obtain⟨_,_,o2⟩:=(HOP.below X hgl) E b
      rw[<-hT] at o2
      obtain⟨au,cu,rfl⟩:=zR HU.ru
      obtain⟨ao,co,rfl⟩:∃a c,vo=.slice a os.length c:=zR HU.ro
      have u0:=HU.c0
      have u1:=HU.c1
      have u2:=HU.c2
      have f2:=HU.fz 2
      obtain⟨ans1,ans2⟩:=zGy (b':=zBa s T) Jo HU I U Jo Jo
      have e1:w1.heap.size+1+1≠w.heap.size:=Jo
      have e2:w.heap.size≠w1.heap.size+1+1:=Jo
      by_cases W:T<s.size
      ·have Hd:(T:Int)<(s.size:Int):=Jo
       have Hr:(T:Int)+1<=(s.size:Int):=Jo
       have B:zBa s T=s.extract (T+1) s.size:=by unfold zBa;rw[yQ W]
       rw[B] at ans1
       have D:=zB ans1
       clear ans1 ans2 B r U hT W
       go_wp2_with fail
       refine yN (v:=.tuple #[.agg #[.slice au us.length cu,.slice ao os.length co,Qs (s.extract (T+1) s.size)],Qi 0,Qi 0]) ?res rfl D
       case res=>simp[results,results38,go_sem,x0,x1,x2,e1,e2,u0,u1,u2]
      ·have Hd:¬ (T:Int)<(s.size:Int):=Jo
       have B:zBa s T=⟨#[]⟩:=by unfold zBa;rw[yP W];rfl
       rw[B] at ans2
       have D:=zB ans2
       clear ans1 ans2 B r U hT W
       go_wp2_with fail
       refine yN (v:=.tuple #[.agg #[.slice au us.length cu,.slice ao os.length co,Qs ⟨#[]⟩],Qi 0,Qi 0]) ?res rfl D
       case res=>simp[results,results38,go_sem,x0,x1,x2,e1,e2,u0,u1,u2])
theorem zO1(w:JY):zBt (w.alloc (.cells #[] 89)) w.heap.size (Ql w.heap.size 0 0) []:=by
 have:=yG (base:=w.heap.size) (e:=89) (size:=3) w #[] 0 (yk _) (ym _) rfl;simpa[zBt,Zz] using this
def zUS(w:JY)(ms:List zH)(e:Ending)(w':JY):Prop:=∃(g c:Nat)(vs:List UvR)(U:List UnR),e=.returned (Ql g vs.length c)/\w.heap.size<=g/\g<w'.heap.size/\vs.length=ms.length/\Hid (zNV w' g vs)/\Hid (zCu w' w'.heap.size vs U)/\Hid (Zo ms U)/\Qb w w'
def zXJ(ms:List zH)(U:List UnR)(k:Nat):Prop:=U.length=k/\∀i,i<k->zy (atM ms i).t (atU U i).us (atU U i).os (atU U i).b 0 0
theorem zFS(a:Option Addr)(c0:Nat)(ms:List zH)(w:JY)(hn:ms.length<=100)(hM:zB3 w a ms)(hz:zBk ms)(Y:∀i,i<ms.length->¬ B2 ms i):Calls prog 18 #[.slice a ms.length c0] w (zUS w ms):=by
 obtain⟨i0,o,I,l,M⟩:=zS zSL;have HI:=zB o;have HZ:=zB (yK I (yK l M));have HM:=zB hM;have HG:=zB Y;have r:=zB hz;clear o I l M hM Y hz;have HE:=zB (zO1 w);go_enter func18,ntmps18;go_wp2;go_loopw [3,4] (fun s i wr=>∃(k g c:Nat)(vs:List UvR)(U:List UnR),k<=ms.length/\i=Qi k/\s = Ql g vs.length c/\vs.length<=k/\Hid (vs.length=k)/\Hid (zXJ ms U k)/\Hid (zBt wr w.heap.size (Ql g vs.length c) vs)/\Hid (zIE wr (Ql g vs.length c) vs U)/\Qb w wr) (fun _ i _=>ms.length-(intOf i).toNat);case atStart=>exact⟨0,w.heap.size,0,[],[],ym _,rfl,rfl,yk _,zB rfl,zB ⟨rfl,fun i hi=>Jo⟩,HE,zB ⟨rfl,fun i hi=>yR hi (yx i)⟩,zC _ _⟩
 case round=>
  clear HE;obtain⟨k,g,c,vs,U,hk,rfl,rfl,Z,m,B,HR,V,H⟩:=hrel;by_cases C:k<ms.length
  ·have T:(k:Int)<(ms.length:Int):=Jo;rcases zA HM with h|⟨b,W,rfl,p,hB⟩
   ·omega
   obtain⟨m0,m1⟩:=(p k C).below H hB;have hg:=(HR.lt g rfl).2;have F:=zB (zEJ (atM ms k).t wr (r k C).2);clear p;go_wp2_with fail;go_call zA F as e w1 ⟨vu,vo,us,os,b',c',l',rfl,hi1,ru1,ro1,hne1,hlu,hlo,hb1⟩;obtain⟨rfl,rfl,_,_⟩:=zSA (HG k C) hi1;obtain⟨a1,c1,rfl⟩:=zR ru1;obtain⟨a2,c2,rfl⟩:∃a c,vo=.slice a os.length c:=zR ro1;have z1:=hb1.size;have J:=zB hb1;have G:=zB ru1.strs;have E:=zB ro1.ops;have L:=zB (fun q e=>ru1.lt q e);have f:=zB (fun q e=>ro1.lt q e);have R:=zB hi1;clear hi1 ru1 ro1 hne1 hb1 F m0 m1;go_wp2_with (at_builtin;refine yL _ rfl (.tmp 25) (.tmp 27) 51 rfl w.heap.size 89 i0 _ 3 64 underlying51 HI HZ.1 HZ.2.1 HZ.2.2 rfl Jd _ vs.length (Zz vs) rfl ((HR.below J).below ((zC _ _).alloc Js _)) (Qa (w1.heap.size+1) 0) 1 1 (Zz [⟨.slice a1 us.length c1,.slice a2 os.length c2,b'⟩]) rfl rfl (fun j u hj=>(Ju (zHh (w1.alloc (.cells #[.slice a1 us.length c1,.slice a2 os.length c2,Qs b'] 89)) ⟨.slice a1 us.length c1,.slice a2 os.length c2,b'⟩ j u hj))) (fun u hu=>by simp[Zz] at hu;rcases hu with rfl|rfl|rfl<;>rfl) ?b1 ?b2 ?b3 ?next);case b1=>exact Jm
   case b2=>omega
   case b3=>have:=H.size;simp;omega
   case next=>
    intro v4 w4 Q K d P;have X:Qb w1 ((w1.alloc (.cells #[.slice a1 us.length c1,.slice a2 os.length c2,Qs b'] 89)).alloc (.cells #[.slice a1 us.length c1,.slice a2 os.length c2,Qs b'] 89)):=(zC _ _).alloc Js _;have HO:=zB (show zBt w4 w.heap.size v4 (vs++[⟨.slice a1 us.length c1,.slice a2 os.length c2,b'⟩]) by
     unfold zBt
     rw[zF9,yq]
     exact Q)
    have n:=zB (zIE.step (x:=⟨.slice a1 us.length c1,.slice a2 os.length c2,b'⟩) (y:=⟨us,os,b'⟩) V (J.trans (X.mono z1)) (fun q e=>by have e':g=q:=(by simpa[Value.ownBlock] using e);omega) (G.below X) (E.below X) rfl (fun q e=>by have:=(zA L) q e;simp;omega) (fun q e=>by have:=(zA f) q e;simp;omega) K (P.imp id (fun h=>⟨_,h,Js⟩)));have D:Qb w w4:=(H.trans ((J.trans (X.mono z1)).mono H.size)).grown K (by have:=H.size;simp;omega) (fun q hq=>(HR.lt q hq).1);obtain⟨g4,c4,rfl⟩:∃g4 c4,v4 = Ql g4 (vs++[(⟨.slice a1 us.length c1,.slice a2 os.length c2,b'⟩:UvR)]).length c4:=by
     obtain⟨_,⟨_,h2⟩|⟨g',cap,ha,h1,_⟩⟩:=zA HO
     ·simp at h2
     ·exact⟨g',cap,h1⟩
    have N:=zB (show zXJ ms (U++[⟨us,os,b'⟩]) (k+1) by
     obtain⟨t1,t2⟩:=zA B
     refine⟨by simp[t1],fun i hi=>?_⟩
     by_cases e:i<k
     ·rw[zJY Jo];exact t2 i e
     ·have e1:i=U.length:=Jo
      have e2:atU (U++[⟨us,os,b'⟩]) i=⟨us,os,b'⟩:=by rw[e1];exact zJZ
      rw[e2]
      have e3:i=k:=Jo
      rw[e3]
      exact R)
    obtain⟨A,v⟩:∃A,Hid (A=vs++[(⟨.slice a1 us.length c1,.slice a2 os.length c2,b'⟩:UvR)]):=⟨_,zB rfl⟩;have e4:=zA v;rw[<-e4] at HO n;rw[<-e4];clear e4 Q K d P G E L f J HR V B X;go_wp2;refine⟨⟨k+1,g4,c4,A,U++[⟨us,os,b'⟩],Jo,Jn,rfl,?_,zB ?_,N,HO,n,D⟩,Ji⟩
    ·rw[zA v];simp;omega
    ·have:=zA m;rw[zA v];simp;omega
  ·have S:k=ms.length:=Jo;have HF:=zB (show Zo ms U by
    obtain⟨t1,t2⟩:=zA B
    exact⟨Jo,fun i hi=>t2 i Jo⟩)
   have O:=zB (by have:=zA m;omega:vs.length=ms.length);clear S;go_wp2;go_ret;have hg:=HR.lt g rfl;exact⟨g,c,vs,U,rfl,hg.1,hg.2,O,zB HR.ops,zB V.at,HF,H⟩
def nmI(ms:List zH)(u:JZ):Int:=if nmF ms u<ms.length then(nmF ms u:Int) else -1
theorem zWJ{a b:JZ}(h:a≠b):(a.toList==b.toList)=false:=by
 cases e:(a.toList==b.toList)
 ·rfl
 ·exact yR (zEA (Ju e)) h
theorem zFT(a:Option Addr)(c:Nat)(ms:List zH)(u:JZ)(w:JY)(hn:ms.length<=1048576)(hM:zB3 w a ms):Calls prog 40 #[.slice a ms.length c,Qs u] w fun e w'=>e=.returned (Qi (nmI ms u))/\w'=w:=by
 have HM:=zB hM;clear hM;go_enter func40,ntmps40;go_wp2;go_loop [5] (fun i=>∃k:Nat,k<=ms.length/\i=Qi k/\Hid (∀j,j<k->(atM ms j).n≠u)) (fun i=>ms.length-(intOf i).toNat);case atStart=>exact⟨0,ym _,rfl,zB (fun j h=>Jo)⟩
 case round=>
  obtain⟨k,hk,rfl,hb⟩:=hrel;by_cases H:k<ms.length
  ·have q:(k:Int)<(ms.length:Int):=Jo;rcases zA HM with h|⟨b,Q,rfl,K,hB⟩
   ·omega
   obtain⟨m0,m1⟩:=K k H;by_cases e:(atM ms k).n=u
   ·subst e;have HR:=zB (show nmI ms (atM ms k).n=(k:Int) by
     unfold nmI
     rw[zP2 H rfl (zA hb),yQ H])
    go_wp2;go_ret;exact⟨zF HR.symm,rfl⟩
   ·have ne:=zWJ e;have HX:=zB (show ∀j,j<k+1->(atM ms j).n≠u from fun j hj=>by
     by_cases e2:j=k
     ·subst e2;exact e
     ·exact hb j Jo)
    clear e;go_wp2;exact⟨⟨k+1,Jo,Jn,HX⟩,Ji⟩
  ·have HR:=zB (show nmI ms u = -1 by
    unfold nmI
    rw[zR7 (fun j hj=>(zA hb) j Jo),yP (Nat.lt_irrefl _)])
   go_wp2;go_ret;exact⟨zF HR.symm,rfl⟩
end Go.Proofs.YtadiaghhackbjaaGreatDoor
