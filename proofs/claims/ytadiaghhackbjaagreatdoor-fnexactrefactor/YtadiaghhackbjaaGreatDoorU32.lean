import Derived.Test.YtadiaghhackbjaaGreatDoorU30
namespace Go.Proofs.YtadiaghhackbjaaGreatDoor
set_option linter.all false
set_option maxHeartbeats 0
set_option maxRecDepth 100000
open Proofs.Tryz RowKit
theorem zRT(w:JY)(c:UInt8):∀j u,(ZN [c])[j]?=some u->(w.alloc (.cells #[.int .u8 (c.toNat:Int)] 5)).cell? ((Qa w.heap.size 0).add j)=some u:=by
 intro j u hj;rw[Addr.add_mid];have:=yC (w:=w.alloc (.cells #[.int .u8 (c.toNat:Int)] 5)) (b:=w.heap.size) (heap_alloc_new w _) 0 1;exact this j u (by simpa[ZN] using hj)
def zVl(ws:List ZG)(k:Nat):Bool:=decide (k≠0)&&zQ0 (atW ws (k-1)) (atW ws k)
theorem zTm(ws:List ZG)(k:Nat):zCr ws (k+1)=(zCr ws k++(if zVl ws k then[32] else[]))++(atW ws k).t.data.toList:=by
 simp only[zCr,zVl,ne_eq,Bool.and_eq_true,decide_eq_true_eq,decide_not,Bool.not_eq_true',yW,yA]
theorem zKo(b hl cap bn O cn:Nat)(ns:List OpR)(xs:List zD)(w:JY)(hm:ns.length<=1048576)(hW:xs.length<=1048576)(hw:Ops w b hl ns)(h6:ZA ns)(hB:b<w.heap.size)(hJ:Zv w bn O xs)(hK:zBb xs)(Hc:bn<w.heap.size):Calls prog 25 #[.agg #[.slice (some (Qa b hl)) ns.length cap],.agg #[.slice (some (Qa bn O)) xs.length cn]] w fun e w'=>(∃(s:JZ)(v:Bool),e=.returned (.tuple #[Qs s,.bool v])/\Hid (zCa ns xs s v))/\Below w.heap.size w w':=by
 obtain⟨i0,hi,hN,hO,hP⟩:=info_parts infoByte;have HI:=zB hi;have J:=zB (yK hN (yK hO hP));clear hi hN hO hP;have HW:=zB hw;have hC:=zB hJ;have HZ:=zB h6;have hZ:=zB hK;have hd:Hid (∀o1 o2:Obj,Below w.heap.size w ((w.alloc o1).alloc o2)):=fun o1 o2=>(zC w o1).alloc Js o2
 clear hw hJ h6 hK;go_enter func25,ntmps25;go_wp2_with fail;go_call zKb b hl cap bn O cn ns xs _ hm hW (HW.below (hd _ _) hB) HZ Jq (hC.below (hd _ _) Hc) hZ Jq as e w1 ⟨⟨a,c,us,v,rfl,Q,hgi⟩,hb1⟩;have U:Below w.heap.size w w1:=((hd) _ _).trans (hb1.mono Jq);clear hb1 hd HW hC;rcases zA hgi with⟨hy,rfl,hQ⟩|⟨hn,rfl,rfl⟩;case inr=>
  have HN:=zB hn;clear hn hgi Q;go_wp2_with fail;go_ret2;exact⟨⟨_,_,rfl,zB (yU ⟨HN,rfl,rfl⟩)⟩,U.alloc U.size _⟩
 case inl=>
  obtain⟨G,hG,u,hu,hM,hA,Hb⟩:=zGe hy;have L:us=nd G 0:=hQ.trans hA;have h9:us.length=tsz G:=by rw[L,ZX]
  have hX:=u.sh.pos;obtain⟨g2,rfl,Hu,T⟩:∃g,a=some (Qa g 0)/\w.heap.size+2<=g/\Zn w1 g us us.length:=by
   rcases zA Q with⟨h,_⟩|⟨g,h1,h2,h3⟩
   ·omega
   ·exact⟨g,h1,Ju h2,h3⟩
  have Ha:=T.1;have Hi:1<=us.length:=Jo;have h8:us.length<=20000:=Jo;have ei:(us.length:Int)-1=((us.length-1:Nat):Int):=Jo;obtain⟨W3,F⟩:∃W3,Hid (W3=(w1.alloc (.cells #[Ql g2 us.length c] 70)).alloc (.cells #[] 104)):=⟨_,zB rfl⟩;have hj:Below w1.heap.size w1 W3:=by rw[zA F];exact(zC _ _).alloc Js _
  have s3:W3.heap.size=w1.heap.size+2:=by rw[zA F];simp
  have l:=U.trans (hj.mono U.size);have hH:=zB (show zCC W3 (w1.heap.size+1) (Ql (w1.heap.size+1) 0 0) [] by
   rw[zA F]
   have:=yG (base:=w1.heap.size+1) (e:=104) (size:=3) (w1.alloc (.cells #[Ql g2 us.length c] 70)) #[] 0 Js (ym _) rfl
   simpa[zCC,ZR] using this)
  have hU:=zJ6 G;have S:=zOS g2 0 c ns us (w1.heap.size+1) Jo h8 G u.well 0 [] (yT G) (by rw[L];exact zFw G) Jo Jq Js;rw[yY,<-h9] at S;have P:=zB (S (Ql (w1.heap.size+1) 0 0) W3 (T.ops.below hj Ha) Jo hH);rw[zA F] at P;obtain⟨ws,d⟩:∃ws,Hid (ws=yT G):=⟨_,zB rfl⟩;rw[<-zA d] at P;have Hj:ws.length<=40000:=by rw[zA d,zKH];omega
  have Ho:1<=ws.length:=by rw[zA d];exact zSW u.sh
  have He:=zB (by rw[<-hG,zA d];rfl:(⟨(txT (grT ns (zGd xs) 0)).toArray⟩:JZ)=⟨(zCr ws ws.length).toArray⟩);have Hg:=zB (show ∀k,k<=ws.length->(zCr ws k).length<=20001*k from zJ7 ws (fun x hx=>by
   rw[zA d] at hx
   simp only[yT,List.mem_map] at hx
   obtain⟨q,hq,rfl⟩:=hx
   exact zHt G hu q hq))
  have Hf:=zB (show ∀k,k<ws.length->(atW ws k).t.size<=20000 from fun k hk=>by
   have hx:atW ws k∈ws:=by simp[atW,List.getD,hk]
   rw[zA d] at hx
   simp only[yT,List.mem_map] at hx
   obtain⟨q,hq,e⟩:=hx
   have e':wS q=atW ws k:=by rw[zA d];exact e
   rw[<-e']
   exact zHt G hu q hq)
  have HY:=zB hy;clear hy hgi Q hG u hu hM hA Hb hQ L h9 hX T hU S hH;go_wp2_with fail;refine P.mono ?_;rw[<-zA F];rintro x w4 ⟨u',rfl,hr,hg,ho⟩;obtain⟨g4,c4,rfl⟩:∃g k,u' = Ql g ws.length k:=by
   obtain⟨_,⟨rfl,h0⟩|⟨g,cap,Hs,h,_⟩⟩:=zA hr
   ·omega
   ·exact⟨_,_,h⟩
  have hE:=zB hr.ops;have h5:=(hr.lt g4 rfl).2;have hf:Below w.heap.size w w4:=l.trans ⟨hg.os,hg.tape,hg.output,hg.size,fun i hi=>hg.block i (Jy l.size) (by simp[Value.ownBlock];have:=U.size;omega)⟩;clear hr hg ho P F l hj s3;have HO:=zB (show(w4.alloc (.cells #[] 5)).ownsRow w4.heap.size 5 1 (Ql w4.heap.size 0 0) 0 (ZN (zCr ws 0)) by
   show(w4.alloc (.cells #[] 5)).ownsRow w4.heap.size 5 1 (Ql w4.heap.size 0 0) 0 []
   simpa using yG (base:=w4.heap.size) (e:=5) (size:=1) w4 #[] 0 (yk _) (ym _) rfl)
  go_wp2;go_loopw [9,10] (fun Hd i wr=>∃(k go co n:Nat),k<=ws.length/\i=Qi k/\Hd = Ql go n co/\Hid (n=(zCr ws k).length)/\Hid (wr.ownsRow w4.heap.size 5 1 (Ql go n co) n (ZN (zCr ws k)))/\Below w4.heap.size w4 wr) (fun _ i _=>ws.length-(intOf i).toNat);case atStart=>exact⟨0,w4.heap.size,0,0,ym _,rfl,rfl,zB rfl,HO,zC _ _⟩
  case round=>
   clear HO;obtain⟨k,go,co,n,hk,rfl,rfl,hn,Q,Y⟩:=hrel;by_cases hF:k<ws.length
   ·obtain⟨x0,x1,x2⟩:=(hE.below Y h5) k hF;have Hn:(k:Int)<(ws.length:Int):=Jo;obtain⟨xt,hc⟩:=Jx ((atW ws k).t);obtain⟨xo,hv⟩:=Jx ((atW ws k).o);obtain⟨xi,ht⟩:=Jx ((atW ws k).i);obtain⟨yo,hz⟩:=Jx ((atW ws (k-1)).o);obtain⟨yi,hh⟩:=Jx ((atW ws (k-1)).i);obtain⟨gp,M⟩:∃gp,Hid (gp=zVl ws k):=⟨_,zB rfl⟩;have r:=zB (by rw[zA M,zVl,zQ0,hv,ht,hz,hh]:gp=(decide (k≠0)&&(xi||yi||(xo&&yo))));rw[<-hc] at x0;rw[<-hv] at x1;rw[<-ht] at x2;have hb:=zB (show k≠0->wr.cell? (Qa g4 ((k-1)*3+1))=some (.bool yo)/\wr.cell? (Qa g4 ((k-1)*3+2))=some (.bool yi) from fun h=>by
     obtain⟨_,y1,y2⟩:=(hE.below Y h5) (k-1) Jo
     rw[hz,hh]
     exact⟨y1,y2⟩)
    have Hk:xt.size<=20000:=by rw[hc];exact Hf k hF
    have h7:=zB hc;have hR:=(zA Hg) k Jo;rw[<-zA hn] at hR;have Hl:n<=800040000:=Jo;have hS:g4<wr.heap.size:=yl h5 Y.size;clear hc hv ht hz hh hR;go_upto_region 10 with fail
    go_cut [64] (fun s64 wx=>s64=.bool gp/\wx=wr.alloc (.cells #[Qs xt,.bool xo,.bool xi] 104));case first=>
     clear Q x0 x1 x2;have fin:∀g:Bool,g=gp->Value.bool g=.bool gp:=fun g h=>by rw[h]
     have HF:=zB fin;clear fin;by_cases W:k=0
     ·have HE:=zB (by rw[zA r];simp[W]:false=gp);have hY:¬ (0:Int)<(k:Int):=Jo;clear hb r M W;go_wp2;go_meet;exact⟨HF _ HE,rfl⟩
     ·obtain⟨y1,y2⟩:=(zA hb) W;have HE:=zB (by rw[zA r];simp[W]:(xi||yi||(xo&&yo))=gp);have hY:(0:Int)<(k:Int):=Jo;have Ht:(k:Int)-1=((k-1:Nat):Int):=Jo;have Hq:((k-1:Nat):Int)<(ws.length:Int):=Jo;have y1':=((zC wr (.cells #[Qs xt,.bool xo,.bool xi] 104)).cell (p:=(Qa g4 ((k-1)*3+1))) hS).trans y1;have y2':=((zC wr (.cells #[Qs xt,.bool xo,.bool xi] 104)).cell (p:=(Qa g4 ((k-1)*3+2))) hS).trans y2;clear hb r M W;cases xi
      ·cases yi
       ·cases xo
        ·go_wp2;go_meet;exact⟨HF _ (by rw[<-zA HE];rfl),rfl⟩
        ·go_wp2;go_meet;exact⟨HF _ (by rw[<-zA HE];rfl),rfl⟩
       ·go_wp2;go_meet;exact⟨HF _ (by rw[<-zA HE];rfl),rfl⟩
      ·go_wp2;go_meet;exact⟨HF _ (by rw[<-zA HE];rfl),rfl⟩
    case rest=>
     obtain⟨rfl,rfl⟩:=hcut;have A:=zB (Y.alloc Y.size (.cells #[Qs xt,.bool xo,.bool xi] 104));have I:=zB (Q.kept (Zq (zC wr (.cells #[Qs xt,.bool xo,.bool xi] 104)) none) (yU Jb));have he:=zB (zTm ws k);have Hh:go<wr.heap.size:=(Q.lt go rfl).2;clear Q hb x0 x1 x2 r;cases gp
     ·have m:=zB (by rw[zA he,<-zA M,<-zA h7];simp:zCr ws (k+1)=zCr ws k++xt.data.toList);obtain⟨c1,w6,E,y,C⟩:=zEg (wr.alloc (.cells #[Qs xt,.bool xo,.bool xi] 104)) xt;have N:=zB y;have D:=zB (I.kept (Zq C none) (yU Jb));have B:=zB (A.trans (C.mono A.size));have z6:=B.size;clear y C I A;go_wp2_with (at_builtin;refine wpList_append_own _ rfl (.tmp 68) (.tmp 71) 102 rfl w4.heap.size 5 i0 _ 1 1 underlying102 HI J.1 J.2.1 J.2.2 rfl Jd _ n (ZN (zCr ws k)) rfl D (Qa (wr.heap.size+1) 0) xt.size c1 (ZN xt.data.toList) rfl (by rw[zBl];simp) (Ju (zA N)) (zDG _) ?b1 ?b2 ?b3 ?next);case b1=>exact Jm
      case b2=>omega
      case b3=>exact z6
      case next=>
       intro v7 w7 H K X;have hs:=D.lt go rfl;have f:Below w4.heap.size w4 w7:=B.grown K z6 (fun q hq=>by simp[Value.ownBlock] at hq;omega);obtain⟨g7,q7,rfl⟩:=ZC H (by simp[X]);rw[<-zA1,<-zA m] at H;have h4:=zB H;have hp:=zB (by rw[zA m,yq,<-zA hn];simp:n+xt.size=(zCr ws (k+1)).length);clear H K X N D B E;go_wp2;exact⟨⟨k+1,g7,q7,_,Jo,Jn,rfl,hp,h4,f⟩,Ji⟩
     ·obtain⟨tk,ha⟩:∃tk,Hid (tk=zCr ws k++[32]):=⟨_,zB rfl⟩;have m:=zB (by rw[zA he,<-zA M,<-zA h7,zA ha];simp:zCr ws (k+1)=tk++xt.data.toList);have Hm:tk.length<=800040001:=by rw[zA ha,yq,<-zA hn];simp;omega
      have hV:=zB (by rw[zA ha,yq,<-zA hn];simp:n+1=tk.length);go_wp2_with (at_builtin;refine wpList_append_own _ rfl (.tmp 65) (.tmp 66) 102 rfl w4.heap.size 5 i0 _ 1 1 underlying102 HI J.1 J.2.1 J.2.2 rfl Jd _ n (ZN (zCr ws k)) rfl (I.kept (Zq (zC _ _) none) (yU Jb)) (Qa (wr.heap.size+1) 0) 1 1 (ZN [32]) rfl rfl (Ju (zRT (wr.alloc (.cells #[Qs xt,.bool xo,.bool xi] 104)) 32)) (zDG _) ?b1 ?b2 ?b3 ?next);case b1=>exact Jm
      case b2=>omega
      case b3=>have:=A.size;simp at this ⊢;omega
      case next=>
       intro v5 w5 j V R;have hs:=I.lt go rfl;have Z:Below w4.heap.size w4 w5:=(A.alloc A.size _).grown V (by have:=A.size;simp at this ⊢;omega) (fun q hq=>by simp[Value.ownBlock] at hq;omega);obtain⟨g5,q5,rfl⟩:=ZC j (by simp[R]);rw[<-zA1,<-zA ha] at j;have Hr:go<wr.heap.size+1:=by have:=hs.2;simpa using this
       have y0:w5.cell? (Qa wr.heap.size 0)=some (Qs xt):=V.cell Jg (by simp[Value.ownBlock];omega);obtain⟨c1,w6,E,y,C⟩:=zEg w5 xt;have N:=zB y;have D:=zB (j.kept (Zq C none) (yU Jb));have B:=zB (Z.trans (C.mono Z.size));have z6:=B.size;clear y C I A j V R hs;go_wp2_with (at_builtin;refine wpList_append_own _ rfl (.tmp 68) (.tmp 71) 102 rfl w4.heap.size 5 i0 _ 1 1 underlying102 HI J.1 J.2.1 J.2.2 rfl Jd _ (n+1) (ZN tk) rfl D (Qa w5.heap.size 0) xt.size c1 (ZN xt.data.toList) rfl (by rw[zBl];simp) N (zDG _) ?b4 ?b5 ?b6 ?next2);case b4=>exact Jm
       case b5=>omega
       case b6=>exact z6
       case next2=>
        intro v7 w7 H K X;have hI:=D.lt g5 rfl;have f:Below w4.heap.size w4 w7:=B.grown K z6 (fun q hq=>by simp[Value.ownBlock] at hq;omega);obtain⟨g7,q7,rfl⟩:=ZC H (by simp[X]);rw[<-zA1,<-zA m] at H;have h4:=zB H;have hp:=zB (by rw[zA m,yq,<-zA hV];simp:n+1+xt.size=(zCr ws (k+1)).length);clear H K X N D B E y0 hI;go_wp2;exact⟨⟨k+1,g7,q7,_,Jo,Jn,rfl,hp,h4,f⟩,Ji⟩
   ·have hD:k=ws.length:=Jo;have Hp:=zH4 wr go n co (zCr ws k) hn (zH5 Q);have HK:=zB hD;clear hD;go_wp2;go_ret2;exact⟨⟨_,_,rfl,zB (yS ⟨HY,rfl,by rw[zA He,zA HK]⟩)⟩,hf.trans (Y.mono hf.size)⟩
def chV(o b:OpR):Value:=.agg #[Qs o.s,Qi o.k,Qi o.l,Qi o.sd,Qs b.s,Qi b.k,Qi b.l,Qi b.sd]
theorem zTn{t:JZ}:t=ByteArray.empty↔t.toList.isEmpty=true:=by
 have e:ByteArray.empty.toList=[]:=by simp[ByteArray.toList,ByteArray.toList.loop]
 rw[List.isEmpty_iff];exact⟨fun h=>by rw[h,e],fun h=>zBC (h.trans e.symm)⟩
theorem zOV(q:zAX)(w:JY):Calls prog 55 #[zBQ q] w fun e w'=>(∃v,e=.returned (.bool v)/\(v=true↔zAa q))/\Qb w w':=by
 unfold zBQ;by_cases h1:q.k=1
 ·have g1:(q.k==1)=true:=by simp[h1]
  cases hl:q.l==0
  ·have HF:=zB (by simp at hl;simp[zAa,h1,hl]:zAa q↔false=true);clear h1;go_enter func55,ntmps55;go_wp2;go_ret;exact⟨⟨_,rfl,HF.symm⟩,zC _ _⟩
  ·have HF:=zB (by simp at hl;simp[zAa,h1,hl]:zAa q↔(q.sd==0)=true);clear h1;go_enter func55,ntmps55;go_wp2;go_ret;exact⟨⟨_,rfl,HF.symm⟩,zC _ _⟩
 ·have g1:(q.k==1)=false:=by simp[h1]
  cases g2:q.k==2
  ·have HF:=zB (by simp[zAa,h1];simp at g2;simp[g2]:zAa q↔false=true);clear h1;go_enter func55,ntmps55;go_wp2;go_ret;exact⟨⟨_,rfl,HF.symm⟩,zC _ _⟩
  ·have HF:=zB (by simp at g2;rw[<-zTn];simp[zAa,h1,g2]:zAa q↔q.t.toList.isEmpty=true);clear h1;go_enter func55,ntmps55;go_wp2;go_ret;exact⟨⟨_,rfl,HF.symm⟩,zC _ _⟩
theorem zKM(q:zAX)(w:JY):Calls prog 33 #[zBQ q] w fun e w'=>e=.returned (chV q.o (zC6 q))/\Qb w w':=by
 unfold zBQ chV;by_cases h1:q.k=1
 ·have g1:(q.k==1)=true:=by simp[h1]
  have EN:Hid (zC6 q=⟨q.t,q.o.k,q.o.l,q.o.sd⟩):=yQ h1;clear h1;go_enter func33,ntmps33;go_wp2;refine yN (v:=.agg #[Qs q.o.s,Qi q.o.k,Qi q.o.l,Qi q.o.sd,Qs q.t,Qi q.o.k,Qi q.o.l,Qi q.o.sd]) ?res rfl ⟨by rw[zA EN],?_⟩;case res=>simp[results,results33,go_sem]
  ·exact((zC _ _).alloc Js _).alloc Jq _
 ·have g1:(q.k==1)=false:=by simp[h1]
  have EN:Hid (zC6 q=⟨q.o.s,q.o.k,q.l,q.sd⟩):=yP h1;clear h1;go_enter func33,ntmps33;go_wp2_with fail;go_region;all_goals
   go_wp2
   refine yN (v:=.agg #[Qs q.o.s,Qi q.o.k,Qi q.o.l,Qi q.o.sd,Qs q.o.s,Qi q.o.k,Qi q.l,Qi q.sd]) ?res rfl ⟨by rw[zA EN],?_⟩
   case res=>simp[results,results33,go_sem]
   ·exact(((zC _ _).alloc Js _).alloc Jq _).drew
theorem zRU(t:Value)(xs:List OpR)(o:OpR)(w:JY)(hm:xs.length<=1048576)(h:ZS w t xs):Calls prog 148 #[t,opV o] w fun e w'=>(∃n:Int,e=.returned (Qi n)/\(decide (0<=n)=inB o xs))/\Qb w w':=by
 obtain⟨a,c,rfl,h⟩:=h;have HX:=zB h;clear h;unfold opV;obtain⟨W,hW⟩:=Jx (w.alloc (.cells #[Qs o.s,Qi o.k,Qi o.l,Qi o.sd] 33));have x:=zB (by rw[hW];exact zC _ _:Qb w W);have HO:=zB (by rw[hW];exact⟨Jg,Jg,Jg,Jg⟩:zBO W w.heap.size o);go_enter func148,ntmps148;go_wp2;rw[<-hW];clear hW;go_loopw [8] (fun i wr=>∃n:Nat,n<=xs.length/\i=Qi n/\Hid (∀j,j<n->o≠atO xs j)/\Hid (Below (w.heap.size+1) W wr)) (fun i _=>xs.length-(intOf i).toNat);case atStart=>exact⟨0,ym _,rfl,zB (fun j h=>Jo),zB (yJ _ _)⟩
 case round=>
  obtain⟨n,hn,rfl,q,HB⟩:=hrel;have H:Hid (Qb w wr):=x.trans (HB.mono Jo);by_cases K:n<xs.length
  ·have X:(n:Int)<(xs.length:Int):=Jo;obtain⟨g,rfl,hg,hw⟩:=HX.elim (fun h=>Jo) id;obtain⟨a0,a1,a2,a3⟩:=(hw n K).below H hg;simp only[yY] at a0 a1 a2 a3;obtain⟨c0,c1,c2,c3⟩:=HO.below4 HB Jo;have hq:=fun W=>zBs o (atO xs n) W
   have Q:=zDm;clear hw;go_wp2_with fail;go_quiet (fail);clear hq Q;cases hsm:ZV o (atO xs n)
   ·have HN:=zB (show ∀j,j<n+1->o≠atO xs j from fun j hj e=>by
     by_cases ej:j=n
     ·subst ej;rw[ZD.2 e] at hsm;cases hsm
     ·exact q j Jo e)
    clear hsm;go_wp2;exact⟨⟨n+1,Jo,Jn,HN,zB (below_drewN HB _)⟩,Ji⟩
   ·have HE:=zB (show decide ((0:Int)<=(n:Int))=inB o xs by
     rw[Zt.2 (by rw[ZD.1 hsm];exact zIk K)];simp)
    clear hsm;go_wp2;go_ret;exact⟨⟨_,rfl,HE⟩,below_drewN H _⟩
  ·have HE:=zB (show decide ((0:Int) <= -1)=inB o xs by
    cases h:inB o xs
    ·rfl
    ·obtain⟨j,hj,e⟩:=List.mem_iff_getElem.1 (Zt.1 h)
     exact yR (by simpa[atO,yn,hj] using e.symm) (q j Jo))
   go_wp2;go_ret;exact⟨⟨_,rfl,HE⟩,H⟩
theorem zHQ(t:Value)(xs:List OpR)(o:OpR)(w:JY)(hm:xs.length<=1048576)(h:ZS w t xs):Calls prog 101 #[t,opV o] w fun e w'=>e=.returned (.bool (inB o xs))/\Qb w w':=by
 have HX:=zB (fun W (hb:Qb w W)=>zRU t xs o W hm (h.below hb));obtain⟨a,c,rfl,_⟩:=h;unfold opV at HX ⊢;go_enter func101,ntmps101;go_wp2_with fail;go_call (zA HX) _ (zC _ _) as e w1 ⟨⟨n,rfl,hn⟩,hb⟩;have HN:=zB hn;have HB:=zB ((zC w _).trans (hb.mono Js));clear hn hb;go_wp2_with fail;go_ret;exact⟨zi HN,HB⟩
theorem zIR(t:Value)(xs:List OpR)(o b:OpR)(w:JY)(hm:xs.length<=1048576)(h:ZS w t xs):Calls prog 61 #[chV o b,.agg #[t]] w fun e w'=>e=.returned (.bool (inB o xs))/\Qb w w':=by
 have HX:=zB (fun W (hb:Qb w W)=>zHQ t xs o W hm (h.below hb));obtain⟨a,c,rfl,_⟩:=h;unfold opV at HX;unfold chV;go_enter func61,ntmps61;go_wp2_with fail;go_call (zA HX) _ ((zC _ _).alloc Js _) as e w1 ⟨rfl,hb⟩;have HB:=zB (((zC w _).alloc Js _).trans (hb.mono Jq));clear hb;go_wp2_with fail;go_ret;exact⟨rfl,HB⟩
def zHR(o:OpR)(tabs:List (List OpR)):Bool:=tabs.any (inB o)
theorem zOW(v:Value)(tabs:List (List OpR))(o:OpR)(w:JY)(hn:tabs.length<=100)(hT:zD4 w v tabs)(hl:∀i,i<tabs.length->(zz tabs i).length<=1048576):Calls prog 59 #[v,opV o] w fun e w'=>e=.returned (.bool (zHR o tabs))/\Qb w w':=by
 have HX:=zB (fun W (hb:Qb w W) t i (hi:i<tabs.length) h=>zHQ t (zz tabs i) o W (hl i hi) h);have HT:=zB (fun W (hb:Qb w W)=>hT.below hb);obtain⟨a,c,rfl,_⟩:=hT;unfold opV at HX ⊢;obtain⟨W,hW⟩:=Jx (w.alloc (.cells #[Qs o.s,Qi o.k,Qi o.l,Qi o.sd] 33));have q:=zB (by rw[hW];exact zC _ _:Qb w W);have HO:=zB (by rw[hW];exact⟨Jg,Jg,Jg,Jg⟩:zBO W w.heap.size o);have HW:=zB (by rw[hW];simp:W.heap.size=w.heap.size+1);clear hl;go_enter func59,ntmps59;go_wp2_with fail;rw[<-hW];clear hW;go_loopw [9] (fun i wr=>∃n:Nat,n<=tabs.length/\i=Qi n/\Hid (∀j,j<n->inB o (zz tabs j)=false)/\Hid (Below (w.heap.size+1) W wr)) (fun i _=>tabs.length-(intOf i).toNat);case atStart=>exact⟨0,ym _,rfl,zB (fun j h=>Jo),zB (yJ _ _)⟩
 case round=>
  obtain⟨n,hn,rfl,X,HB⟩:=hrel;have H:Hid (Qb w wr):=q.trans (HB.mono Jo);by_cases K:n<tabs.length
  ·have Y:(n:Int)<(tabs.length:Int):=Jo;obtain⟨a',c',e,h⟩:=(zA HT) wr H;obtain⟨rfl,_,rfl⟩:=Value.slice.inj e;obtain⟨g,rfl,hg,hc⟩:=h.resolve_left Jo;obtain⟨t,c0,y⟩:=hc n K;obtain⟨c1,c2,c3,c4⟩:=HO.below4 HB Jo;have HC:=zB (HX (wr.alloc (.cells #[t] 63)) (H.trans ((zC _ _).mono H.size)) t n K (y.below (zC _ _)));obtain⟨at',ct,rfl,_⟩:=y;have zr:w.heap.size<wr.heap.size:=by have:=HB.size;have:=zA HW;omega
   clear hc h e;go_wp2_with fail;go_call zA HC as e w3 ⟨rfl,hb3⟩;have Q:Hid (Below (w.heap.size+1) W w3):=HB.trans (((zC _ _).mono Jo).trans (hb3.mono Jq));clear hb3;cases hq:inB o (zz tabs n)
   ·have HN:=zB (show ∀j,j<n+1->inB o (zz tabs j)=false from fun j hj=>by
     by_cases ej:j=n
     ·subst ej;exact hq
     ·exact X j Jo)
    clear hq;go_wp2;exact⟨⟨n+1,Jo,Jn,HN,Q⟩,Ji⟩
   ·have HE:=zB (show true=zHR o tabs by
     symm;rw[zHR,List.any_eq_true]
     exact⟨zz tabs n,by simp[zz,K],hq⟩)
    clear hq;go_wp2;go_ret;exact⟨zi HE,q.trans (Q.mono Jo)⟩
  ·have HE:=zB (show false=zHR o tabs by
    symm;rw[zHR,List.any_eq_false]
    intro x hx
    obtain⟨j,hj,rfl⟩:=List.mem_iff_getElem.1 hx
    have:=(zA X) j Jo
    simpa[zz,hj] using this)
   go_wp2;go_ret;exact⟨zi HE,H⟩
end Go.Proofs.YtadiaghhackbjaaGreatDoor
