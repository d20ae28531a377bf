import Derived.Lib.Join
import Derived.Test.YtdgcbenningkdaaGreatDoorV05
import Derived.Test.YtdgcbenningkdaaGreatDoorV09
namespace Go.Proofs.YtdgcbenningkdaaGreatDoor
set_option linter.all false
set_option maxHeartbeats 0
set_option maxRecDepth 100000
open Proofs.Tryz RowKit
variable{ls:List BP}{s:ByteArray}
open _root_.Array renaming size→O
open List renaming length→Z
open Option renaming some→E
open Obj renaming cells→JM
open Bool renaming false→Vt,true→Vp
open Proofs.Tryz renaming prog→Vb
open _root_.ByteArray renaming empty→j6
def Wv{a b o}(c:a.size<=5)(d:∀j,(AG b j).size<=100)(g:o.size<=300000){j}(f:j<=100):(Fv a b o j).size<=310600:=by have e:=Ss c d (o:=o) j;have:(100+6)*j<=10600:=I;omega
def eF(rp cap p gu cu go co a bs us os w)(h:A0 w rp a cap bs p)(hl:Z bs<=1200)(n:Z us<=100)(hh:Z os<=20)(g:∀j,(AG us j).size<=100)(f:∀i,(r os i).s.size<=16)(hp:∀i,i<Z os->Cz (r os i))(l:gu<O w.1)(H:go<O w.1)(ht:gu≠rp)(hb:go≠rp)(hu:∀i,i<Z us->w.cell? (J gu i)=E (W (AG us i)))(ho:Au w go 0 os):Calls Vb 51 #[Qp rp,Ql gu (Z us) cu,Ql go (Z os) co] w λe w'=>(∃s:JZ,e=.returned (W s)/\s.size<=320000/\Hid (s=MZ (Af bs p) us os))/\Hid (A0 w' rp a cap bs (Ac bs p))/\Hid (zE w w' rp):=by
 have HU:=S hu;have v:=S g;have L:=S f;have he:=S hp;clear hu g f hp;go_enter func51,ntmps51;go_wp2_with fail;go_call GJ rp cap p a bs _ (D h) hl as e w1 ⟨⟨k,rfl,hk,HK⟩,H1,HP1⟩;have hq:=S (λi hi=>(HP1.cell (b:=gu) l ht i).trans (HU i hi));have m:=S (HP1.ops ho H hb);have U:=ym l HP1.size;have u:=ym H HP1.size;have hf:=H1.lt;clear h HU ho;have T:=S (λi=>XB (k:=k) v n L i);obtain⟨o0,C⟩:∃o0,Hid (o0=DZ k us os 0):=⟨_,S F⟩;have e0:((k:Int)%8==7)=Vp/\o0=⟨#[32,10]⟩\/((k:Int)%8==7)=Vt/\o0=⟨#[]⟩:=by
  rw[D C];by_cases h7:k%8=7
  .exact yW ⟨Jq,by simp only[DZ];rw[yU h7]⟩
  .exact yX ⟨Jq,by simp only[DZ];rw[yS h7]⟩
 rcases e0 with⟨e7,eo⟩|⟨e7,eo⟩;all_goals
  go_wp2_with fail
  rw[<-eo]
  clear e7 eo
  go_loopw [7,9] (λov iv wr=>∃(i:Nat)(o:JZ),i<=Z os/\iv=G i/\ov=W o/\Hid (o=DZ k us os i)/\Hid (Qb w1 wr)) (λ_ iv _=>Z os-(intOf iv).toNat)
  case atStart=>exact⟨0,_,yn,F,F,C,S yN⟩
  case round=>
   clear C;obtain⟨i,o,hi,rfl,rfl,HE,Q⟩:=hrel;have hm:o.size<=220000:=by have:=(D T) i;rw[<-D HE]at this;omega
   obtain⟨wo,hd⟩:=Jx wr;subst hd;by_cases d:i<Z os
   .have hg:(i:Int)<Z os:=I;obtain⟨x,hx⟩:=Jx (r os i);have N:x.s.size<=16:=by rw[hx];exact L i
    have hn:Cz x:=by rw[hx];exact he i d
    have hs:=Nu N;have z:=S (λhv=>RC x hv hn I);obtain⟨hr,hJ⟩:=Jx (ZR (dW x));rw[<-hJ]at z hs;have HJ:=S (by rw[hJ,hx];rfl:MY k (r os i)=if k%8=6 then(⟨#[32,32]⟩:JZ)++hr++⟨#[32]⟩ else hr);have HX:=S hx;clear hx hJ hn;have A:∀(q:JZ)(wv:JY),q.size<=310600->Hid (q=if i=k%3 then Fv (G0 k) us o (Z us) else o)->Hid (Qb w1 wv)->True:=λ_ _ _ _ _=>trivial
    clear A;by_cases c:i=k%3
    .have ei:((i:Int)==k%3)=Vp:=Jq;have V:=S (by simp only[DZ];rw[yU c,<-D HE]:DZ k us os (i+1)=Fv (G0 k) us o (Z us)++MY k (r os i)++⟨#[10]⟩);clear c;go_wp2;go_loopw [7,10] (λov jv wr=>∃(j:Nat)(q:JZ),j<=Z us/\jv=G j/\ov=W q/\Hid (q=Fv (G0 k) us o j)/\Hid (Qb w1 wr)) (λ_ jv _=>Z us-(intOf jv).toNat);case atStart=>exact⟨0,_,yn,F,F,S F,Q⟩
     case round=>
      obtain⟨j,q,hj,rfl,rfl,HQ,y⟩:=hrel;have M:q.size<=310600:=by rw[D HQ];exact Wv (Wc k) v I I
      by_cases B:j<Z us
      .have hy:(j:Int)<Z us:=I;have c0:=Jc y U (hq j B);have ha:=(D v) j;have i1:(0:Int)<=(4:Int)+k/8%2:=I;have i2:(4:Int)+k/8%2<=5:=I;obtain⟨P,hP⟩:=Jx (G0 k);go_wp2_with fail;go_quiet (fail);go_wp2;refine⟨⟨j+1,_,I,Jn,F,S ?_,S (y.trans ⟨F,F,F,yk,λ_ _=>F⟩)⟩,Ji⟩;rw[D HQ];show _=Fv (G0 k) us o j++G0 k++AG us j++⟨#[10]⟩;unfold G0;have em:((4:Int)+k/8%2).toNat=4+k/8%2:=I;first|rw[em]|skip
       first|rfl|skip
      .obtain rfl:j=Z us:=I;obtain⟨b0,b1,b2,b3⟩:=(m.y y u) i d;simp only[jd]at b0 b1 b2 b3;rw[<-D HX]at b0 b1 b2 b3;go_wp2_with fail;go_call (D z) _ as e w3 ⟨rfl,hb3⟩;have hw:=S (y.trans (hb3.mono y.size));by_cases h6:k%8=6
       .have e6:((k:Int)%8==6)=Vp:=Jq;have t:((⟨#[32,32]⟩:JZ)++hr).size<=60:=by rw[zQ];show 2+hr.size<=60;omega
        have R:((⟨#[32,32]⟩:JZ)++hr++⟨#[32]⟩).size<=61:=by rw[zQ];show _+1<=61;omega
        have K:=D HJ;rw[yU h6]at K;have X:=S K;go_wp2;refine⟨⟨i+1,_,I,Jn,F,S ?_,hw⟩,Ji⟩;rw[D V,D X,<-D HQ]
       .have e6:((k:Int)%8==6)=Vt:=Jq;have K:=D HJ;rw[yS h6]at K;have X:=S K;go_wp2;refine⟨⟨i+1,_,I,Jn,F,S ?_,hw⟩,Ji⟩;rw[D V,D X,<-D HQ]
    .have ei:((i:Int)==k%3)=Vt:=Jq;have V:=S (by simp only[DZ];rw[yS c,<-D HE]:DZ k us os (i+1)=o++MY k (r os i)++⟨#[10]⟩);obtain⟨b0,b1,b2,b3⟩:=(m.y Q u) i d;simp only[jd]at b0 b1 b2 b3;rw[<-D HX]at b0 b1 b2 b3;go_wp2_with fail;go_call (D z) _ as e w3 ⟨rfl,hb3⟩;have hw:=S (Q.trans (hb3.mono Q.size));by_cases h6:k%8=6
     .have e6:((k:Int)%8==6)=Vp:=Jq;have t:((⟨#[32,32]⟩:JZ)++hr).size<=60:=by rw[zQ];show 2+hr.size<=60;omega
      have R:((⟨#[32,32]⟩:JZ)++hr++⟨#[32]⟩).size<=61:=by rw[zQ];show _+1<=61;omega
      have K:=D HJ;rw[yU h6]at K;have X:=S K;go_wp2;refine⟨⟨i+1,_,I,Jn,F,S ?_,hw⟩,Ji⟩;rw[D V,D X]
     .have e6:((k:Int)%8==6)=Vt:=Jq;have K:=D HJ;rw[yS h6]at K;have X:=S K;go_wp2;refine⟨⟨i+1,_,I,Jn,F,S ?_,hw⟩,Ji⟩;rw[D V,D X]
   .obtain rfl:i=Z os:=I;by_cases h3:Z os<=k%3
    .have e3:(Z os:Int)<=k%3:=I;have HF:=S (by unfold MZ;rw[yU h3,<-D HE]:MZ k us os=Fv Es us o (Z us)++⟨#[98,101,103,105,110,10]⟩);go_wp2;go_loopw [7,12] (λov jv wr=>∃(j:Nat)(q:JZ),j<=Z us/\jv=G j/\ov=W q/\Hid (q=Fv Es us o j)/\wr=wo) (λ_ jv _=>Z us-(intOf jv).toNat);case atStart=>exact⟨0,_,yn,F,F,S F,F⟩
     case round=>
      obtain⟨j,q,hj,rfl,rfl,HQ,hc⟩:=hrel;have hz:=hc.symm;subst hz;have M:q.size<=310600:=by rw[D HQ];exact Wv Jd v I I
      by_cases B:j<Z us
      .have hy:(j:Int)<Z us:=I;have c0:=Jc Q U (hq j B);have ha:=(D v) j;go_wp2;refine⟨⟨j+1,_,I,Jn,F,S ?_,by first|rfl|trivial⟩,Ji⟩;rw[D HQ];rfl
      .obtain rfl:j=Z us:=I;go_wp2;go_ret;refine⟨⟨_,F,?_,S ?_⟩,S (H1.kept (λi hi=>Q.block i I)),S (HP1.trans (zE.Q Q))⟩
       .rw[zQ];show q.size+6<=_;omega
       .rw[<-D HK,D HF,<-D HQ]
    .have e3:¬ (Z os:Int)<=k%3:=I;have HF:=S (by unfold MZ;rw[yS h3,<-D HE]:MZ k us os=o++⟨#[98,101,103,105,110,10]⟩);go_wp2;go_ret;refine⟨⟨_,F,?_,S ?_⟩,S (H1.kept (λi hi=>Q.block i I)),S (HP1.trans (zE.Q Q))⟩
     .rw[zQ];show o.size+6<=_;omega
     .rw[<-D HK,D HF]
def fN(T R p gw cw a L z w)(h:A0 w T a R L p)(hl:Z L<=1200)(k:Z z<=100000)(u:∀i,(AG z i).size<=20000)(m:gw<O w.1)(n:gw≠T)(hw:∀i,i<Z z->w.cell? (J gw i)=E (W (AG z i))):Calls Vb 52 #[Qp T,Ql gw (Z z) cw] w λe w'=>(∃s:JZ,e=.returned (W s)/\Hid (s=(Ba L z p (Z z)).1++Gz (Af L (Ba L z p (Z z)).2)))/\Hid (A0 w' T a R L (Ac L (Ba L z p (Z z)).2))/\Hid (zE w w' T):=by
 have H:=S h;have HW:=S hw;have P:=S u;go_enter func52,ntmps52;go_wp2_with fail;go_call Rx T R p a L _ (D H) hl as e w1 ⟨⟨g1,rfl,HG1⟩,H1,HP1⟩;obtain⟨o0,j⟩:∃o0,Hid (o0=(Ba L z p 0).1):=⟨_,S F⟩;obtain rfl:g1=o0:=HG1.trans j.symm;go_wp2;go_loopw [5,6] (λov iv wr=>∃(i:Nat)(o:JZ)(q:Nat),i<=Z z/\iv=G i/\ov=W o/\Hid (o=(Ba L z p i).1)/\Hid (q=(Ba L z p i).2)/\Hid (A0 wr T a R L q)/\Hid (zE w wr T)) (λ_ iv _=>Z z-(intOf iv).toNat);case atStart=>exact⟨0,_,_,yn,F,F,j,S F,H1,HP1⟩
 case round=>
  obtain⟨i,o,q,hi,rfl,rfl,Q,K,HR,HK⟩:=hrel;have l:o.size<=2+20002*i:=by rw[D Q];exact V0 L z p P i
  have d:o.size<=2000300000:=I;have g:=(D P) i;by_cases V:i<Z z;case neg=>
   have B:i=Z z:=I;subst B;go_wp2_with fail;go_call Rx T R q a L _ (D HR) hl as e w2 ⟨⟨N,rfl,M⟩,H2,HP2⟩;have c:N.size<=2:=by rw[D M];exact Mr _
   go_wp2;go_ret;exact⟨⟨_,F,S (by rw[<-D Q,<-D K,<-D M])⟩,S (by rw[<-D K];exact H2),S (HK.trans HP2)⟩
  have C:(i:Int)<Z z:=I;go_wp2_with fail;go_call Rx T R q a L _ (D HR) hl as e w2 ⟨⟨N,rfl,M⟩,H2,HP2⟩;have c:N.size<=2:=by rw[D M];exact Mr _
  have X:=S (HK.trans HP2);have c0:=(X.cell (b:=gw) m n i).trans (HW i V);by_cases A:i=0
  .subst A;have e0:¬ (0:Int)<((0:Nat):Int):=I;go_wp2_with fail;go_quiet (fail);go_wp2;refine⟨⟨1,_,Ac L q,I,F,F,S ?_,S ?_,S (H2.drewN _),S (X.trans (IX _ _ _))⟩,Ji⟩
   .show o++N++AG z 0=(Ba L z p 0).1++DT z 0 (Af L (Ba L z p 0).2)++AG z 0;have e1:DT z 0 (Af L (Ba L z p 0).2)=N:=by unfold DT;rw[yS (λh=>yV h.1 I),D M,D K]
    rw[e1,D Q]
   .rw[D K];rfl
  .have e0:(0:Int)<i:=I;have e0n:0<i:=I;have e0b:=decide_eq_true e0n;have e0c:=decide_eq_true e0;have c1:=(X.cell (b:=gw) m n (i-1)).trans (HW (i-1) I);by_cases v:N.size=0
   .have eg:N=⟨#[]⟩:=ByteArray.size_eq_zero_iff.1 v;have ei:(i:Int)-1=((i-1:Nat):Int):=I;have f:((i-1:Nat):Int)<(Z z:Int):=I;subst eg;obtain⟨mv,y⟩:∃mv,Hid (GV (AG z (i-1)) (AG z i)=mv):=⟨_,S F⟩;have HX:=S (Ry (AG z (i-1)) (AG z i) w2.drew);rw[D y]at HX;cases mv with
    |true=>
     go_wp2_with fail;go_quiet ((go_at_call 91;exact Calls.quiet_of_same (by have:=Ry (AG z (i-1)) (AG z i);rw[D y]at this;exact this _)));go_wp2;refine⟨⟨i+1,_,Ac L q,I,Js,F,S ?_,S ?_,S (H2.drewN _),S (X.trans (IX _ _ _))⟩,Ji⟩
     .show o++(⟨#[32]⟩:JZ)++AG z i=(Ba L z p i).1++DT z i (Af L (Ba L z p i).2)++AG z i;have e1:DT z i (Af L (Ba L z p i).2)=(⟨#[32]⟩:JZ):=by unfold DT;rw[<-D K];rw[yU ⟨e0n,by rw[<-D M];rfl,D y⟩]
      rw[e1,D Q]
     .rw[D K];rfl
    |false=>
     go_wp2_with fail;go_quiet ((go_at_call 91;exact Calls.quiet_of_same (by have:=Ry (AG z (i-1)) (AG z i);rw[D y]at this;exact this _)));go_wp2;refine⟨⟨i+1,_,Ac L q,I,Js,F,S ?_,S ?_,S (H2.drewN _),S (X.trans (IX _ _ _))⟩,Ji⟩
     .show o++(⟨#[]⟩:JZ)++AG z i=(Ba L z p i).1++DT z i (Af L (Ba L z p i).2)++AG z i;have e1:DT z i (Af L (Ba L z p i).2)=(⟨#[]⟩:JZ):=by unfold DT;rw[<-D K];rw[yS (λh=>by rw[D y]at h;exact yV h.2.2 Jd),<-D M]
      rw[e1,D Q]
     .rw[D K];rfl
   .have ng:¬ N=⟨#[]⟩:=λe=>v (by rw[e];rfl)
    have ng':¬ N.toList=[]:=λe=>ng (Zd (by rw[e,yI]))
    have eg:N.toList.isEmpty=Vt:=by cases h:N.toList with|nil=>exact yV h ng'|cons x t=>rfl
    have U:N=⟨#[32]⟩\/N=⟨#[10,9]⟩\/N=⟨#[32,32]⟩:=by
     have h:=D M;unfold Gz at h;split at h
     .exact yW h
     .split at h
      .exact yX (yW h)
      .split at h
       .exact yX (yX h)
       .exact yV h ng
    rcases U with rfl|rfl|rfl;all_goals
     go_wp2_with fail
     go_quiet (fail)
     go_wp2
     refine⟨⟨i+1,_,Ac L q,I,Js,F,S ?_,S ?_,S (H2.drewN _),S (X.trans (IX _ _ _))⟩,Ji⟩
     .show _=(Ba L z p i).1++DT z i (Af L (Ba L z p i).2)++AG z i
      have e1:DT z i (Af L (Ba L z p i).2)=Gz (Af L q):=by unfold DT;rw[<-D K,yS (λh=>by rw[<-D M]at h;exact yV h.2.1 Jd)]
      rw[e1,<-D M,D Q]
     .rw[D K];rfl
def uG(l):∀n:Nat,(∀p∈l,AA (s.extract p.1 p.2)≠[Cd])->BQ s l n=0:=by
 induction l with
 |nil=>intro n _;rfl
 |cons p a ih=>intro n h;simp only[BQ];rw[yS (h p Js)];exact ih _ λq b=>h q (by simp[b])
def uH(l):∀n i:Nat,i<Z l->AA (s.extract (l.getD i (0,0)).1 (l.getD i (0,0)).2)=[Cd]->(∀j,j<i->AA (s.extract (l.getD j (0,0)).1 (l.getD j (0,0)).2)≠[Cd])->BQ s l n=n+i+1:=by
 induction l with
 |nil=>intro n i h _ _;simp at h
 |cons p a ih=>
  intro n i f h c;cases i with
  |zero=>have e:(p::a).getD 0 (0,0)=p:=F;rw[e]at h;simp only[BQ];rw[yU h,Nat.add_zero]
  |succ i=>
   have d:(p::a).getD 0 (0,0)=p:=F;have e:∀k,(p::a).getD (k+1) (0,0)=a.getD k (0,0):=λk=>F
   have b:=c 0 I;rw[d]at b;rw[e]at h;simp only[BQ];rw[yS b,ih (n+1) i (Ju f) h (λj H=>by have:=c (j+1) I;rwa[e]at this)];omega
def YN{i}(h:i<Z ls):(Cr ls).getD i (0,0)=((A7 ls i).f,(A7 ls i).t):=by simp[Cr,A7,yq,h]
def zZl{a}(d:Cr ls=AD 10 s 0)(h:TE s ls a):a+1=(BQ s (AD 10 s 0) 0:Int)/\BQ s (AD 10 s 0) 0<=Z ls:=by
 have c:∀i,i<Z ls->AA (s.extract ((AD 10 s 0).getD i (0,0)).1 ((AD 10 s 0).getD i (0,0)).2)=Ej s ls i:=λi b=>by rw[<-d,YN b];rfl
 have m:Z (AD 10 s 0)=Z ls:=by rw[<-d];simp[Cr]
 rcases h with⟨rfl,h⟩|⟨i,b,rfl,g,k⟩
 .rw[uG _ _ (λp K=>?_)]
  .exact⟨I,yn⟩
  .obtain⟨i,b,e⟩:=List.mem_iff_getElem.1 K;have H:i<Z ls:=I;have f:(AD 10 s 0).getD i (0,0)=p:=by rw[yq,yt b,<-e];rfl
   have:=h i H;rw[<-c i H,f]at this;exact this
 .rw[uH _ _ i (by omega) (by rw[c i b];exact g) (λj l=>by rw[c j (by omega)];exact k j l)];exact⟨I,I⟩
def zZm{i}(e:Cr ls=AD 10 s 0)(d:i<Z ls):(A7 ls i).f<=(A7 ls i).t/\(A7 ls i).t<=s.size:=by
 have a:((A7 ls i).f,(A7 ls i).t)∈Cr ls:=by unfold Cr;exact List.mem_map_of_mem (f:=λl:BP=>(l.f,l.t)) (ME d)
 rw[e]at a;unfold AD at a;obtain⟨b,c,_⟩:=N3 10 s (s.size-0+1) 0 yn ((A7 ls i).f,(A7 ls i).t) a;exact⟨b,c⟩
def Ut(s o b w)(hs:s.size<=900000)(hb:∀ws,Bb ws o->Cz b)(ho:b.s.size<=16):Calls Vb 37 #[W s,.agg #[W o.s,G o.k,G o.l,G o.sd],.agg #[W b.s,G b.k,G b.l,G b.sd]] w λe w'=>(∃t:JZ,e=.returned (W t)/\t.size<=1000000000000/\Hid (GA s o b t))/\Qb w w':=by
 obtain⟨W0,Q⟩:=Jx ((w.alloc (JM #[W o.s,G o.k,G o.l,G o.sd] 25)).alloc (JM #[W b.s,G b.k,G b.l,G b.sd] 25));have ht:=S Q;have hF:Qb w W0:=by rw[Q];exact(zC).alloc Js _
 have z0:O w.1+1<O W0.1:=by rw[Q];simp
 have hB:=S (by rw[Q];exact⟨Jg,Jg,Jg,Jg⟩:A4 W0 (O w.1) o);have m:=S (by rw[Q];exact⟨Jg,Jg,Jg,Jg⟩:A4 W0 (O w.1+1) b);have a:=S hF;have HB:=S hb;have p:=S (Uz s W0 I);have he:=Nu ho;clear Q hF hb;go_enter func37,ntmps37;go_wp2_with fail;rw[<-D ht];go_call D p as e w1 ⟨g,c,ls,rfl,hg,hgl,HOL,HST,HPL,hll,hb1⟩;have z1:=hb1.size;have hk:=S (hB.y hb1);have hm:=S (m.y hb1);have M:=S (a.trans (hb1.mono a.size));clear hb1 p hB m a;go_wp2_with fail;obtain⟨n,hn⟩:=Jx (BQ s (AD 10 s 0) 0);have HN:=S hn;clear hn;go_loopw [8,9] (λov iv wr=>∃(i:Nat)(t:JZ),i<=n/\iv=G i/\ov=W t/\t.size<=1000000*i/\Hid (DW s o b (AD 10 s 0) i t)/\Hid (Qb w1 wr)) (λ_ iv _=>n-(intOf iv).toNat);case atStart=>exact⟨0,_,yn,F,F,yk,S F,S yN⟩
 case round=>
  obtain⟨i,t,hi,rfl,rfl,h3,HE,A⟩:=hrel;have q:=D A;have zw:=q.size;have U:=S (λl hl=>(HST l hl).y q);have y:=S (HOL.y q hgl);have ha:=S (hk.y q);have hh:=S (hm.y q);have hI:=S (UA s g c ls wr I y U);clear q;go_wp2_with fail;go_call D hI as e w2 ⟨hK,rfl,hbeg,hw2⟩;have N:=hw2.symm;subst N;obtain⟨hr,hC⟩:=zZl HPL hbeg;rw[<-D HN]at hr hC;clear hw2 hbeg hI;by_cases h0:i<n
  .have R:(i:Int)<=hK:=I;have j:i<Z ls:=I;obtain⟨o0,o1,o2⟩:=(D y) i j;have X:=YN j;rw[D HPL]at X;obtain⟨m1,m2⟩:=zZm HPL j;have H:=(D U) _ (ME j);obtain⟨wv,L⟩:=Jx ((A7 ls i).wv);obtain⟨f,hf⟩:=Jx ((A7 ls i).f);obtain⟨z,hz⟩:=Jx ((A7 ls i).t);rw[<-L]at o0 H;rw[<-hf]at o1 m1 X H;rw[<-hz]at o2 m1 m2 X H;have C:=S X;obtain⟨ws,u⟩:=Jx (AA (s.extract f z));rw[<-u]at H;have hE:=S u;have hu:(s.extract f z).size<=900000:=by rw[ZW];omega
   have hA:=S (UW wv ws wr H (λx hx=>by
    have h1:x.size<=(s.extract f z).size:=PB (by rw[<-u];exact hx)
    unfold maxLen;omega))
   obtain⟨av,cv,rfl,_⟩:=H;clear X L hf hz u hC hr;go_wp2_with fail;go_call D hA as e w3 ⟨d,v,rfl,hv,hb3⟩;have z3:=hb3.size;obtain⟨W4,V⟩:=Jx (w3.alloc (JM #[W d.s,G d.k,G d.l,G d.sd] 25));have K:Qb wr W4:=by rw[V];exact hb3.alloc z3 _
   have k:=S (A.trans (K.mono zw));obtain⟨a0,a1,a2,a3⟩:=ha.y K;obtain⟨d0,d1,d2,d3⟩:=hh.y K;obtain⟨x0,x1,x2,x3⟩:A4 W4 (O w3.1) d:=by rw[V];exact⟨Jg,Jg,Jg,Jg⟩
   obtain⟨_,_,_⟩:=(D y) i j;have p1:=Jc K I o1;have p2:=Jc K I o2;have hd:=S V;clear hb3 K hA V;have HQ:=S (λhG=>I2 d o hG);have h2:=JJ;have h4:(f:Int)<=z:=I;have hw:(z:Int)<=s.size:=I;have hy:(f:Int)<=s.size:=I;go_upto_region 7 with fail
   rw[<-D hd];have key:(v=Vp/\ZH d o=Vp/\Bb ws o)\/((v=Vt\/ZH d o=Vt)/\¬ Bb ws o):=by
    rcases hv with⟨rfl,h⟩|⟨rfl,h⟩
    .by_cases e:d=o
     .subst e;exact yW ⟨F,zZ.2 F,h⟩
     .refine yX ⟨yX ?_,λh'=>e (h.one h')⟩;cases hx:ZH d o with
      |false=>rfl
      |true=>exact yV (zZ.1 hx) e
    .exact yX ⟨yW F,h o⟩
   clear hv;rcases key with⟨rfl,P,hH⟩|⟨hp,hH⟩
   .have hq:=D HQ;simp only[P]at hq;clear P HQ;have T:=S (RC b W4 (HB _ hH) I);obtain⟨hD,hJ⟩:=Jx (ZR (dW b));have B:=S (show DW s o b (AD 10 s 0) (i+1) (t++hD++⟨#[10]⟩) from⟨t,HE,yW ⟨by rw[D C,<-D hE];exact hH,by rw[hJ]⟩⟩);rw[<-hJ]at T he;clear hH hJ;go_wp2_with fail;go_call D T as e w5 ⟨rfl,hb5⟩;have hj:=S (k.trans (hb5.mono k.size));go_wp2;refine⟨⟨i+1,_,I,Jn,F,?_,B,hj⟩,Ji⟩;rw[zQ,zQ];show _+_+1<=_;omega
   .have B:=S (show DW s o b (AD 10 s 0) (i+1) (t++s.extract f z++⟨#[10]⟩) from⟨t,HE,yX ⟨by rw[D C,<-D hE];exact hH,by rw[D C]⟩⟩);have hc:v=Vt\/(v=Vp/\ZH d o=Vt):=by
     cases v with
     |false=>exact yW F
     |true=>exact yX ⟨F,hp.resolve_left Js⟩
    rcases hc with rfl|⟨rfl,P⟩;rotate_left
    have hq:=D HQ;simp only[P]at hq;rotate_left
    all_goals
     go_wp2_with fail
     go_quiet (fail)
     go_wp2
     refine⟨⟨i+1,_,I,Jn,F,?_,B,S (k.trans ⟨F,F,F,yk,λ_ _=>F⟩)⟩,Ji⟩
     rw[zQ,zQ];show _+_+1<=_;omega
  .obtain rfl:i=n:=I;have R:¬ (i:Int)<=hK:=I;have HF:=S (by unfold GA;rw[<-D HN];exact D HE:GA s o b t);go_wp2;go_ret;exact⟨⟨t,F,I,HF⟩,M.trans (A.mono M.size)⟩
def L7(o b l a):=(Bb (AA l) o/\a=ZR (dW b))\/(¬ Bb (AA l) o/\a=l)
def J6(o b:Ad):List ByteArray->List ByteArray->Prop
 |[],ls'=>ls'=[]
 |l::a,ls'=>∃c d,ls'=c::d/\L7 o b l c/\J6 o b a d
def jn(a:Jv):ByteArray:=⟨(Lib.join (a.map (·.data.toList)) [10]).toArray⟩
def zbR(x):jn [x]=x:=by
 cases x
 simp[jn,Lib.join_one]
def YO(x y a):jn (x::y::a)=x++⟨#[10]⟩++jn (y::a):=by apply jy;simp[jn,Lib.join,List.intercalate,List.intersperse]
def qC:AA j6=[]:=by have h:=Mf j6 0 yk;have e:nx 32 j6 0=0:=JP yk yk yk (λk _ h=>I) (λh=>by simp at h);rw[WQ,h,e];simp
def L7.nil{o b l}(h:L7 o b j6 l):l=j6:=by
 rcases h with⟨h,_⟩|⟨_,h⟩
 .rw[qC]at h;obtain⟨k,t,l,_,⟨e,_⟩|⟨_,e,_⟩⟩:=h<;>cases e
 .exact h
theorem zbS{z a}(d:z<s.size)(c:bt s z=10)(b:a<=z):nx 10 (s.extract 0 (z+1)) a=nx 10 s a/\nx 10 s a<=z:=by grind [D2,nx,ZW,bt,Od,JP]
theorem YP{z a}(d:z<s.size)(c:bt s z=10)(b:a<=z):AD 10 (s.extract 0 (z+1)) a=(a,nx 10 s a)::AD 10 (s.extract 0 (z+1)) (nx 10 s a+1):=by grind [zbS,ZW,EC]
theorem zZn(s:JZ){z a q}(b:q<=z+1):(s.extract 0 (z+1)).extract a q=s.extract a q:=by rw[ByteArray.extract_extract];grind
theorem zZo{z}(a:z<s.size):AD 10 (s.extract 0 (z+1)) (z+1)=[(z+1,z+1)]:=by grind [ZW,nx,JP,EC]
theorem Xm{s o b u os' N l L}(d:N≠j6):∀(f a i m:Nat)(us:Jv)(os:Jf),s.size-a<f->a<=s.size->L.drop i=AD 10 s a->A2 s (AD 10 s a) m us os u os' N 0 l ->
  ∃z,z<s.size/\a<=z/\bt s z=10/\N=s.extract (z+1) s.size/\∀k v,DW s o b L i k->J6 o b ((AD 10 (s.extract 0 (z+1)) a).map λp=>(s.extract 0 (z+1)).extract p.1 p.2) v->DW s o b L (BQ s (AD 10 s a) i) (k++jn v)
 |0,a,i,m,us,os,hf,ha,hd,w=>I
 |f+1,a,i,m,us,os,hf,ha,hd,w=>by
  obtain⟨R,h2,h3,T⟩:=D2 10 s a ha;have K:=EC 10 s a ha;obtain⟨q,V⟩:=Jx (nx 10 s a);rw[<-V]at R h2 h3 T K;have X:L.getD i (0,0)=(a,q):=by have:=yY (λx=>x.getD 0 (0,0)) hd;simp only[K]at this;simpa[yq,List.getElem?_drop] using this
  have one:∀{z t k},q<=z+1->L7 o b ((s.extract 0 (z+1)).extract a q) t->DW s o b L i k->DW s o b L (i+1) (k++t++⟨#[10]⟩):=by
   intro z t k c n A;rw[zZn s c]at n;refine⟨k,A,?_⟩;rw[X];rcases n with⟨x,rfl⟩|⟨x,rfl⟩
   .exact yW ⟨x,F⟩
   .exact yX ⟨x,F⟩
  rw[K]at w ⊢;rcases w with⟨hw,_,_,U,_⟩|⟨hw,⟨us',os2,_,w⟩|⟨_,_,_,_,hc,_⟩⟩
  .have H:q<s.size:=by
    rcases Nat.lt_or_ge q s.size with h|h
    .exact h
    .rw[CE,yS I]at U;exact yV U d
   refine⟨q,H,R,T H,by rw[U,CE,yU H],λk v A n=>?_⟩;rw[YP H (T H) R,<-V,zZo H]at n;simp only[jC,List.map_nil,J6]at n;obtain⟨t,r',C,r1,l2,B,M,r3,e6⟩:=n;rw[e6]at M;rw[M]at C;rw[C];have e7:(s.extract 0 (q+1)).extract (q+1) (q+1)=j6:=by apply jy;simp
   rw[e7]at r3;have e2:=r3.nil;have Q:BQ s ((a,q)::(if q<s.size then AD 10 s (q+1) else[])) i=i+1:=by simp only[BQ];rw[yU hw]
   rw[Q,YO,zbR,e2];have:=one (Nat.le_succ q) r1 A;have P:k++(t++⟨#[10]⟩++j6)=k++t++⟨#[10]⟩:=by apply jy;simp
   rw[P];exact this
  .have H:q<s.size:=by
    rcases Nat.lt_or_ge q s.size with h|h
    .exact h
    .rw[yS I]at w;have:=w.2.2.2.1;cases this
   rw[yU H]at w;obtain⟨z,z1,z2,z3,z4,z5⟩:=Xm d f (q+1) (i+1) (m+1) us' os2 I I (by
    have:=yY List.tail hd
    rw[K,yU H]at this
    simpa[List.tail_drop] using this) w
   refine⟨z,z1,I,z3,z4,λk v A n=>?_⟩;rw[YP z1 z3 I,<-V]at n;simp only[jC,J6]at n;obtain⟨t,r',C,r1,B⟩:=n;rw[C];have Q:BQ s ((a,q)::(if q<s.size then AD 10 s (q+1) else[])) i=BQ s (AD 10 s (q+1)) (i+1):=by simp only[BQ];rw[yS hw,yU H]
   rw[Q];have hx:=z5 _ _ (one I r1 A) B;have j:∃y g,r'=y::g:=by
    have hs:(s.extract 0 (z+1)).size=z+1:=by rw[ZW];omega
    rw[EC 10 _ (q+1) (by omega)]at B;simp only[jC,J6]at B;obtain⟨y,g,e,_⟩:=B;exact⟨y,g,e⟩
   obtain⟨y,g,M⟩:=j;rw[M]at hx ⊢;rw[YO];have P:k++(t++⟨#[10]⟩++jn (y::g))=k++t++⟨#[10]⟩++jn (y::g):=by apply jy;simp
   rw[P];exact hx
  .cases hc
def zbT{o b u f c l}(h:ZC s u f c 0 l)(H:c≠j6):∃z,z<s.size/\c=s.extract (z+1) s.size/\∀a,J6 o b ((AD 10 (s.extract 0 (z+1)) 0).map λp=>(s.extract 0 (z+1)).extract p.1 p.2) a->IL s o b (jn a):=by
 rcases h with⟨_,_,_,_,h,_⟩|⟨_,h⟩
 .cases h
 obtain⟨z,g,_,_,i,j⟩:=Xm (o:=o) (b:=b) (L:=AD 10 s 0) H (s.size+1) 0 0 _ _ _ I yn F h;refine⟨z,g,i,λa d=>⟨_,F,?_⟩⟩;have:=j ⟨#[]⟩ a F d;have e:(⟨#[]⟩:JZ)++jn a=jn a:=by apply jy;simp
 rw[e]at this;exact this
