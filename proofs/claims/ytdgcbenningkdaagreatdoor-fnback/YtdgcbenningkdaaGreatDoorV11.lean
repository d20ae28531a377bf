import Derived.Test.YtdgcbenningkdaaGreatDoorV09
import Derived.Test.YtdgcbenningkdaaGreatDoorV10
namespace Go.Proofs.YtdgcbenningkdaaGreatDoor
set_option linter.all false
set_option maxHeartbeats 0
set_option maxRecDepth 100000
open Proofs.Tryz RowKit
variable{B C H P R X b bs cm i j n o s:Nat}{a G' G'':ByteArray -> Option Value}{T:Nat -> List Ad}{U U0:List GC}{c w w' w0 w1 wr:World}{acc os:List Ad}{am:Option Addr}{ks rs us ws:List ByteArray}{kv kv1 v v1:Value}{ms:List zF}{nm:ByteArray -> Nat}{ob:Obj}{out:List (List Ad)}{pv pv1:Option Nat}{rk:Nat -> Nat}{t:Ad}{u:ByteArray}{vs:List AO}
open _root_.Array renaming size→O
open List renaming length→Z
open Option renaming some→E,none→JL
open Obj renaming cells→JM
open Bool renaming false→Vt,true→Vp
open Proofs.Tryz renaming prog→Vb
open Value renaming agg→b9,tuple→i5,slice→i6,bool→i7,ownBlock→i8
open Ending renaming returned→i9
def zu.mono{b}(h:zu w B v ws)(f:b<=B):zu w b v ws:=by
 obtain⟨c,d|⟨g,a,H,j,i,e⟩⟩:=h
 .exact⟨c,yW d⟩
 .exact⟨c,yX ⟨g,a,H,j,yy f i,e⟩⟩
def Wn(w:JY)(a:Jv)(k p)(h:a[k]?=E p):(w.alloc (JM (a.map Value.string).toArray 9)).cell? (J (O w.1) k)=E (W p):=by have:=yF (w:=w.alloc (JM (a.map Value.string).toArray 9)) (b:=O w.1) (jL w _) 0 (Z a);have c:=this k (W p) (by simp[List.getElem?_take,h,(jf.1 h).1];exact(jf.1 h).2);simpa using c
def UM(s w)(T:s.size<=20000)(M:CP w):Calls Vb 127 #[W s] w (Yk w s):=by
 go_enter func127,ntmps127;go_wp2_with (go_at_call 125;refine(pG s T w M).mono ?_;rintro e w1 ⟨c,C,N,rfl,d⟩;have A:Hid (∀k p,c[k]?=E p->w1.cell? (J (O w.1) k)=E (W p)):=λk p n=>(by rw[d];exact Wn w c k p n);have X:=S (show Qb w w1 from(by rw[d];exact zC));have V:O w.1+1<=O w1.1:=(by rw[d];simp);clear d);go_loopw [3,9] (λout i wr=>∃(k:Nat)(us:Jv)(v:Value),k<=Z c/\i=G k/\out=v/\Z us<=k/\Hid (us=Gw (c.take k))/\Hid (zu wr (O w1.1) v us)/\Qb w1 wr) (λ_ i _=>Z c-(intOf i).toNat);case atStart=>exact⟨0,[],_,yn,F,F,yn,S F,S jt,yN⟩
 case round=>
  obtain⟨k,us,v,n,rfl,rfl,u,g,f,h⟩:=hrel;by_cases y:k<Z c
  .have a:(k:Int)<Z c:=I;obtain⟨p,o⟩:∃p,c[k]?=E p:=⟨_,yt y⟩;have hc:wr.cell? (J (O w.1) k)=E (W p):=Jc h (I:O w.1<O w1.1) (A k p o);have l:=S (oK c k p o);by_cases m:0<p.size
   .have U:=Pj (t:=p) I;have K:=S (by rw[D l,yU m,D g]:Gw (c.take (k+1))=us++[p]);go_wp2_with (at_builtin;refine As Z7 underlying63 (.tmp 15) (.tmp 17) F rfl (O w1.1) _ (Z us) (zU us) F (f.y zC) (J (O wr.1) 0) 1 1 (zU [p]) F rfl (Ju (Zu wr p)) (ZA _) Jm I (by have:=h.size;simp;omega) ?_);intro v4 z Q H j P;have L:=S (show zu z (O w1.1) v4 (us++[p]) by
     unfold zu
     rw[Zi,yr]
     exact Q)
    have x:Qb w1 z:=(h.alloc h.size _).grown H (by have:=h.size;simp;omega) (λq R=>(f.lt q R).1);go_wp2;exact⟨⟨k+1,us++[p],_,I,Jn,F,Jq,S K.symm,L,x⟩,Ji⟩
   .obtain rfl:=Pk (t:=p) I;have K:=S (by rw[D l,yS m,D g,List.append_nil]:Gw (c.take (k+1))=us);go_wp2;exact⟨⟨k+1,us,_,I,Jn,F,I,S K.symm,f,h⟩,Ji⟩
  .have b:k=Z c:=I;have B:=S (by rw[D g,b,jJ,D C]:us=AA s);go_wp2;go_ret;have e:=D B;subst e;exact⟨_,F,f.mono I,I,X.trans (h.mono I)⟩
def eB(a c n w)(b:n<3):Calls Vb 126 #[.slice a n c] w λe w'=>(∃o:Ad,e=i9 (i5 #[b9 #[W o.s,G o.k,G o.l,G o.sd],i7 Vt]))/\Qb w w':=by
 have h:(n:Int)<3:=I;go_enter func126,ntmps126;go_wp2;refine yQ (v:=i5 #[b9 #[W ⟨#[]⟩,G 0,G 0,G 0],i7 Vt]) ?res F ⟨⟨Ad.zero,F⟩,?_⟩;case res=>simp[results,results126,go_sem]
 exact zC
def vA{k}:(Ep k=1/\k=DH)\/(Ep k=2/\k=DJ)\/(Ep k=3/\k=Z9)\/(Ep k=0/\k≠DH/\k≠DJ/\k≠Z9):=by
 unfold Ep;by_cases a:k=DH
 .rw[yU a];exact yW ⟨F,a⟩
 by_cases b:k=DJ
 .rw[yS a,yU b];exact yX (yW ⟨F,b⟩)
 by_cases c:k=Z9
 .rw[yS a,yS b,yU c];exact yX (yX (yW ⟨F,c⟩))
 .rw[yS a,yS b,yS c];exact yX (yX (yX ⟨F,a,b,c⟩))
def dM(g c n k t l sd w)(hn:3<=n)(C:l.size<=maxLen)(c0:w.cell? (J g 0)=E (W k))(c1:w.cell? (J g 1)=E (W t))(c2:w.cell? (J g 2)=E (W l))(c3:4<=n->w.cell? (J g 3)=E (W sd)):Calls Vb 126 #[Ql g n c] w (SE w n k t l sd):=by
 have hg:g<O w.1:=jk _ _ c0;have o:g≠O w.1:=I;have N:¬ (n:Int)<3:=I;have T:(0:Int)<n:=I;have i:(1:Int)<n:=I;have ha:(2:Int)<n:=I;have B:=S c3;clear c3;cases hl:DP l
 .have HX:Hid (∀he:JY,Calls Vb 174 #[W l] he λe w'=>e=i9 (i7 Vt)/\w'=he):=λhe=>by have h:=TS l he C;rw[hl]at h;exact h
  have HA:=S (W7 (n:=n) (k:=k) (t:=t) (sd:=sd) hl);clear hl;go_enter func126,ntmps126;go_wp2_with (go_at_call 174;(with_reducible refine((D HX) _).mono ?_);rintro e w1 ⟨rfl,hx⟩;obtain rfl:=hx.symm;clear hx);refine yQ (v:=i5 #[b9 #[W ⟨#[]⟩,G 0,G 0,G 0],i7 Vt]) ?res F ⟨Ad.zero,Vt,F,yX ⟨F,HA⟩,?_⟩;case res=>simp[results,results126,go_sem]
  exact zC
 obtain⟨V,hV⟩:∃V:Nat,V=Zq l l.size:=⟨_,F⟩;have HX:Hid (∀he:JY,Calls Vb 174 #[W l] he λe w'=>e=i9 (i7 Vp)/\w'=he):=λhe=>by have h:=TS l he C;rw[hl]at h;exact h
 have HT:Hid (∀he:JY,Calls Vb 175 #[W l] he λe w'=>e=i9 (i5 #[G V,.nilIface])/\Qb he w'):=λhe=>by have h:=wZ l hl he;rw[<-hV]at h;exact h
 have hb:=S hl;have HV:=S hV;clear hl hV;obtain⟨KI,P⟩:∃KI:Int,KI=Ep k:=⟨_,F⟩;have HK:Hid (∀he:JY,Calls Vb 176 #[W k] he λe w'=>e=i9 (G KI)/\w'=he):=λhe=>by rw[P];exact dR k he
 have K:=S P;clear P;have HZ:=S (show Lz (w.alloc (JM #[W ⟨#[]⟩,G 0,G 0,G 0] 25)) (O w.1) Ad.zero from⟨⟨by simp[go_sem,Ad.zero],by simp[go_sem,Ad.zero],by simp[go_sem,Ad.zero],by simp[go_sem,Ad.zero]⟩,Jg,Jg,Jg,Jg⟩);go_enter func126,ntmps126;go_wp2_with (first|(go_at_call 174;(with_reducible refine((D HX) _).mono ?_);rintro e w1 ⟨rfl,hx⟩;obtain rfl:=hx.symm;clear hx)|(go_at_call 175;(with_reducible refine((D HT) _).mono ?_);rintro e w1 ⟨rfl,hb1⟩;have X:=S ((@zC w _).trans (hb1.mono Js));have U:=S (HZ.y hb1 Js);have z1:O w.1+1<=O w1.1:=(Jz hb1.size);clear hb1));have d0:w1.cell? (J g 0)=E (W k):=Jc X hg c0;have d1:w1.cell? (J g 1)=E (W t):=Jc X hg c1;have a:Hid (4<=n->w1.cell? (J g 3)=E (W sd)):=λh=>Jc X hg (B h)
 clear c0 c1 c2 B HZ HX HT;go_cut [6] (λs4 wc=>∃b4:Nat,s4 = Qp b4/\O w.1<b4/\b4<O wc.1/\Hid (Lz wc b4 ⟨t,KI,(V:Int),0⟩)/\Hid (Qb w1 wc));case first=>
  have m:g<O w1.1:=I;go_region_held (λw'=>w'.cell? (J g 0)=E (W k)/\w'.cell? (J g 1)=E (W t)) (go_keep)
   (first|(go_at_call 176;have d:=(D HK);(with_reducible refine(d _).mono ?_);rintro e w2 ⟨rfl,hx⟩;obtain rfl:=hx.symm;clear hx d))
  all_goals
   go_wp2
   go_meet
   case rel=>go_light;exact⟨O w1.1,F,I,Js,S ⟨⟨Jg,Jg,Jg,Jg⟩,Jg,Jg,Jg,Jg⟩,S ((zC).drew)⟩
 case rest=>
  obtain⟨b4,rfl,M,L,z,hf⟩:=hcut;have Q:=S (X.trans (hf.mono I));have A:=S (U.y hf I);obtain⟨⟨p0,p1,p2,p3⟩,f0,f1,f2,f3⟩:=D z;obtain⟨⟨r0,r1,r2,r3⟩,z0,z1',z2,z3⟩:=D A;simp only[Ad.zero]at p0 p1 p2 p3 r0 r1 r2 r3;have e1:b4≠O w.1:=I;have e2:O w.1≠b4:=I;have e3:b4≠g:=I;have e4:g≠b4:=I;have f:Hid (4<=n->wc.cell? (J g 3)=E (W sd)):=λh=>Jc hf (I:g<O w1.1) (a h)
  clear z A a d0 d1 HK U hf X;rcases vA (k:=k) with⟨hk,q⟩|⟨hk,q⟩|⟨hk,q⟩|⟨hk,u,s,b⟩
  .have H:=S (U7 (n:=n) (t:=t) (sd:=sd) hb q);obtain rfl:KI=1:=K.trans hk;by_cases h3:n=3
   .have HA:=S (by rw[D H,yU h3,D HV]:CF n k t l sd=E ⟨t,1,(V:Int),0⟩);have j:((n:Int)==3)=Vp:=Jq;clear h3 H hk q K;go_wp2;refine yQ (v:=i5 #[b9 #[W t,G 1,G V,G 0],i7 Vp]) ?res F ⟨⟨t,1,(V:Int),0⟩,Vp,F,yW ⟨F,HA⟩,?_⟩;case res=>simp[results,results126,go_sem,r0,r1,r2,r3,e1,e2,e3,e4]
    exact zX yk [W t,G 1,G V,G 0] 0 _ Q
   .have HA:=S (by rw[D H,yS h3]:CF n k t l sd=JL);have j:((n:Int)==3)=Vt:=Jq;clear h3 H hk q K;go_wp2;refine yQ (v:=i5 #[b9 #[W t,G 1,G V,G 0],i7 Vt]) ?res F ⟨⟨t,1,(V:Int),0⟩,Vt,F,yX ⟨F,HA⟩,?_⟩;case res=>simp[results,results126,go_sem,r0,r1,r2,r3,e1,e2,e3,e4]
    exact zX yk [W t,G 1,G V,G 0] 0 _ Q
  .have H:=S (VR (n:=n) (t:=t) (sd:=sd) hb q);obtain rfl:KI=2:=K.trans hk;by_cases h4:n=4
   .have R:((n:Int)==4)=Vp:=Jq;have hc:(3:Int)<n:=I;have k3:=(D f) I;obtain⟨hd,hS⟩:∃hd:Int,hd=Bn sd:=⟨_,F⟩;have HS:Hid (∀he:JY,Calls Vb 177 #[W sd] he λe w'=>e=i9 (G hd)/\w'=he):=λhe=>by rw[hS];exact dQ sd he
    have HA:=S (show ∀v:Bool,v=(hd != 0)->(v=Vp/\CF n k t l sd=E ⟨t,2,(V:Int),hd⟩)\/(v=Vt/\CF n k t l sd=JL) from λv hv=>by
     rw[D H]
     by_cases y:hd=0
     .right
      exact⟨by rw[hv];simp[y],by rw[yS (λx=>x.2 (hS.symm.trans y))]⟩
     .left
      exact⟨by rw[hv];simp[y],by rw[yU ⟨h4,λx=>y (hS.trans x)⟩,D HV,hS]⟩)
    clear H hS h4 hk q K;go_wp2_with (first|(go_at_call 177;(with_reducible refine((D HS) _).mono ?_);rintro e w2 ⟨rfl,hx⟩;obtain rfl:=hx.symm;clear hx));go_region;go_wp2;refine yQ (v:=i5 #[b9 #[W t,G 2,G V,G hd],i7 (hd != 0)]) ?res F ⟨⟨t,2,(V:Int),hd⟩,(hd != 0),F,HA _ F,?_⟩;case res=>simp[results,results126,go_sem,r0,r1,r2,r3,e1,e2,e3,e4]
    exact zX yk [W t,G 2,G V,G hd] 0 _ (Q.setCell (p:=J b4 3) (I:O w.1<=b4) _).drew
   .have HA:=S (by rw[D H,yS (λx=>h4 x.1)]:CF n k t l sd=JL);have R:((n:Int)==4)=Vt:=Jq;clear h4 H hk q K;go_wp2;refine yQ (v:=i5 #[b9 #[W ⟨#[]⟩,G 0,G 0,G 0],i7 Vt]) ?res F ⟨Ad.zero,Vt,F,yX ⟨F,HA⟩,?_⟩;case res=>simp[results,results126,go_sem,r0,r1,r2,r3]
    first
     |exact Q
     |exact zX yk [W ⟨#[]⟩,G 0,G 0,G 0] 0 _ Q
  .have H:=S (Uy (n:=n) (t:=t) (sd:=sd) hb q);obtain rfl:KI=3:=K.trans hk;by_cases h3:n=3
   .have HA:=S (by rw[D H,yU h3,D HV]:CF n k t l sd=E ⟨t,3,(V:Int),0⟩);have j:((n:Int)==3)=Vp:=Jq;clear h3 H hk q K;go_wp2;refine yQ (v:=i5 #[b9 #[W t,G 3,G V,G 0],i7 Vp]) ?res F ⟨⟨t,3,(V:Int),0⟩,Vp,F,yW ⟨F,HA⟩,?_⟩;case res=>simp[results,results126,go_sem,r0,r1,r2,r3,e1,e2,e3,e4]
    exact zX yk [W t,G 3,G V,G 0] 0 _ Q
   .have HA:=S (by rw[D H,yS h3]:CF n k t l sd=JL);have j:((n:Int)==3)=Vt:=Jq;clear h3 H hk q K;go_wp2;refine yQ (v:=i5 #[b9 #[W t,G 3,G V,G 0],i7 Vt]) ?res F ⟨⟨t,3,(V:Int),0⟩,Vt,F,yX ⟨F,HA⟩,?_⟩;case res=>simp[results,results126,go_sem,r0,r1,r2,r3,e1,e2,e3,e4]
    exact zX yk [W t,G 3,G V,G 0] 0 _ Q
  .have HA:=S (Vv (n:=n) (t:=t) (l:=l) (sd:=sd) u b s);obtain rfl:KI=0:=K.trans hk;clear hk u s b K;go_wp2;refine yQ (v:=i5 #[b9 #[W ⟨#[]⟩,G 0,G 0,G 0],i7 Vt]) ?res F ⟨Ad.zero,Vt,F,yX ⟨F,HA⟩,?_⟩;case res=>simp[results,results126,go_sem,r0,r1,r2,r3]
   first
    |exact Q
    |exact zX yk [W ⟨#[]⟩,G 0,G 0,G 0] 0 _ Q
def T3(v b w)(o:ZM w v b)(p:∀x∈b,x.size<=maxLen):Calls Vb 126 #[v] w (Tf w b):=
 Yl 126 v b w o p (λa c n w h=>eB a c n w h) (λg c n k t l q w d e f i j m=>dM g c n k t l q w d e f i j m)
def Pu(w B U f d b j e i):=
 ∃ok:Bool,e=i9 (i7 ok)/\((ok=Vp/\∃c a h g,Dk j f d c a/\Cb i B U h g c a b/\Z c<=Z f+1/\Z a<=Z d+1)\/(ok=Vt/\∀c a,¬ Dk j f d c a))/\Below B w i
def sX(c:ws≠[])(d:∀x,ws≠[J2,x])(f:∀o,¬ Bb ws o):∀b a,¬ Dk ws us os b a:=by
 rintro b a (⟨e,_⟩|⟨x,e,_⟩|⟨o,e,_⟩)
 .exact c e
 .exact d x e
 .exact f o e
def vB(B U t i g a b k o){w j d c f}(h:Cb w B U t i g a b)(q:Bb k o)(n:Qb w j)(H:d.ownsRow B 25 4 (Ql c (Z a+1) f) (Z a+1) (zn a++zn [o]))(p:j.grownBy d i.ownBlock)(K:i.ownBlock=E c\/c=O j.1):Pu w B U g a b k (i9 (i7 Vp)) (d.setCell (J U 1) (Ql c (Z a+1) f)):=by
 have s:AQ d B (Ql c (Z a+1) f) (a++[o]):=by unfold AQ;rw[Zo,yr];exact H
 obtain⟨l,m⟩:=h.putO n p s (K.imp (λe=>e.symm) (λe=>⟨c,F,I⟩));exact⟨Vp,F,yW ⟨F,g,a++[o],_,_,yX (yX ⟨o,q,F,F⟩),l,I,Js⟩,m⟩
def sY(B U i p a g b x){w j d c f}(h:Cb w B U i p a g b)(m:Qb w j)(H:d.ownsRow B 9 1 (Ql c (Z a+1) f) (Z a+1) (zU a++zU [x]))(n:j.grownBy d i.ownBlock)(K:i.ownBlock=E c\/c=O j.1):Pu w B U a g b [J2,x] (i9 (i7 Vp)) (d.setCell (J U 0) (Ql c (Z a+1) f)):=by
 have o:zu d B (Ql c (Z a+1) f) (a++[x]):=by unfold zu;rw[Zi,yr];exact H
 obtain⟨k,l⟩:=h.putU m n o (K.imp (λe=>e.symm) (λe=>⟨c,F,I⟩));exact⟨Vp,F,yW ⟨F,a++[x],g,_,_,yX (yW ⟨x,F,F,F⟩),k,Js,I⟩,l⟩
def pP(B U vu vo v us os b ws w)(h:Cb w B U vu vo us os b)(hs:ZM w v ws)(hz:∀x∈ws,x.size<=maxLen)(V:∀g,v.ownBlock=E g->g≠U/\vu.ownBlock≠E g)(N:Z us<=20001)(hi:Z os<=20001)(M:Z ws<=20001):Calls Vb 195 #[Qp U,v] w (Pu w B U us os b ws):=by
 have hl:=h.lt;have t:=h.hB;have HU:=S h;by_cases h0:Z ws=0
 .have e0:ws=[]:=jg.1 h0;obtain⟨a,c,rfl,_⟩:=hs;rw[h0];have HP:=S (show Pu w B U us os b ws (i9 (i7 Vp)) w from⟨Vp,F,yW ⟨F,us,os,vu,vo,yW ⟨e0,F,F⟩,h,I,I⟩,yN⟩);clear h e0 h0;go_enter func195,ntmps195;go_wp2;go_ret;exact HP
 by_cases y:∃x,ws=[J2,x]
 .obtain⟨x,rfl⟩:=y;obtain⟨gw,c,rfl,ha,hc⟩:=hs.lt Js;have k0:w.cell? (J gw 0)=E (W ⟨#[117,115,101]⟩):=hc 0 _ F;have k1:w.cell? (J gw 1)=E (W x):=hc 1 _ F;have T:[J2,x].length=2:=F;rw[T];have u0:=h.c0;have f0:=h.fz 0;obtain⟨au,cu,rfl⟩:=zS h.ru;have n:=S (V gw F).2;have R:gw≠U:=(V gw F).1;have X:=S (λ(w1 w4:JY)(hb:Qb w w1)(hg:w1.grownBy w4 (i6 au (Z us) cu).ownBlock)=>h.keep hb (yW F) hg);have hh:=S (λ(w1 w4:JY)(g4 c4:Nat)=>@sY B U (i6 au (Z us) cu) vo us os b x w w1 w4 g4 c4 h);have f:=S h.ru;clear h hc hz hs V;go_enter func195,ntmps195;go_wp2_with fail;go_region_law (refine De Z7 underlying63 (.tmp 23) (.tmp 27) (by rfl) (by rfl) B _ (Z us) (zU us) (by rfl) (f.y ((zC).drew)) (J (O w.1) 0) 1 1 (zU [x]) (by rfl) F (λj u hj=>Zu w x j u hj) (ZA _) Jd Jm I Jq _ F ?_;intro g4 c4 w4 K H Q P;obtain⟨kc,kf⟩:=(D X) _ _ (zC).drew H;have m0:=(kc 0).trans u0;have g0:=kf 0;have A:=S (hh _ _ _ _ (zC).drew K H Q);clear K H Q P kc kf);all_goals
   go_wp2
   go_ret
   exact A
 have z:ws≠[]:=λe=>h0 (by rw[e];rfl)
 have L:∀x,ws≠[J2,x]:=λx e=>y ⟨x,e⟩
 obtain⟨gw,c,rfl,ha,hc⟩:=hs.lt I;have HD:=S (T3 _ ws w hs hz);obtain⟨k,hk⟩:∃k,ws[0]?=E k:=⟨_,yt I⟩;have k0:=hc 0 k hk;have C:((Z ws:Int)==2)=Vt\/(((Z ws:Int)==2)=Vp/\(k.toList==[117,115,101])=Vt):=by
  by_cases e:Z ws=2
  .right;refine⟨Jq,LK (λek=>?_)⟩;match ws,e,hk with
   |[p,q],_,hk=>simp at hk;exact y ⟨q,by rw[hk,ek];rfl⟩
  .left;simp;omega
 have he:((Z ws:Int)==0)=Vt:=Jq;have m:(0:Int)<Z ws:=I;have u1:=h.c1;have f1:=h.fz 1;obtain⟨ao,co,rfl⟩:∃a c,vo=i6 a (Z os) c:=zS h.ro;have X:=S (λ(w1 w4:JY)(hb:Qb w w1)(hg:w1.grownBy w4 (i6 ao (Z os) co).ownBlock)=>h.keep hb (yX F) hg);have hh:=S (λ(o:Ad)(ho:Bb ws o)(w1 w4:JY)(g4 c4:Nat)=>@vB B U vu (i6 ao (Z os) co) us os b ws o w w1 w4 g4 c4 h ho);have i:=S h.ro;have d:=S (λ(ho:∀o,¬ Bb ws o)=>sX (us:=us) (os:=os) z L ho);rcases C with s|⟨s,hf⟩;all_goals
  go_enter func195,ntmps195
  go_wp2_with fail
  go_call D HD as e w1 ⟨o,ok,rfl,hcase,hb1⟩
  have hd:=S hb1
  have z1:=hb1.size
  have v1:w1.cell? (J U 1)=E (i6 ao (Z os) co):=Jc hb1 hl u1
  rcases hcase with⟨rfl,ho⟩|⟨rfl,ho⟩
  .have HO:=S ho
   go_wp2_with fail
   have l:U<O w1.1:=I
   have v2:(w1.alloc (JM #[W o.s,G o.k,G o.l,G o.sd] 25)).cell? (J U 1)=E (i6 ao (Z os) co):=Jc (@zC w1 _) l v1
   go_region_law (refine De Fz underlying43 (.tmp 41) (.tmp 43) (by rfl) (by rfl) B _ (Z os) (zn os) (by rfl) (i.y ((hd.alloc z1 _).alloc Jq _).drew) (J (O w1.1+1) 0) 1 1 (zn [o]) (by rfl) F (λj u hj=>(Ju (Ij (w1.alloc (JM #[W o.s,G o.k,G o.l,G o.sd] 25)) o j u hj))) (Zw _) Jd Jm I Jq _ F ?_;intro g4 c4 w4 K H Q P;obtain⟨kc,kf⟩:=(D X) _ _ ((hd.alloc z1 _).alloc Jq _).drew H;have m0:w4.cell? (J U 1)=E (i6 ao (Z os) co):=(kc 1).trans ((hd.cell (p:=J U 1) hl).symm.trans v1);have g1:=kf 1;have A:=S (hh o HO _ _ _ _ ((hd.alloc z1 _).alloc Jq _).drew K H Q);clear K H Q P kc kf)
   all_goals
    go_wp2
    go_ret
    exact A
  .have HN:=S (d ho)
   go_wp2
   go_ret
   exact⟨Vt,F,yX ⟨F,HN⟩,(hd.mono I).alloc I _⟩
def TI:Value->Value->Nat
 |.string a,.bool true=>a.size+1
 |_,_=>0
def xN{s}(h:20000<s.size):ZC s [] [] ByteArray.empty 1 0:=yW ⟨h,F,F,F,F,F⟩
def dG(s w)(hs:s.size<=maxLen)(hm:CP w):Calls Vb 150 #[W s] w (NV w s):=by
 by_cases hJ:20000<s.size
 .have hu:(20000:Int)<s.size:=I;have HP:=S (λw'=>Mh (w:=w) (w':=w') (xN hJ));unfold maxLen at hs;clear hJ;go_enter func150,ntmps150;go_wp2;refine yQ (v:=i5 #[b9 #[Jl,Jl,W ⟨#[]⟩],G 1,G 0]) ?res F (HP _ ?_);case res=>simp[results,results150,go_sem]
  first
   |exact zC
   |exact zX yk [Jl,Jl,W ⟨#[]⟩] 0 _ zC
 have hK:s.size<=20000:=I;have hu:¬ (20000:Int)<s.size:=I;have h9:=hm.lt;clear hJ hs;go_enter func150,ntmps150;go_wp2_with fail;obtain⟨W0,u⟩:=Jx ((w.alloc (JM #[Jl,Jl,W ⟨#[]⟩] 65)).alloc (JM #[Jl,Jl,W ⟨#[]⟩] 65));have hw:=S (by rw[u];exact(zC).alloc Js _:Qb w W0);have hr:O w.1+2<=O W0.1:=by rw[u];simp
 have hf:=S (by rw[u];exact⟨Jg,Jg,Jg,λo=>Jg⟩:Ix W0 (O w.1));have hH:=S (by rw[u];exact⟨Jg,Jg,Jg,λo=>Jg,yk,jt,jt,Jb,Jb,λg e=>by cases e⟩:Cb W0 (O w.1+1) (O w.1+1) Jl Jl [] [] ⟨#[]⟩);rw[<-u];clear u;go_loopw [6,7,8] (λrest more num wr=>∃(hM:JZ)(m:Bool)(n:Nat),rest=W hM/\more=i7 m/\num=G n/\n<=20002/\Below (O w.1+1) W0 wr/\((m=Vt/\Hid (ZC s [] [] ByteArray.empty 3 0))\/(m=Vp/\∃(a:Nat)(us:Jv)(os:Jf)(vu vo:Value),a<=s.size/\n<=a+1/\Z us<=a/\Z os<=a/\Hid (hM=s.extract a s.size)/\Hid (Dr s (AD 10 s a) n us os)/\Hid (Cb wr (O w.1+1) (O w.1+1) vu vo us os ⟨#[]⟩)))) (λrest more _ _=>TI rest more);case atStart=>exact⟨s,Vp,1,F,F,F,I,yN,yX ⟨F,0,[],[],_,_,yn,I,yk,yk,S (WV s).symm,S (Dr.start hK),hH⟩⟩
 case round=>
  clear hH;obtain⟨hM,m,n,rfl,rfl,rfl,hn,P,y⟩:=hrel;have A:=S (hw.trans (P.mono I));have h6:=yy hr P.size;obtain⟨y0,y1,y2,y3⟩:=hf.y P I;have i:=S (hm.y A);rcases y with⟨rfl,HE⟩|⟨rfl,a,us,os,vu,vo,ha,h4,h8,h3,HR,HT,HU⟩
  .have HP:=S (λw'=>Mh (w:=w) (w':=w') HE);have y30:=y3 0;have y31:=y3 1;have y32:=y3 2;go_wp2;refine yQ (v:=i5 #[b9 #[Jl,Jl,W ⟨#[]⟩],G 3,G 0]) ?res F (HP _ ?_);case res=>simp[results,results150,go_sem,y0,y1,y2]
   first
    |exact A
    |exact zX yk [Jl,Jl,W ⟨#[]⟩] 0 _ A
  .obtain⟨z,hz⟩:=Jx (nx 10 s a);obtain⟨g1,g2,g3,g4⟩:=D2 10 s a ha;rw[<-hz]at g1 g2;have Q:=EC 10 s a ha;rw[<-hz]at Q;obtain⟨t,ht⟩:=Jx (s.extract a z);have hi:t.size<=20000:=by rw[ht,ZW];omega
   have V:=S (zaq s hM a HR ha hK wr i);rw[<-hz,<-ht]at V;have f:=S (Q ▸ D HT);have hB:hM.size=s.size-a:=by rw[D HR,ZW,Nat.min_self]
   have h0:=S hB;have U:=S ht;obtain⟨mo,K⟩:=Jx (decide (z<s.size));rw[<-K]at V;have hG:=S K;have h7:=HU.lt;have hy:=S y3;have y30:=y3 0;have y31:=y3 1;have y32:=y3 2;clear hz g3 g4 Q ht hB HT K hm hf HR y3;go_wp2_with fail;go_call D V as e w1 ⟨rfl,hb1⟩;have hj:=S hb1;have z1:=hb1.size;have hC:=S (UM t w1 hi (i.y hb1));clear hb1 V i;go_wp2_with fail;go_call D hC as e w2 ⟨v,rfl,hr2,hl2,hb2⟩;obtain⟨ws,B⟩:=Jx (AA t);rw[<-B]at hr2 hl2;have j:=S B;have b:=S (hj.trans (hb2.mono z1));have z2:=yy z1 hb2.size;have X:=S (HU.y b);have d:=S (A.trans (b.mono I));have hb:=S (P.trans (b.mono I));have Q:=S hr2.strs;have hD:=S (show ∀q,v.ownBlock=E q->q≠O w.1+1/\vu.ownBlock≠E q from λq e=>by
    have:=(hr2.lt q e).1
    exact⟨I,λe2=>Jy ((HU.ru.lt q e2).2)⟩)
   have hE:=S (show ∀x∈ws,x.size<=maxLen from λx hx=>by
    have:=PB (l:=t) (by rw[<-D j];exact hx)
    unfold maxLen
    omega)
   obtain⟨x0,x1,x2,x3⟩:Ix w2 (O w.1):=Ix.y ⟨y0,y1,y2,λo=>hy o⟩ b I;have x30:=x3 0;have x31:=x3 1;have x32:=x3 2;have hg:Z ws<=20001:=I;by_cases h:ws=[Cd]
   .have HI:Hid (ZC s us os (CE s z) 0 0):=f.begin (by show AA (s.extract a z)=_;rw[<-D U,<-D j];exact h);obtain⟨gw,c,rfl,ho,hc⟩:=Q.lt (by rw[h];simp);have k0:w2.cell? (J gw 0)=E (W ⟨#[98,101,103,105,110]⟩):=hc 0 _ (by rw[h];rfl);have M:Z ws=1:=by rw[h];rfl
    rw[M];obtain⟨au,cu,rfl⟩:=zS X.ru;obtain⟨ao,co,rfl⟩:∃a c,vo=i6 a (Z os) c:=zS X.ro;have u0:=X.c0;have u1:=X.c1;have u2:=X.c2;have f2:=X.fz 2;obtain⟨ans,_⟩:=Ui (b':=CE s z) I X d HI I I;have R:=S ans;have e1:O w.1+1≠O w.1:=I;have e2:O w.1≠O w.1+1:=I;clear ans hc h B hr2 hl2 hb2 x3 Q hD hE hC j M;go_wp2_with fail;refine yQ (v:=i5 #[b9 #[.slice au (Z us) cu,i6 ao (Z os) co,W (CE s z)],G 0,G 0]) ?res F R;case res=>simp[results,results150,go_sem,x0,x1,x2,e1,e2,u0,u1,u2]
   .have p:AA (s.extract a z)≠[Cd]:=by rw[<-D U,<-D j];exact h
    have hq:=S (pP (O w.1+1) (O w.1+1) vu vo v us os ⟨#[]⟩ ws w2 X Q hE hD I I hg);have he:=S (λ(hl:∀us' os',¬ Dk ws us os us' os')=>f.bad p (by show ∀us' os',¬ Dk (AA (s.extract a z)) us os us' os';rw[<-D U,<-D j];exact hl));have T:=S (λus' os' (hl:Dk ws us os us' os')=>f.next p (us':=us') (os':=os') (by show Dk (AA (s.extract a z)) us os us' os';rw[<-D U,<-D j];exact hl));have L:((Z ws:Int)==1)=Vt\/(((Z ws:Int)==1)=Vp/\∃gw c k,v = Ql gw (Z ws) c/\w2.cell? (J gw 0)=E (W k)/\(k.toList==[98,101,103,105,110])=Vt):=by
     by_cases e:Z ws=1
     .right;obtain⟨gw,c,hv,ho,hc⟩:=Q.lt I;match ws,e with
      |[k],_=>exact⟨F,gw,c,k,hv,hc 0 k F,LK (λek=>h (by rw[ek];rfl))⟩
     .left;simp;omega
    obtain⟨av,cv,hv⟩:=zS hr2;clear h p B hr2 hl2 hb2 x3 hD hE hC j Q;rcases L with N|⟨N,gw,c,k,h1,k0,hk⟩;all_goals
     first
      |(subst h1;clear hv;have h2:(0:Int)<Z ws:=(Jy (beq_iff_eq.1 N)))
      |subst hv
     go_wp2_with fail
     go_call D hq as e w3 ⟨ok,rfl,y,hb3⟩
     have C:=S (d.trans (hb3.mono I))
     have hI:=S (hb.trans hb3)
     have q0:=Jc hb3 (Nat.lt_succ_self _) x0
     have q1:=Jc hb3 (Nat.lt_succ_self _) x1
     have q2:=Jc hb3 (Nat.lt_succ_self _) x2
     have q30:=Vf hb3 (Nat.lt_succ_self _) x30
     have q31:=Vf hb3 (Nat.lt_succ_self _) x31
     have q32:=Vf hb3 (Nat.lt_succ_self _) x32
     rcases y with⟨rfl,us',os',vu',vo',hF,hp,h5,hA⟩|⟨rfl,hF⟩
     .have hd:=S (T us' os' hF)
      have hh:=S hp
      go_wp2
      refine⟨⟨CE s z,mo,n+1,F,F,Jn,I,hI,?_⟩,?_⟩
      .have K:=D hG
       by_cases H:z<s.size
       .right
        refine⟨by rw[K];simpa using H,z+1,us',os',vu',vo',I,I,I,I,S ?_,S ?_,hh⟩
        .unfold CE;rw[yU H]
        .have:=D hd;rw[yU H]at this;exact this
       .left
        refine⟨by rw[K];simpa using H,S ?_⟩
        have:=D hd
        rw[yS H]at this
        exact this.fin
      .have K:=D hG
       have hB:=D h0
       by_cases H:z<s.size
       .have:mo=Vp:=by rw[K];simpa using H
        subst this
        simp only[TI]
        unfold CE
        rw[yU H,ZW]
        omega
       .have:mo=Vt:=by rw[K];simpa using H
        subst this
        simp only[TI]
        omega
     .have HI:=S (he hF)
      have HP:=S (λw'=>Mh (w:=w) (w':=w') HI)
      go_wp2_with fail
      refine yQ (v:=i5 #[b9 #[Jl,Jl,W ⟨#[]⟩],G 2,G n]) ?res F (HP _ ?_)
      case res=>simp[results,results150,go_sem,q0,q1,q2]
      first
       |exact C
       |exact zX yk [Jl,Jl,W ⟨#[]⟩] 0 _ C
open Go.Maps
def zb8:(25:TypeId)<prog.types.size:=jN Jk
def zbs:(match prog.underlying 25 with|some (.array _ _)|some (.struct _)=>Vp|_=>Vt)=Vp:=Jk
def OL:Keyed Vb 25:=Keyed.of_law (deep_law_laid Xj (m:=3) I zb8 Jk zbs)
def za3:prog.keyType 25=Vp:=Jk
def aZ:prog.cellsOf 25=4:=Jk
def Db(o:Ad):=o.s.size<=maxLen/\(Lit.int .i64 o.k).wf=Vp/\(Lit.int .i64 o.l).wf=Vp/\(Lit.int .i64 o.sd).wf=Vp
def DA(o:Ad):Lit:=.string (keyBytes [.string o.s.data.toList,.int .i64 o.k,.int .i64 o.l,.int .i64 o.sd])
def zbt{o}(h:Db o)(d):prog.keyLits (d+1+1) 25 [.string o.s,.int .i64 o.k,.int .i64 o.l,.int .i64 o.sd]=E [.string o.s.data.toList,.int .i64 o.k,.int .i64 o.l,.int .i64 o.sd]:=by
 obtain⟨a,b,c,e⟩:=h;conv=>lhs;unfold Program.keyLits
 rw[underlying25];simp[aZ,Oi,Oj,bW a d,Qs b d,Qs c d,Qs e d]
def M6{o}(h:Db o):keyOf Vb 25 (b9 #[.string o.s,.int .i64 o.k,.int .i64 o.l,.int .i64 o.sd])=E (DA o):=by
 unfold keyOf;rw[underlying25];have b:(Value.agg #[.string o.s,.int .i64 o.k,.int .i64 o.l,.int .i64 o.sd]).formed Vb 25=Vp:=by simp[Value.formed,underlying25,aZ]
 have a:=zbt h (prog.types.size-1);rw[<-RR]at a;simp only[za3,b,Bool.and_self,if_true];show(prog.keyLits (prog.types.size+1) 25 [.string o.s,.int .i64 o.k,.int .i64 o.l,.int .i64 o.sd]).map _=_;rw[a];rfl
theorem xO{a b}(c:Db a)(d:Db b)(h:DA a=DA b):a=b:=by have p:=M6 c;have q:=M6 d;rw[<-h]at q;have:=OL.inj p q;obtain⟨s,k,l,j⟩:=a;obtain⟨i,f,g,e⟩:=b;grind
def BO(w:JY)(b n)(c:Ad->Option Value):=
 ∃a:DataW Value,w.ownsMap Vb 25 GM b n a/\∀t,Db t->Maps.has a (DA t)=(c t).isSome/\(∀v,c t=E v->∀z,a.atKey (DA t) z=.held v)/\(c t=JL->∀z,a.atKey (DA t) z=z)
def BO.lt{w b n}{c:Ad->Option Value}(h:BO w b n c):b<O w.1:=by obtain⟨a,d,_⟩:=h;exact d.lt
def BO.kept{w w' b n}{c:Ad->Option Value}{row}(h:BO w b n c)(e:w.grownBy w' row)(H:E b≠row):BO w' b n c:=by obtain⟨a,d,h⟩:=h;exact⟨a,d.kept e H,h⟩
def BO.made(w:JY):BO (w.alloc (.map #[] 0)) (O w.1) 0 (λ_=>JL):=
 ⟨.map [],World.ownsMap_made w Vb 25 GM,λt _=>⟨F,λv h=>(by cases h),λ_ z=>F⟩⟩
theorem BO.look{c:Ad->Option Value}{ty e}(h:BO w b n c)(g:prog.underlying ty=E (.map 25 e)){z}(i:(zeroValue e).run Vb w=.ok z w)(d:Db t):(Instr.lookup ty (.map (E b)) (b9 #[W t.s,G t.k,G t.l,G t.sd]) Vp).run Vb w=.ok (i5 #[(c t).getD z,i7 (c t).isSome]) w:=by
 obtain⟨a,f,h⟩:=h;obtain⟨v,l,H,k⟩:=f.look_ok OL g i (zd:=.held z) (zp:=[]) F (M6 d);rw[(h t d).1]at H;have e:v=(c t).getD z:=by
  cases j:c t with
  |none=>grind [GM]
  |some u=>grind [GM]
 grind
theorem BO.put{b:Ad->Option Value}{a:DataW Value}(g:IsMap a)(h:∀t,Db t->Maps.has a (DA t)=(b t).isSome/\(∀v,b t=E v->∀z,a.atKey (DA t) z=.held v)/\(b t=JL->∀z,a.atKey (DA t) z=z)){t}(i:Db t)(v):∀c,Db c->Maps.has (a.put (DA t) (.held v)) (DA c)=(if ZH c t=Vp then E v else b c).isSome/\(∀u,(if ZH c t=Vp then E v else b c)=E u->∀z,(a.put (DA t) (.held v)).atKey (DA c) z=.held u)/\((if ZH c t=Vp then E v else b c)=JL->∀z,(a.put (DA t) (.held v)).atKey (DA c) z=z):=by
 intro c H;by_cases e:ZH c t=Vp
 .have e':c=t:=zZ.1 e;subst e';have f:=OL.key (M6 H);rw[yU e,has_put_same g f];refine⟨F,λu d z=>?_,λd=>by cases d⟩;injection d with d;rw[atKey_put_same g f,d]
 .have K:DA c≠DA t:=λx=>e (zZ.2 (xO H i x))
  rw[yS e,has_put_other K];refine⟨(h c H).1,λu d z=>?_,λd z=>?_⟩
  .rw[atKey_put_other K];grind
  .rw[atKey_put_other K];grind
def BO.update{w b n}{c:Ad->Option Value}{ty e}(h:BO w b n c)(p:prog.underlying ty=E (.map 25 e))(o:n<maxLen){t}(j:Db t)(v):∃w',(Instr.mapUpdate ty (.map (E b)) (b9 #[W t.s,G t.k,G t.l,G t.sd]) v).run Vb w=.ok () w'/\BO w' b (n+1) (λk=>if ZH k t=Vp then E v else c k)/\zE w w' b:=by obtain⟨a,g,h⟩:=h;obtain⟨w',H,l,f⟩:=g.update OL p o (M6 j) (val:=v) (d:=.held v) (ps:=[]) F;exact⟨w',H,⟨_,l,BO.put g.isMap h j v⟩,⟨f.os,f.tape,f.output,f.size,λi m K=>f.block i m (λx=>K (by injection x))⟩⟩
structure Bz(w a:JY)(b o:Nat)(kv:Value)(pv:Option Nat):Prop where
 os:a.os=w.os
 tape:a.tape=w.tape
 output:a.output=w.output
 size:O w.1<=O a.1
 blk:∀i,i<O w.1->i≠b->kv.ownBlock≠E i->pv≠E i->a.heap[i]?=w.heap[i]?
 cel:∀o',o'≠o->o'≠o+1->a.cell? (J b o')=w.cell? (J b o')/\a.frozen? (J b o')=w.frozen? (J b o')
def Bz.refl(w b o a c):Bz w w b o a c:=⟨F,F,F,yk,λ_ _ _ _ _=>F,λ_ _ _=>⟨F,F⟩⟩
def Zl(H:Nat)(a b):=b=a\/∃k,b=E k/\H<=k
def Zl.ne{a b x}(h:Zl H a b)(c:a≠E x)(hx:x<H):b≠E x:=λe=>by
 rcases h with h|⟨k,h,d⟩
 .exact c (h.symm.trans e)
 .rw[h]at e;injection e with e;omega
theorem Zl.trans{c a d b}(h:Zl H a d)(e:Zl c d b)(f:H<=c):Zl H a b:=by grind [Zl]
def Bz.trans{w n p b o k c l d}(h:Bz w n b o k l)(a:Bz n p b o c d)(q:Zl (O w.1) k.ownBlock c.ownBlock)(s:Zl (O w.1) l d):Bz w p b o k l:=
 ⟨a.os.trans h.os,a.tape.trans h.tape,a.output.trans h.output,yy h.size a.size,λi g m H K=>(a.blk i (ym g h.size) m (q.ne H g) (s.ne K g)).trans (h.blk i g m H K),
  λj e f=>⟨(a.cel j e f).1.trans (h.cel j e f).1,(a.cel j e f).2.trans (h.cel j e f).2⟩⟩
def Bz.cell{w d b o a c}(h:Bz w d b o a c){i}(f:i<O w.1)(e:i≠b)(g:a.ownBlock≠E i)(j:c≠E i)(q):d.cell? (J i q)=w.cell? (J i q):=yv (w:=w) (h.blk i f e g j)
def Bz.frozen{w d b o a c}(h:Bz w d b o a c){i}(f:i<O w.1)(e:i≠b)(g:a.ownBlock≠E i)(j:c≠E i)(q):d.frozen? (J i q)=w.frozen? (J i q):=yG (w:=w) (h.blk i f e g j)
def Bz.y(h:Bz w w' b o kv pv)(d:B<=O w.1)(f:B<=b)(a:∀g,kv.ownBlock=E g->B<=g)(c:∀g,pv=E g->B<=g):Below B w w':=
 ⟨h.os,h.tape,h.output,h.size,λi j=>h.blk i I I (λe=>Jy (a i e)) (λe=>Jy (c i e))⟩
def Eu:List ByteArray->ByteArray->Option Nat
 |[],_=>JL
 |x::a,t=>if x=t then E 0 else(Eu a t).map (·+1)
theorem Wo:∀(ks:Jv)(t:JZ),(Eu ks t).isSome=Vp↔t∈ks
 |[],t=>by simp[Eu]
 |x::a,t=>by
  unfold Eu;by_cases e:x=t
  .rw[yU e];simp[e]
  .rw[yS e,Option.isSome_map,Wo a t];simp[jH,Ne.symm e]
theorem iV(h:u ∉ ks)(t):Eu (ks++[u]) t=if t=u then E (Z ks) else Eu ks t:=by
 induction ks with
 |nil=>grind [Eu]
 |cons x a ih=>grind [Eu]
def Dz(a:Jv)(t:JZ):Option Value:=(Eu a t).map λ(i:Nat)=>Value.int .i64 (i:Int)
theorem AI.congr(h:AI w b n a)(c:∀t,a t=G' t):AI w b n G':=by have:a=G':=funext c;grind
structure B8(w:JY)(b o B:Nat)(kv:Value)(pv:Option Nat)(ks:Jv):Prop where
 c0:w.cell? (J b o)=E kv
 c1:w.cell? (J b (o+1))=E (.map pv)
 f0:w.frozen? (J b o)=Vt
 f1:w.frozen? (J b (o+1))=Vt
 row:zu w B kv ks
 mp:(pv=JL/\ks=[])\/∃a,pv=E a/\B<=a/\AI w a (Z ks) (Dz ks)
 nk:kv.ownBlock≠E b
 np:pv≠E b
 nn:∀g,kv.ownBlock=E g->pv≠E g
def B8.lt(h:B8 w b o B kv pv ks):b<O w.1:=jk _ _ h.c0
def B8.plt(h:B8 w b o B kv pv ks):∀g,pv=E g->B<=g/\g<O w.1:=λg e=>by
 rcases h.mp with⟨a,_⟩|⟨f,a,c,d⟩
 .rw[a]at e;cases e
 .rw[a]at e;injection e with e;subst e;exact⟨c,d.lt⟩
def B8.y{w f b o B d e c}(h:B8 w b o B d e c)(a:Qb w f):B8 f b o B d e c:=
 ⟨Jc a h.lt h.c0,(a.cell (p:=(J b (o+1))) h.lt).trans h.c1,(a.frozen (p:=J b o) h.lt).trans h.f0,(a.frozen (p:=(J b (o+1))) h.lt).trans h.f1,h.row.y a,h.mp.imp id (λ⟨g,i,j,k⟩=>⟨g,i,j,k.kept (zH a JL) Js⟩),h.nk,h.np,h.nn⟩
def B8.new(w:JY)(t B):B8 (w.alloc (JM #[Jl,.map JL] t)) (O w.1) 0 B Jl JL []:=
 ⟨Jg,Jg,Jg,Jg,jt,yW ⟨F,F⟩,Jb,Js,λg e=>by simp[i8]at e⟩
def Oz(w):(zeroValue 3).run Vb w=.ok (G 0) w:=Jk
def sZ(a w):(binOp .eql 100 (.map (E a)) (.map JL)).run Vb w=.ok (i7 Vt) w:=Jk
def xP(w):(binOp .eql 100 (.map JL) (.map JL)).run Vb w=.ok (i7 Vp) w:=Jk
def pQ(t w)(a:t.size<=maxLen):(Instr.lookup 100 (.map JL) (.string t) Vp).run Vb w=.ok (i5 #[.int .i64 0,i7 Vt]) w:=by have h:=Maps.look_nil (P:=Vb) (w:=w) Vp (string_keyed underlying9) underlying100 (Oz w) (OG a);simpa using h
def Se(b o B k l a t w)(h:B8 w b o B k l a)(f:t.size<=maxLen):Calls Vb 153 #[.pointer (E (J b o)),W t] w λe w'=>Bj e (t∈a)/\w'=w:=by
 have n:=h.c1;rcases h.mp with⟨rfl,rfl⟩|⟨m,rfl,K,d⟩
 .have H:=pQ t w f;clear h;go_enter func153,ntmps153;go_wp2;go_ret;exact⟨⟨Vt,F,zT Js⟩,F⟩
 .have H:=d.look (ty:=100) underlying100 (Oz w) f;have g:=S (show ∀v:Bool,v=(Dz a t).isSome->DO v (t∈a) from λv j=>by
   unfold DO
   rw[j]
   unfold Dz
   rw[Option.isSome_map]
   exact Wo a t)
  obtain⟨x,hx⟩:=Jx ((Dz a t).getD (G 0));obtain⟨y,c⟩:=Jx ((Dz a t).isSome);rw[<-hx,<-c]at H;have i:=S c;clear h hx c d;go_enter func153,ntmps153;go_wp2;go_ret;exact⟨⟨y,F,g y i⟩,F⟩
def C4(w b o B d e g f):=
 ∃a c,B8 f b o B a c g/\Bz w f b o d e/\Zl (O w.1) d.ownBlock a.ownBlock/\Zl (O w.1) e c
def za4{t}(h:t ∉ ks)(a):(if a.data=t.data then E (Value.int .i64 (Z ks:Int)) else Dz ks a)=Dz (ks++[t]) a:=by
 unfold Dz;rw[iV h a];by_cases e:a.data=t.data
 .have e':a=t:=by cases t;cases a;simp at e;rw[e]
  rw[yU e,yU e'];rfl
 .rw[yS e,yS (λb=>e (by rw[b]))]
def Wp{w M w3 w4 b o B R kv v4 pv ks t ob}(h:B8 w b o B kv pv ks)(hB:B<=O w.1)(ht:t ∉ ks)(hW:M=w\/(pv=JL/\R=O w.1))(s:O w.1<=O M.1)(A:∀i,i<O w.1->i≠b->M.heap[i]?=w.heap[i]?)(j:M.os=w.os/\M.tape=w.tape/\M.output=w.output)(u:∀T,T≠o+1->M.cell? ⟨b,T,JL⟩=w.cell? ⟨b,T,JL⟩)(N:∀T,M.frozen? ⟨b,T,JL⟩=w.frozen? ⟨b,T,JL⟩)(C:M.cell? ⟨b,o+1,JL⟩=E (.map (E R)))(z:zu M B kv ks)(V:B<=R)(K:R≠b)(y:kv.ownBlock≠E R)(X:Zl (O w.1) pv (E R))(hm:AI w3 R (Z ks+1) (λt'=>if t'.data=t.data then E (Value.int .i64 (Z ks:Int)) else Dz ks t'))(hk:zE M w3 R)(m:R<O M.1)(hg:(w3.alloc ob).grownBy w4 kv.ownBlock)(hr:zu w4 B v4 (ks++[t]))(H:v4.ownBlock=kv.ownBlock\/v4.ownBlock=E (O w3.1+1)):C4 w b o B kv pv (ks++[t]) (w4.setCell ⟨b,o,JL⟩ v4):=by
 have l:=h.lt;have Q:b<O M.1:=I;have f:=hk.size;have a:=hg.size;have d:O w3.1+1<=O w4.1:=Ju a
 have L:b<O w3.1:=I;have kc:=λq=>(zJ hg (b:=b) Jq h.nk q).trans (((@zC w3 ob).cell (p:=⟨b,q,JL⟩) L).trans (hk.cell Q (Ne.symm K) q))
 have kf:=λq=>(Z8 hg (b:=b) Jq h.nk q).trans (((@zC w3 ob).frozen (p:=⟨b,q,JL⟩) L).trans (hk.frozen Q (Ne.symm K) q))
 have v:v4.ownBlock≠E b:=λe=>by
  rcases H with H|H
  .exact h.nk (H.symm.trans e)
  .rw[H]at e;injection e with e;omega
 have c:v4.ownBlock≠E R:=λe=>by
  rcases H with H|H
  .exact y (H.symm.trans e)
  .rw[H]at e;injection e with e;omega
 have U:AI (w4.setCell ⟨b,o,JL⟩ v4) R (Z (ks++[t])) (Dz (ks++[t])):=by rw[yr];refine((((hm.kept (zH (@zC w3 ob) JL) Js).kept hg (λe=>y e.symm)).kept (zx w4 b o v4) (λe=>K (by injection e))).congr (za4 ht))
 refine⟨v4,E R,⟨yu _ _ _ ((kc o).trans ((u o I).trans h.c0)),(yj _ _ _ _ Js).trans ((kc (o+1)).trans C),(yx).trans ((kf o).trans ((N o).trans h.f0)),(yx).trans ((kf (o+1)).trans ((N (o+1)).trans h.f1)),hr.grown (zx w4 b o v4) (λk e x=>v (e.trans x.symm)),yX ⟨R,F,V,U⟩,v,λe=>K (by injection e),λg e x=>c (e.trans x.symm)⟩,?_,?_,X⟩
 .refine⟨hg.os.trans (hk.os.trans j.1),hg.tape.trans (hk.tape.trans j.2.1),hg.output.trans (hk.output.trans j.2.2),by simp[World.setCell];omega,λi hi h1 h2 h3=>?_,λT h1 h2=>⟨(yj _ _ _ _ (by first|(simp;done)|(simp;omega)|(intro x;injection x with _ x;omega))).trans ((kc T).trans (u T h2)),(yx).trans ((kf T).trans (N T))⟩⟩;rw[jh _ _ _ _ (Ju h1)];have P:i≠R:=λe=>by
   rcases X with x|⟨k,x,n⟩
   .exact h3 (by rw[<-x,e])
   .injection x with x;omega
  exact(hg.block i Jq (λe=>h2 e.symm)).trans (((@zC w3 ob).block i I).trans ((hk.block i I P).trans (A i hi h1)))
 .rcases H with H|H
  .exact yW H
  .exact yX ⟨_,H,I⟩
def XH(b o B kv pv ks t w)(h:B8 w b o B kv pv ks)(hs:t.size<=maxLen)(hl:Z ks<=1048576)(hB:B<=O w.1):Calls Vb 152 #[.pointer (E (J b o)),W t] w λe w'=>Bj e (t ∉ ks)/\C4 w b o B kv pv (A9 ks t) w':=by
 have HH:=S (Se b o B kv pv ks t w h hs);by_cases q:t∈ks
 .have HP:=S (by rw[I9 q];exact⟨kv,pv,h,Bz.refl _ _ _ _ _,yW F,yW F⟩:C4 w b o B kv pv (A9 ks t) w);have N:=S q;clear h q;go_enter func152,ntmps152;go_wp2_with (first|(go_at_call 153;(with_reducible refine(D HH).mono ?_);rintro e w1 ⟨⟨v,rfl,hv⟩,hx⟩;obtain rfl:=hx.symm;obtain rfl:v=Vp:=hv.2 N;clear hv hx));go_ret;exact⟨⟨Vt,F,zT (λh=>h N)⟩,HP⟩
 have hj:=S q;have y:=h.lt;have c0:=h.c0;have c1:=h.c1;have f0:=h.f0;have f1:=h.f1;obtain⟨ak,ck,rfl⟩:=zS h.row;rcases h.mp with⟨rfl,rfl⟩|⟨bm,rfl,T,V⟩;focus
  obtain⟨hp,hW⟩:=Jx ((w.setCell (J b (o+1)) (.map (E (O w.1)))).alloc (.map #[] 0))
  have hq:(w.setCell (J b (o+1)) (.map (E (O w.1)))).heap.size=O w.1:=Jt
  have hd:O w.1+1<=O hp.1:=by rw[hW];simp[World.setCell]
  have he:∀i,i<O w.1->i≠b->hp.heap[i]?=w.heap[i]?:=λi hi R=>by rw[hW,(@zC (w.setCell (J b (o+1)) (.map (E (O w.1)))) (.map #[] 0)).block i (by rw[hq];exact hi)];exact jh _ _ _ _ (Ju R)
  have P:∀o',o'≠o+1->hp.cell? (J b o')=w.cell? (J b o'):=λo' ho=>by rw[hW,(@zC (w.setCell (J b (o+1)) (.map (E (O w.1)))) (.map #[] 0)).cell (p:=J b o') (by show b<_;rw[hq];exact y)];exact yj _ _ _ _ (by first|(simp;done)|(simp;omega)|(intro x;injection x with _ x;omega))
  have f:∀o',hp.frozen? (J b o')=w.frozen? (J b o'):=λo'=>by rw[hW,(@zC (w.setCell (J b (o+1)) (.map (E (O w.1)))) (.map #[] 0)).frozen (p:=J b o') (by show b<_;rw[hq];exact y)];exact yx
  have ha:hp.cell? (J b (o+1))=E (.map (E (O w.1))):=by rw[hW,(@zC (w.setCell (J b (o+1)) (.map (E (O w.1)))) (.map #[] 0)).cell (p:=(J b (o+1))) (by show b<_;rw[hq];exact y)];exact yu _ _ _ c1
  have n:AI hp.drew (O w.1) 0 (λ_=>JL):=by have:=AI.made (w.setCell (J b (o+1)) (.map (E (O w.1))));rw[hq,<-hW]at this;exact this.kept (zH (yN).drew JL) Js
  obtain⟨w3,m,hk,H⟩:=n.update (ty:=100) underlying100 Jm (t:=t) hs (G 0)
  have l:zu hp B (i6 ak 0 ck) []:=by
   obtain⟨_,⟨h1,h2⟩|⟨g,cap,s,h1,h2,h3,h4⟩⟩:=h.row
   .exact⟨F,yW ⟨h1,h2⟩⟩
   .have ht:g≠b:=λe=>h.nk (by rw[h1,e];rfl)
    refine⟨F,yX ⟨g,cap,s,h1,h2,(he g ?_ ht).trans h3,h4⟩⟩;exact(h.row.lt g (by rw[h1];rfl)).2
  have X:=S (λw4 v4 ob hg hr C=>@Wp w hp w3 w4 b o B (O w.1) (i6 ak 0 ck) v4 JL [] t ob h hB q (yX ⟨F,F⟩) I he (by rw[hW];exact⟨F,F,F⟩) P f ha l hB I (λe=>Jy ((h.row.lt _ e).2)) (yX ⟨_,F,yk⟩) (by simpa[Dz,Eu] using hk) (show zE hp w3 (O w.1) from(zE.Q (show Qb hp hp.drew from(yN).drew)).trans H) I hg hr C)
  have hf:=H.size
  have M:O hp.1<=O w3.1:=hf
  have m0:w3.cell? (J b o)=E (i6 ak 0 ck):=(H.cell (by show b<O hp.1;omega:b<O hp.drew.1) I o).trans ((P o I).trans c0)
  have m1:w3.frozen? (J b o)=Vt:=(H.frozen (by show b<O hp.1;omega:b<O hp.drew.1) I o).trans ((f o).trans f0)
  have A:zu w3 B (i6 ak 0 ck) []:=(l.y (yN).drew).grown (za H) (λk e x=>by injection x with x;have:=(h.row.lt k e).2;omega)
  have d:=S A
  have hh:=S h.nk
  have hc:hp.cell? (J b o)=E (i6 ak 0 ck):=(P o I).trans c0
  have hu:=S hW
  have z:b<O w3.1:=I
  have U:=S (GL q)
  have hn:=xP w
  have hb:=@run_makeMap Vb
  clear hk H l A n he P f h hW q
  go_enter func152,ntmps152
  go_wp2_with (first|(go_at_call 153;(with_reducible refine(D HH).mono ?_);rintro e w1 ⟨⟨v,rfl,hv⟩,hx⟩;obtain rfl:=hx.symm;obtain rfl:v=Vt:=(by cases v;rfl;exact yV (hv.1 F) hj);clear hv hx))
  rw[<-D hu]
  go_region
  go_wp2_with (at_builtin;refine As Z7 underlying63 (.tmp 31) (.tmp 33) F rfl B _ 0 (zU []) F (d.y zC) (J (O w3.1) 0) 1 1 (zU [t]) F rfl (Ju (Zu w3 t)) (ZA _) Jm I Jq ?_)
  intro v4 w4 Q K L u
  have c:zu w4 B v4 ([]++[t]):=by unfold zu;rw[Zi,yr];exact Q
 rotate_left
 focus
  obtain⟨w3,m,hk,H⟩:=(V.kept (zH (show Qb w w.drew from(yN).drew) JL) Js).update (ty:=100) underlying100 Jm (t:=t) hs (G (Z ks:Int))
  have j:bm≠b:=λe=>h.np (by rw[e])
  have a:(i6 ak (Z ks) ck).ownBlock≠E bm:=λe=>h.nn bm e F
  have hm:=V.lt
  have X:=S (λw4 v4 ob hg hr C=>@Wp w w w3 w4 b o B bm (i6 ak (Z ks) ck) v4 (E bm) ks t ob h hB q (yW F) yk (λ_ _ _=>F) ⟨F,F,F⟩ (λ_ _=>F) (λ_=>F) c1 h.row T j a (yW F) hk (show zE w w3 bm from(zE.Q (show Qb w w.drew from(yN).drew)).trans H) hm hg hr C)
  have hf:=H.size
  have M:O w.1<=O w3.1:=hf
  have m0:=(H.cell (show b<O w.drew.1 from y) (Ne.symm j) o).trans c0
  have m1:=(H.frozen (show b<O w.drew.1 from y) (Ne.symm j) o).trans f0
  have d:=S ((h.row.y (yN).drew).grown (za H) (λk e x=>a (e.trans x.symm)))
  have hh:=S h.nk
  have z:b<O w3.1:=I
  have U:=S (GL q)
  have hn:=sZ bm w
  go_enter func152,ntmps152
  go_wp2_with (first|(go_at_call 153;(with_reducible refine(D HH).mono ?_);rintro e w1 ⟨⟨v,rfl,hv⟩,hx⟩;obtain rfl:=hx.symm;obtain rfl:v=Vt:=(by cases v;rfl;exact yV (hv.1 F) hj);clear hv hx))
  go_region
  go_wp2_with (at_builtin;refine As Z7 underlying63 (.tmp 31) (.tmp 33) F rfl B _ (Z ks) (zU ks) F (d.y zC) (J (O w3.1) 0) 1 1 (zU [t]) F rfl (Ju (Zu w3 t)) (ZA _) Jm I Jq ?_)
  intro v4 w4 Q K L u
  have c:zu w4 B v4 (ks++[t]):=by unfold zu;rw[Zi,yr];exact Q
 all_goals
  have HF:=S (X w4 v4 _ K c u)
  have n0:=(zJ K (b:=b) Jq hh o).trans (Jc (@zC w3 _) z m0)
  have n1:=(Z8 K (b:=b) Jq hh o).trans (((@zC w3 _).frozen (p:=J b o) z).trans m1)
  obtain⟨a4,c4,rfl⟩:=zS c
  go_wp2
  go_ret
  refine⟨⟨Vp,F,Zt hj⟩,?_⟩
  rw[D U]
  first
   |exact HF
   |simpa using D HF
def G4(v:Value)(b:Nat)(a:Value)(c):=∀g,v.ownBlock=E g->g≠b/\a.ownBlock≠E g/\c≠E g
def ZM.eff(h:ZM w v us)(d:Bz w w' b o kv pv)(i:G4 v b kv pv):ZM w' v us:=by
 obtain⟨a,c,rfl,f|⟨g,rfl,e,k⟩⟩:=h
 .exact⟨a,c,F,yW f⟩
 .obtain⟨h1,h2,h3⟩:=i g F;exact⟨_,c,F,yX ⟨g,F,ym e d.size,λj x l=>(d.cell e h1 h2 h3 j).trans (k j x l)⟩⟩
def mY{k p}(h:us[k]?=E p):(us.take (k+1)).foldl A9 ks=A9 ((us.take k).foldl A9 ks) p:=by rw[jQ,h];simp[List.foldl_append]
def C4.step{g:JY}{H:Jv}(a:Bz w w1 b o kv pv)(e:Zl (O w.1) kv.ownBlock kv1.ownBlock)(f:Zl (O w.1) pv pv1)(h:C4 w1 b o B kv1 pv1 H g):C4 w b o B kv pv H g:=by obtain⟨c,d,i,j,k,l⟩:=h;exact⟨c,d,i,a.trans j e f,e.trans k a.size,f.trans l a.size⟩
def G4.step(h:G4 v b kv pv)(a:∀g,v.ownBlock=E g->g<H)(c:Zl H kv.ownBlock kv1.ownBlock)(d:Zl H pv pv1):G4 v b kv1 pv1:=λg e=>
 ⟨(h g e).1,c.ne (h g e).2.1 (a g e),d.ne (h g e).2.2 (a g e)⟩
def Rm(b o B l m j v f w)(h:B8 w b o B l m j)(hs:∀x∈f,x.size<=maxLen)(hl:Z j+Z f<=1048576)(hB:B<=O w.1)(A:ZM w v f)(ha:G4 v b l m):Calls Vb 154 #[.pointer (E (J b o)),v] w λe w'=>e=i9 (i5 #[])/\C4 w b o B l m (f.foldl A9 j) w':=by
 have L:=S (show C4 w b o B l m ((f.take 0).foldl A9 j) w from⟨l,m,Ju h,Bz.refl _ _ _ _ _,yW F,yW F⟩);have N:=S hs;have M:=S A;obtain⟨a,c,rfl,_⟩:=A;go_enter func154,ntmps154;go_wp2;go_loopw [8] (λi wr=>∃(k:Nat),k<=Z f/\i=G k/\Hid (C4 w b o B l m ((f.take k).foldl A9 j) wr)) (λi _=>Z f-(intOf i).toNat);case atStart=>exact⟨0,yn,F,L⟩
 case round=>
  obtain⟨k,hk,rfl,z⟩:=hrel;by_cases K:k<Z f
  .have d:(k:Int)<Z f:=I;obtain⟨p,u⟩:∃p,f[k]?=E p:=⟨_,yt K⟩;obtain⟨kv1,pv1,h1,t,h3,h4⟩:=D z;obtain⟨g,V,H,Q,X⟩:=M.lt I;obtain⟨rfl,rfl⟩:a=E (J g 0)/\c=V:=by injection H with x _ y;exact⟨x,y⟩
   obtain⟨R,T,U⟩:=(D ha) g F;have hc:=(t.cell Q R T U k).trans (X k p u);have q:=RN (f.take k) j;rw[List.length_take]at q;have hz:=t.size;have P:=S (XH b o B kv1 pv1 _ p wr h1 (N p (yE u)) I I);have C:=S (λw2 (hh:C4 wr b o B kv1 pv1 (A9 ((f.take k).foldl A9 j) p) w2)=>show C4 w b o B l m ((f.take (k+1)).foldl A9 j) w2 from(by rw[mY u];exact C4.step t h3 h4 hh));go_wp2_with (first|(go_at_call 152;(with_reducible refine(D P).mono ?_);rintro e w1 ⟨⟨y,rfl,_⟩,n⟩;have s:=S (C w1 n);clear n));exact⟨⟨k+1,I,Jn,s⟩,Ji⟩
  .have s:=S (by have:=D z;rwa[List.take_of_length_le I]at this:C4 w b o B l m (f.foldl A9 j) wr);go_wp2;go_end0;exact⟨F,s⟩
def xQ(w b e a):=
 ∃v,e=i9 v/\zu a (O w.1) v (BR b)/\Qb w a
def gF(v a w)(m:∀x∈a,x.size<=maxLen)(k:Z a<=1048576)(l:ZM w v a)(n:∀g,v.ownBlock=E g->g<O w.1):Calls Vb 151 #[v] w (xQ w a):=by
 have h:=S (show Calls Vb 154 #[Qp (O w.1),v] (w.alloc (JM #[Jl,.map JL] 102)) λe w'=>e=i9 (i5 #[])/\C4 (w.alloc (JM #[Jl,.map JL] 102)) (O w.1) 0 (O w.1) Jl JL (BR a) w' from by
  refine Rm (O w.1) 0 (O w.1) _ JL [] v a _ (B8.new w _ _) m (Ju k) Js (l.y zC) (λg e=>?_)
  refine⟨λp=>?_,Jb,Js⟩
  have:=n g e;omega)
 go_enter func151,ntmps151;go_wp2_with (first|(go_at_call 154;(with_reducible refine(D h).mono ?_);rintro e w1 ⟨rfl,kv,pv,b,c,i,j⟩;have o:=b.c0;have f:=S b.row;have d:Hid (Qb w w1):=(zC).trans (c.y (B:=O w.1) Js yk (λg e=>by simp[i8]at e) (λg e=>by simp at e));clear b c i j));go_ret;exact⟨_,F,f,d⟩
def II:Jf->Ad->Option Nat
 |[],_=>JL
 |x::a,t=>if ZH x t=Vp then E 0 else(II a t).map (·+1)
theorem Wq:∀(ks:Jf)(t:Ad),(II ks t).isSome=Vp↔t∈ks
 |[],t=>by simp[II]
 |x::a,t=>by
  unfold II;by_cases e:ZH x t=Vp
  .rw[yU e];simp[zZ.1 e]
  .rw[yS e,Option.isSome_map,Wq a t];have:t≠x:=λh=>e (zZ.2 h.symm)
   simp[jH,this]
theorem iW{b u}(h:u ∉ b)(t):II (b++[u]) t=if ZH t u=Vp then E (Z b) else II b t:=by
 induction b with
 |nil=>grind [II,ZH]
 |cons x a ih=>
  have hx:u≠x:=λe=>h (by simp[e])
  have d:u ∉ a:=λe=>h (by simp[e])
  simp only[List.cons_append,II,yB];by_cases e:ZH x t=Vp
  .rw[yU e,yU e,yS (λc=>hx (by rw[zZ.1 e,<-zZ.1 c]))]
  .grind
def gQ(a:Jf)(t:Ad):Option Value:=(II a t).map λ(i:Nat)=>Value.int .i64 (i:Int)
theorem BO.congr{a c:Ad->Option Value}(h:BO w b n a)(d:∀t,a t=c t):BO w b n c:=by have:a=c:=funext d;grind
structure CQ(w:JY)(b o B:Nat)(kv:Value)(pv:Option Nat)(ks:Jf):Prop where
 c0:w.cell? (J b o)=E kv
 c1:w.cell? (J b (o+1))=E (.map pv)
 f0:w.frozen? (J b o)=Vt
 f1:w.frozen? (J b (o+1))=Vt
 row:AQ w B kv ks
 mp:(pv=JL/\ks=[])\/∃a,pv=E a/\B<=a/\BO w a (Z ks) (gQ ks)
 nk:kv.ownBlock≠E b
 np:pv≠E b
 nn:∀g,kv.ownBlock=E g->pv≠E g
def CQ.lt{a}(h:CQ w b o B kv pv a):b<O w.1:=jk _ _ h.c0
def CQ.plt{f}(h:CQ w b o B kv pv f):∀g,pv=E g->B<=g/\g<O w.1:=λg e=>by
 rcases h.mp with⟨a,_⟩|⟨i,a,c,d⟩
 .rw[a]at e;cases e
 .rw[a]at e;injection e with e;subst e;exact⟨c,d.lt⟩
def CQ.y{w f b o B d e c}(h:CQ w b o B d e c)(a:Qb w f):CQ f b o B d e c:=
 ⟨Jc a h.lt h.c0,(a.cell (p:=(J b (o+1))) h.lt).trans h.c1,(a.frozen (p:=J b o) h.lt).trans h.f0,(a.frozen (p:=(J b (o+1))) h.lt).trans h.f1,h.row.y a,h.mp.imp id (λ⟨g,i,j,k⟩=>⟨g,i,j,k.kept (zH a JL) Js⟩),h.nk,h.np,h.nn⟩
def CQ.new(w:JY)(t B):CQ (w.alloc (JM #[Jl,.map JL] t)) (O w.1) 0 B Jl JL []:=
 ⟨Jg,Jg,Jg,Jg,jt,yW ⟨F,F⟩,Jb,Js,λg e=>by simp[i8]at e⟩
def Zc(w b o B d e g f):=
 ∃a c,CQ f b o B a c g/\Bz w f b o d e/\Zl (O w.1) d.ownBlock a.ownBlock/\Zl (O w.1) e c
theorem za5{a}(h:t ∉ a)(b):(if ZH b t=Vp then E (Value.int .i64 (Z a:Int)) else gQ a b)=gQ (a++[t]) b:=by grind [gQ,iW,ZH]
theorem mZ{w3 w4:JY}{R:Nat}{v4:Value}{ks:Jf}(h:CQ w b o B kv pv ks)(hB:B<=O w.1)(ht:t ∉ ks)(s:O w.1<=O c.1)(A:∀i,i<O w.1->i≠b->c.heap[i]?=w.heap[i]?)(M:c.os=w.os/\c.tape=w.tape/\c.output=w.output)(u:∀T,T≠o+1->c.cell? ⟨b,T,JL⟩=w.cell? ⟨b,T,JL⟩)(y:∀T,c.frozen? ⟨b,T,JL⟩=w.frozen? ⟨b,T,JL⟩)(C:c.cell? ⟨b,o+1,JL⟩=E (.map (E R)))(z:AQ c B kv ks)(V:B<=R)(K:R≠b)(v:kv.ownBlock≠E R)(X:Zl (O w.1) pv (E R))(hm:BO w3 R (Z ks+1) (λt'=>if ZH t' t=Vp then E (Value.int .i64 (Z ks:Int)) else gQ ks t'))(hk:zE c w3 R)(m:R<O c.1)(hg:(w3.alloc ob).grownBy w4 kv.ownBlock)(hr:AQ w4 B v4 (ks++[t]))(H:v4.ownBlock=kv.ownBlock\/v4.ownBlock=E (O w3.1+1)):Zc w b o B kv pv (ks++[t]) (w4.setCell ⟨b,o,JL⟩ v4):=by
 have l:=h.lt;have Q:b<O c.1:=I;have f:=hk.size;have a:=hg.size;have d:O w3.1+1<=O w4.1:=Ju a
 have j:b<O w3.1:=I;have kc:=λq=>(zJ hg (b:=b) Jq h.nk q).trans (((@zC w3 ob).cell (p:=⟨b,q,JL⟩) j).trans (hk.cell Q (Ne.symm K) q))
 have kf:=λq=>(Z8 hg (b:=b) Jq h.nk q).trans (((@zC w3 ob).frozen (p:=⟨b,q,JL⟩) j).trans (hk.frozen Q (Ne.symm K) q))
 have P:v4.ownBlock≠E b:=λe=>by
  rcases H with H|H
  .exact h.nk (H.symm.trans e)
  .grind
 have N:v4.ownBlock≠E R:=λe=>by grind
 have U:BO (w4.setCell ⟨b,o,JL⟩ v4) R (Z (ks++[t])) (gQ (ks++[t])):=by rw[yr];refine((((hm.kept (zH (@zC w3 ob) JL) Js).kept hg (λe=>v e.symm)).kept (zx w4 b o v4) (λe=>K (by injection e))).congr (za5 ht))
 refine⟨v4,E R,⟨yu _ _ _ ((kc o).trans ((u o I).trans h.c0)),(yj _ _ _ _ Js).trans ((kc (o+1)).trans C),(yx).trans ((kf o).trans ((y o).trans h.f0)),(yx).trans ((kf (o+1)).trans ((y (o+1)).trans h.f1)),hr.grown (zx w4 b o v4) (λk e x=>P (e.trans x.symm)),yX ⟨R,F,V,U⟩,P,λe=>K (by injection e),λg e x=>N (e.trans x.symm)⟩,?_,?_,X⟩
 .refine⟨hg.os.trans (hk.os.trans M.1),hg.tape.trans (hk.tape.trans M.2.1),hg.output.trans (hk.output.trans M.2.2),by simp[World.setCell];omega,λi hi h1 h2 h3=>?_,λT h1 h2=>⟨(yj _ _ _ _ (by grind)).trans ((kc T).trans (u T h2)),(yx).trans ((kf T).trans (y T))⟩⟩;rw[jh _ _ _ _ (by grind)];have L:i≠R:=λe=>by rcases X with x|⟨k,x,n⟩;all_goals grind
  exact(hg.block i Jq (λe=>h2 e.symm)).trans (((@zC w3 ob).block i I).trans ((hk.block i I L).trans (A i hi h1)))
 .rcases H with H|H
  .exact yW H
  .exact yX ⟨_,H,I⟩
def tC(a w):(binOp .eql 183 (.map (E a)) (.map JL)).run Vb w=.ok (i7 Vt) w:=Jk
def xR(w):(binOp .eql 183 (.map JL) (.map JL)).run Vb w=.ok (i7 Vp) w:=Jk
def pR(t w)(a:Db t):(Instr.lookup 183 (.map JL) (b9 #[.string t.s,.int .i64 t.k,.int .i64 t.l,.int .i64 t.sd]) Vp).run Vb w=.ok (i5 #[.int .i64 0,i7 Vt]) w:=by have h:=Maps.look_nil (P:=Vb) (w:=w) Vp OL underlying183 (Oz w) (M6 a);simpa using h
def tD(b o B C L d t w)(h:CQ w b o B C L d)(m:Db t):Calls Vb 210 #[.pointer (E (J b o)),b9 #[W t.s,G t.k,G t.l,G t.sd]] w λe w'=>Bj e (t∈d)/\Qb w w':=by
 have k:=h.c1;have K:=h.lt;rcases h.mp with⟨rfl,rfl⟩|⟨M,rfl,q,l⟩
 .have H:=λw=>pR t w m
  obtain⟨a,c⟩:=Jx (w.alloc (JM #[W t.s,G t.k,G t.l,G t.sd] 25));have f:=S (show Qb w a from(by rw[c];exact zC));have i:=Jc f K k;have s:a.cell? (J (O w.1) 0)=E (W t.s):=by rw[c];simp[go_sem]
  have u:a.cell? (J (O w.1) 1)=E (G t.k):=by rw[c];simp[go_sem]
  have z:a.cell? (J (O w.1) 2)=E (G t.l):=by rw[c];simp[go_sem]
  have A:a.cell? (J (O w.1) 3)=E (G t.sd):=by rw[c];simp[go_sem]
  have g:=S c;clear h c;go_enter func210,ntmps210;go_wp2_with fail;rw[<-D g];go_region;go_wp2;go_ret;exact⟨⟨Vt,F,zT Js⟩,f.drew⟩
 .have HE:=S (show ∀v:Bool,v=(gQ d t).isSome->DO v (t∈d) from λv p=>by
   unfold DO
   rw[p]
   unfold gQ
   rw[Option.isSome_map]
   exact Wq d t)
  obtain⟨a,c⟩:=Jx (w.alloc (JM #[W t.s,G t.k,G t.l,G t.sd] 25));have f:=S (show Qb w a from(by rw[c];exact zC));have H:=((l.kept (zH f JL) Js).kept (zH (show Qb a a.drew from(yN).drew) JL) Js).look (ty:=183) underlying183 (Oz a.drew) m;obtain⟨x,hx⟩:=Jx ((gQ d t).getD (G 0));obtain⟨y,j⟩:=Jx ((gQ d t).isSome);rw[<-hx,<-j]at H;have n:=S j;have i:=Jc f K k;have s:a.cell? (J (O w.1) 0)=E (W t.s):=by rw[c];simp[go_sem]
  have u:a.cell? (J (O w.1) 1)=E (G t.k):=by rw[c];simp[go_sem]
  have z:a.cell? (J (O w.1) 2)=E (G t.l):=by rw[c];simp[go_sem]
  have A:a.cell? (J (O w.1) 3)=E (G t.sd):=by rw[c];simp[go_sem]
  have g:=S c;clear h c hx j l;go_enter func210,ntmps210;go_wp2_with fail;rw[<-D g];go_region;go_wp2;go_ret;exact⟨⟨y,F,HE y n⟩,f.drew⟩
def Bz.Q(h:Qb w w')(a:b<O w.1)(o e f):Bz w w' b o e f:=
 ⟨h.os,h.tape,h.output,h.size,λi d _ _ _=>h.block i d,λc _ _=>⟨h.cell (p:=J b c) a,h.frozen (p:=J b c) a⟩⟩
def Zc.step{g:JY}{H:Jf}(a:Bz w w1 b o kv pv)(e:Zl (O w.1) kv.ownBlock kv1.ownBlock)(f:Zl (O w.1) pv pv1)(h:Zc w1 b o B kv1 pv1 H g):Zc w b o B kv pv H g:=by obtain⟨c,d,i,j,k,l⟩:=h;exact⟨c,d,i,a.trans j e f,e.trans k a.size,f.trans l a.size⟩
def XI{T:Nat}{N:Jf}(h:CQ w1 b o B kv pv N)(hB:B<=O w1.1)(ht:t ∉ N)(hs:Db t)(hl:Z N<=1048576)(n:O w1.1<=O c.1)(q:∀i,i<O w1.1->i≠b->c.heap[i]?=w1.heap[i]?)(l:c.os=w1.os/\c.tape=w1.tape/\c.output=w1.output)(V:∀o',o'≠o+1->c.cell? (J b o')=w1.cell? (J b o'))(y:∀o',c.frozen? (J b o')=w1.frozen? (J b o'))(s:c.cell? (J b (o+1))=E (.map (E T)))(P:B<=T)(H:T≠b)(K:kv.ownBlock≠E T)(L:Zl (O w1.1) pv (E T))(hm:BO c T (Z N) (gQ N))(hX:X<O w1.1)(U:X≠b)(d:T≠X):∃R,(Instr.mapUpdate 183 (.map (E T)) (b9 #[W t.s,G t.k,G t.l,G t.sd]) (G (Z N:Int))).run Vb c.drew=.ok () R/\O c.1<=O R.1/\c.cell? (J b o)=E kv/\R.cell? (J b o)=E kv/\R.frozen? (J b o)=Vt/\(∀j,c.cell? (J X j)=w1.cell? (J X j)/\R.cell? (J X j)=w1.cell? (J X j))/\AQ R B kv N /\
   ∀(w4:JY)(g4 c4:Nat)(ob:Obj),w4.ownsRow B 25 4 (Ql g4 (Z N+1) c4) (Z N+1) (zn N++zn [t])->(R.alloc ob).drew.grownBy w4 kv.ownBlock->(kv.ownBlock=E g4\/g4=O R.1+1)->Zc w1 b o B kv pv (N++[t]) (w4.setCell (J b o) (Ql g4 (Z N+1) c4)):=by
 have m:=hm.lt;have w:=h.lt;obtain⟨R,Q,M,A⟩:=(hm.kept (zH (show Qb c c.drew from(yN).drew) JL) Js).update (ty:=183) underlying183 Jm (t:=t) hs (G (Z N:Int));have hk:zE c R T:=(zE.Q (show Qb c c.drew from(yN).drew)).trans A;have p:AQ c B kv N:=by
  obtain⟨a,⟨h1,h2⟩|⟨g,cap,C,h1,h2,h3,h4⟩⟩:=h.row
  .exact⟨a,yW ⟨h1,h2⟩⟩
  .have f:g≠b:=λe=>h.nk (by rw[h1,e];rfl)
   refine⟨a,yX ⟨g,cap,C,h1,h2,(q g ?_ f).trans h3,h4⟩⟩;exact(h.row.lt g (by rw[h1];rfl)).2
 have c0:c.cell? (J b o)=E kv:=(V o I).trans h.c0;have v:∀j,c.cell? (J X j)=w1.cell? (J X j):=λj=>yv (q X hX U)
 refine⟨R,Q,hk.size,c0,(hk.cell I (Ne.symm H) o).trans c0,(hk.frozen I (Ne.symm H) o).trans ((y o).trans h.f0),λj=>⟨v j,(hk.cell I (Ne.symm d) j).trans (v j)⟩,p.grown (za hk) (λk e x=>K (e.trans x.symm)),λw4 g4 c4 ob z hg u=>?_⟩;have hr:AQ w4 B (Ql g4 (Z N+1) c4) (N++[t]):=by unfold AQ;rw[Zo,yr];exact z
 exact mZ h hB ht n q l V y s p P H K L M hk m (ob:=ob) ⟨hg.os,hg.tape,hg.output,hg.size,hg.block⟩ hr (u.imp (λe=>e.symm) (λe=>by rw[e];rfl))
def tE(b o B kv pv ks t w)(h:CQ w b o B kv pv ks)(hs:Db t)(hl:Z ks<=1048576)(hB:B<=O w.1):Calls Vb 168 #[.pointer (E (J b o)),b9 #[W t.s,G t.k,G t.l,G t.sd]] w λe w'=>Bj e (t ∉ ks)/\Zc w b o B kv pv (BZ ks t) w':=by
 have m:=h.lt;obtain⟨W0,y⟩:=Jx (w.alloc (JM #[W t.s,G t.k,G t.l,G t.sd] 25));have n:Below (O w.1) w W0:=by rw[y];exact zC
 have hf:O W0.1=O w.1+1:=by rw[y];simp
 have HH:=S (tD b o B kv pv ks t W0 (h.y n) hs);have k0:W0.cell? (J (O w.1) 0)=E (W t.s):=by rw[y];simp[go_sem]
 have k1:W0.cell? (J (O w.1) 1)=E (G t.k):=by rw[y];simp[go_sem]
 have k2:W0.cell? (J (O w.1) 2)=E (G t.l):=by rw[y];simp[go_sem]
 have k3:W0.cell? (J (O w.1) 3)=E (G t.sd):=by rw[y];simp[go_sem]
 have N:=S y;have M:=S n;have hG:=S hf;clear y n hf;by_cases C:t∈ks
 .have HP:=S (λw' (hb:Below (O w.1) w w')=>show Zc w b o B kv pv (BZ ks t) w' from(by rw[Ik C];exact⟨kv,pv,h.y hb,Bz.Q hb m _ _ _,yW F,yW F⟩));have T:=S C;clear h C;go_enter func168,ntmps168;go_wp2_with (first|(go_at_call 210;rw[<-D N];(with_reducible refine(D HH).mono ?_);rintro e w1 ⟨⟨v,rfl,hv⟩,hx⟩;have Q:=S hx;obtain rfl:v=Vp:=hv.2 T;clear hv hx));go_ret;exact⟨⟨Vt,F,zT (λh=>h T)⟩,HP _ (M.trans (Q.mono (by rw[D hG];omega)))⟩
 have A:=S C;have HQ:=S h;have hA:=S (Im C);clear h C;obtain⟨ak,ck,rfl⟩:∃a c,kv=i6 a (Z ks) c:=zS HQ.row;have h3:Hid ((i6 ak (Z ks) ck).ownBlock≠E (O w.1)):=λe=>Jy ((HQ.row.lt _ e).2)
 rcases HQ.mp with⟨rfl,hd⟩|⟨bm,rfl,hy,s⟩;focus
  have hr:=λw1=>xR w1
  have h2:=@run_makeMap Vb
  have ht:=S hd
  clear hd
  go_enter func168,ntmps168
  go_wp2_with (first|(go_at_call 210;rw[<-D N];(with_reducible refine(D HH).mono ?_);rintro e w1 ⟨⟨v,rfl,hv⟩,hx⟩;have Q:=S hx;obtain rfl:v=Vt:=(by cases v;rfl;exact yV (hv.1 F) A);clear hv hx;have hp:O w.1+1<=O w1.1:=(by have:=Q.size;rw[D hG]at this;exact this);have P:b<O w1.1:=I;have U:Hid (Below (O w.1) w w1):=M.trans (Q.mono (by rw[D hG];omega));have h1:=HQ.y U;have H:∀j,w1.cell? (J (O w.1) j)=W0.cell? (J (O w.1) j):=(λj=>Q.cell (p:=J (O w.1) j) (by show O w.1<O W0.1;rw[D hG];omega));have j0:=(H 0).trans k0;have j1:=(H 1).trans k1;have j2:=(H 2).trans k2;have j3:=(H 3).trans k3;clear H k0 k1 k2 k3 HH;have c0:=h1.c0;have c1:=h1.c1;have f0:=h1.f0;have f1:=h1.f1;have f:=S h1;clear h1))
  obtain⟨hF,hW⟩:=Jx ((w1.setCell (J b (o+1)) (.map (E (O w1.1)))).alloc (.map #[] 0))
  have V:(w1.setCell (J b (o+1)) (.map (E (O w1.1)))).heap.size=O w1.1:=Jt
  have h4:O w1.1+1<=O hF.1:=by rw[hW];simp[World.setCell]
  have hH:∀i,i<O w1.1->i≠b->hF.heap[i]?=w1.heap[i]?:=λi hi hq=>by rw[hW,(@zC (w1.setCell (J b (o+1)) (.map (E (O w1.1)))) (.map #[] 0)).block i (by rw[V];exact hi)];exact jh _ _ _ _ (Ju hq)
  have hm:∀o',o'≠o+1->hF.cell? (J b o')=w1.cell? (J b o'):=λo' ho=>by rw[hW,(@zC (w1.setCell (J b (o+1)) (.map (E (O w1.1)))) (.map #[] 0)).cell (p:=J b o') (by show b<_;rw[V];exact P)];exact yj _ _ _ _ (by first|(simp;done)|(simp;omega)|(intro x;injection x with _ x;omega))
  have ha:∀o',hF.frozen? (J b o')=w1.frozen? (J b o'):=λo'=>by rw[hW,(@zC (w1.setCell (J b (o+1)) (.map (E (O w1.1)))) (.map #[] 0)).frozen (p:=J b o') (by show b<_;rw[V];exact P)];exact yx
  have hz:hF.cell? (J b (o+1))=E (.map (E (O w1.1))):=by rw[hW,(@zC (w1.setCell (J b (o+1)) (.map (E (O w1.1)))) (.map #[] 0)).cell (p:=(J b (o+1))) (by show b<_;rw[V];exact P)];exact yu _ _ _ c1
  have k:BO hF (O w1.1) (Z ks) (gQ ks):=by have:=BO.made (w1.setCell (J b (o+1)) (.map (E (O w1.1))));rw[V,<-hW]at this;rw[D ht];exact this.congr (λt=>F)
  obtain⟨w3,hI,hu,c0',m0,m1,K,l,hC⟩:=XI (X:=O w.1) f I A hs hl I hH (by rw[hW];exact⟨F,F,F⟩) hm ha hz I I (λe=>Jy ((f.row.lt _ e).2)) (yX ⟨_,F,yk⟩) k I I I
  have hn:=S hW
  clear k hW hH hm ha V
  have x0:=(K 0).1.trans j0
  have x1:=(K 1).1.trans j1
  have x2:=(K 2).1.trans j2
  have x3:=(K 3).1.trans j3
  have y0:=(K 0).2.trans j0
  have y1:=(K 1).2.trans j1
  have y2:=(K 2).2.trans j2
  have y3:=(K 3).2.trans j3
  have hD:=S l
  have z:=S hC
  clear K l hC j0 j1 j2 j3
  rw[<-D hn]
  go_region
  go_wp2_with fail
  have hE:=S (λw' (hh:Zc w1 b o B (i6 ak (Z ks) ck) JL (ks++[t]) w')=>show Bj (i9 (i7 Vp)) (t ∉ ks)/\Zc w b o B (i6 ak (Z ks) ck) JL (BZ ks t) w' from⟨⟨Vp,F,Zt A⟩,by rw[D hA];exact Zc.step (Bz.Q U m _ _ _) (yW F) (yW F) hh⟩)
 rotate_left
 focus
  have hr:=λw1=>tC bm w1
  have hg:bm≠b:=λe=>HQ.np (by rw[e])
  have he:(i6 ak (Z ks) ck).ownBlock≠E bm:=λe=>HQ.nn bm e F
  have h0:=s.lt
  have hk:=S s
  go_enter func168,ntmps168
  go_wp2_with (first|(go_at_call 210;rw[<-D N];(with_reducible refine(D HH).mono ?_);rintro e w1 ⟨⟨v,rfl,hv⟩,hx⟩;have Q:=S hx;obtain rfl:v=Vt:=(by cases v;rfl;exact yV (hv.1 F) A);clear hv hx;have hp:O w.1+1<=O w1.1:=(by have:=Q.size;rw[D hG]at this;exact this);have P:b<O w1.1:=I;have U:Hid (Below (O w.1) w w1):=M.trans (Q.mono (by rw[D hG];omega));have h1:=HQ.y U;have H:∀j,w1.cell? (J (O w.1) j)=W0.cell? (J (O w.1) j):=(λj=>Q.cell (p:=J (O w.1) j) (by show O w.1<O W0.1;rw[D hG];omega));have j0:=(H 0).trans k0;have j1:=(H 1).trans k1;have j2:=(H 2).trans k2;have j3:=(H 3).trans k3;clear H k0 k1 k2 k3 HH;have c0:=h1.c0;have c1:=h1.c1;have f0:=h1.f0;have f1:=h1.f1;have f:=S h1;clear h1))
  have k:BO w1 bm (Z ks) (gQ ks):=hk.kept (zH U JL) Js
  obtain⟨w3,hI,hu,c0',m0,m1,K,l,hC⟩:=XI (X:=O w.1) f I A hs hl yk (λ_ _ _=>F) ⟨F,F,F⟩ (λ_ _=>F) (λ_=>F) c1 hy hg he (yW F) k I I I
  have x0:=(K 0).1.trans j0
  have x1:=(K 1).1.trans j1
  have x2:=(K 2).1.trans j2
  have x3:=(K 3).1.trans j3
  have y0:=(K 0).2.trans j0
  have y1:=(K 1).2.trans j1
  have y2:=(K 2).2.trans j2
  have y3:=(K 3).2.trans j3
  have hD:=S l
  have z:=S hC
  go_region
  go_wp2_with fail
  have hE:=S (λw' (hh:Zc w1 b o B (i6 ak (Z ks) ck) (E bm) (ks++[t]) w')=>show Bj (i9 (i7 Vp)) (t ∉ ks)/\Zc w b o B (i6 ak (Z ks) ck) (E bm) (BZ ks t) w' from⟨⟨Vp,F,Zt A⟩,by rw[D hA];exact Zc.step (Bz.Q U m _ _ _) (yW F) (yW F) hh⟩)
 all_goals
  have L:b<O w3.1:=I
  have hc:=S HQ.nk
  have k6:∀o',(w3.alloc o').drew.cell? (J b o)=E (i6 ak (Z ks) ck):=λo'=>((@zC w3 o').cell (p:=J b o) L).trans m0
  go_region_law (refine De Fz underlying43 (.tmp 31) (.tmp 33) (by rfl) (by rfl) B _ (Z ks) (zn ks) (by rfl) (hD.y ((zC).drew)) (J (O w3.1) 0) 1 1 (zn [t]) (by rfl) F (λj u hj=>(Ju (Ij w3 t j u hj))) (Zw _) Jd Jm I Jq _ F ?_;intro g4 c4 w4 d q g R;have m2:=(zJ q (b:=b) Jq hc o).trans (k6 _);have m3:=(Z8 q (b:=b) Jq hc o).trans (((@zC w3 _).frozen (p:=J b o) L).trans m1);have hw:=S (hE _ (z _ _ _ _ d q (g.imp id (λe=>e.trans Js))));clear d q g R)
  all_goals(go_wp2;go_ret;exact hw)
def nA{a ks k}(h:k<Z a):zj ks (a.take (k+1))=BZ (zj ks (a.take k)) (r a k):=by rw[jQ,yt h,Q1];unfold zj r;simp[h]
theorem Uf:∀(b acc:Jf),Z (zj acc b)<=Z acc+Z b
 |[],acc=>by simp[zj]
 |x::a,acc=>by
  show(Z (zj (BZ acc x) a))<=_;have c:=Uf a (BZ acc x);have d:Z (BZ acc x)<=Z acc+1:=by
   by_cases h:x∈acc
   .rw[Ik h];omega
   .rw[Im h];simp
  simp;omega
def UN(b o B s z n v m w)(h:CQ w b o B s z n)(hs:∀x∈m,Db x)(hl:Z n+Z m<=1048576)(hB:B<=O w.1)(hr:ZX w v m)(ha:G4 v b s z):Calls Vb 118 #[.pointer (E (J b o)),v] w λe w'=>e=i9 (i5 #[])/\Zc w b o B s z (zj n m) w':=by
 have u:=h.lt;have HP:=S (show Zc w b o B s z (zj n (m.take 0)) w from⟨s,z,by simpa[zj] using h,Bz.refl _ _ _ _ _,yW F,yW F⟩);have HS:=S hs;have HR:=S hr;obtain⟨a,c,rfl,_⟩:=hr;clear h hs;go_enter func118,ntmps118;go_wp2;go_loopw [8] (λi wr=>∃(k:Nat),k<=Z m/\i=G k/\Hid (Zc w b o B s z (zj n (m.take k)) wr)) (λi _=>Z m-(intOf i).toNat);case atStart=>exact⟨0,yn,F,HP⟩
 case round=>
  obtain⟨k,hk,rfl,R⟩:=hrel;by_cases H:k<Z m
  .have V:(k:Int)<Z m:=I;obtain⟨kv1,pv1,U,L,h3,h4⟩:=D R;obtain⟨a',c',q,h5⟩:=D HR;obtain⟨rfl,rfl⟩:a=a'/\c=c':=by injection q with x _ y;exact⟨x,y⟩
   rcases h5 with⟨h5,_⟩|⟨g,rfl,p,P⟩
   .omega
   obtain⟨a1,a2,a3⟩:=(D ha) g F;have A:=λj=>L.cell p a1 a2 a3 j
   obtain⟨q0,q1,q2,q3⟩:=P k H;have e0:=(A _).trans q0;have e1:=(A _).trans q1;have e2:=(A _).trans q2;have e3:=(A _).trans q3;simp only[jd]at e0 e1 e2 e3;have Q:=Uf (m.take k) n;rw[List.length_take]at Q;have hz:=L.size;obtain⟨t,ht⟩:=Jx (r m k);have T:=S (nA (ks:=n) H);rw[<-ht]at e0 e1 e2 e3 T;have X:Db t:=(D HS) t (by rw[ht];unfold r;simp[H]);obtain⟨f,M⟩:=Jx (wr.alloc (JM #[W t.s,G t.k,G t.l,G t.sd] 25));have K:Qb wr f:=by rw[M];exact zC
   have d:O wr.1+1<=O f.1:=by rw[M];simp
   have HX:=S (tE b o B kv1 pv1 _ t f (U.y K) X I I);have HF:=S (λw2 (hh:Zc f b o B kv1 pv1 (BZ (zj n (m.take k)) t) w2)=>show Zc w b o B s z (zj n (m.take (k+1))) w2 from(by rw[D T];exact Zc.step (L.trans (Bz.Q K U.lt _ kv1 pv1) h3 h4) h3 h4 hh));have l:=S M;clear q U L h3 h4 Q R A q0 q1 q2 q3 ht T M K d;go_wp2_with (first|(go_at_call 168;rw[<-D l];(with_reducible refine(D HX).mono ?_);rintro e w1 ⟨⟨y,rfl,_⟩,C⟩;have N:=S (HF w1 C);clear C));exact⟨⟨k+1,I,Jn,N⟩,Ji⟩
  .have N:=S (by have:=D R;rwa[List.take_of_length_le I]at this:Zc w b o B s z (zj n m) wr);go_wp2;go_end0;exact⟨F,N⟩
def pS(a c w):Calls Vb 155 #[.slice a 0 c] w λe w'=>e=i9 (i7 Vp)/\w'=w:=by
 go_enter func155,ntmps155;go_wp2;go_loop [7] (λi=>i=G 0) (λ_=>0);case atStart=>rfl
 case round=>subst hrel;go_wp2;go_ret;exact⟨F,F⟩
def T4(a c w):Calls Vb 111 #[b9 #[.slice a 0 c]] w λe w'=>(∃x y,e=i9 (i5 #[b9 #[.map (E x),.map (E y)],G 0])/\AH w' x y [] 0)/\Qb w w':=by
 have H:=@run_makeMap Vb;go_enter func111,ntmps111;go_wp2_with (first|(go_at_call 155;(with_reducible refine(pS _ _ _).mono ?_);rintro e w1 ⟨rfl,hx⟩;obtain rfl:=hx.symm;clear hx));go_loop [24,5] (λi b=>i=G 0/\b=i7 Vt) (λ_ _=>0);case atStart=>exact⟨F,F⟩
 case round=>
  obtain⟨rfl,rfl⟩:=hrel;go_wp2;refine yQ (v:=i5 #[b9 #[.map (E (O w.1+1+1)),.map (E (O w.1+1+1+1))],G 0]) ?res F ⟨⟨_,_,F,?ix⟩,((((zC).alloc (by first|(simp;done)|(simp;omega)) _).alloc (by first|(simp;done)|(simp;omega)) _).alloc (by first|(simp;done)|(simp;omega)) _).alloc (by first|(simp;done)|(simp;omega)) _⟩;case res=>simp[results,results111,go_sem]
  case ix=>have h:=AH.start ((w.alloc (JM #[.slice a 0 c] 45)).alloc (JM #[.map (E (O w.1+1+1)),.map (E (O w.1+1+1+1))] 173)) [] (JM #[.map (E (O w.1+1+1)),.map (E (O w.1+1+1+1))] 173);simpa using h
def gG(b h d a w)(k:Z a<=1048576)(m:Au w b h a)(l:ZO a)(i:b<O w.1):Calls Vb 122 #[b9 #[Je b h (Z a) d]] w λe w'=>(∃c,e=i9 (G c)/\zM a c)/\Qb w w':=by go_enter func122,ntmps122;go_wp2_with fail;go_call QW b h d a _ k (m.y zC i) l Jq as e w1 ⟨⟨x,y,c,rfl,j,_⟩,f⟩;have g:=S j;go_wp2;go_ret;exact⟨⟨c,F,g⟩,((zC).trans (f.mono Js)).alloc (Jz f.size) _⟩
def iY(a b w):Calls Vb 122 #[b9 #[.slice a 0 b]] w λe w'=>e=i9 (G 0)/\Qb w w':=by go_enter func122,ntmps122;go_wp2_with fail;go_call T4 a b _ as e w1 ⟨⟨x,y,rfl,_⟩,c⟩;go_wp2;go_ret;exact⟨F,((zC).trans (c.mono Js)).alloc (Jz c.size) _⟩
def U8(v b w)(i:Z b<=1048576)(l:ZX w v b)(k:ZO b):Calls Vb 122 #[b9 #[v]] w λe w'=>(∃c,e=i9 (G c)/\zM b c)/\Qb w w':=by
 obtain⟨a,c,rfl,⟨d,_,_⟩|⟨g,rfl,h,j⟩⟩:=l
 .obtain rfl:=jg.1 d;go_call iY a c w as e w1 ⟨rfl,f⟩;exact⟨⟨0,F,R2⟩,f⟩
 .exact gG g 0 c b w i j k h
def eT(a d b w)(m:Z b<=1048576)(h:ZX w (i6 a (Z b) d) b)(n:ZO b):Calls Vb 111 #[b9 #[.slice a (Z b) d]] w λe w'=>(∃(x y:Option Nat)(c:Int),e=i9 (i5 #[b9 #[.map x,.map y],G c])/\zM b c/\(c=0->∃f bs,x=E f/\y=E bs/\AH w' f bs b (Z b)))/\Qb w w':=by
 obtain⟨o,p,e,⟨i,_⟩|⟨g,rfl,k,H⟩⟩:=h
 .obtain rfl:b=[]:=jg.1 i;go_call T4 a d w as e w' ⟨⟨x,y,rfl,l⟩,j⟩;exact⟨⟨_,_,0,F,R2,λ_=>⟨x,y,F,F,l⟩⟩,j⟩
 .injection e with e1 e2 e3;subst e1;exact QW g 0 d b w m H n k
def OM(B a):=∀i,i<Z a->(∀g,(AX a i).vu.ownBlock=E g->B<=g)/\(∀g,(AX a i).vo.ownBlock=E g->B<=g)
def OM.step{x:AO}(h:OM B vs)(c:∀g,x.vu.ownBlock=E g->B<=g)(b:∀g,x.vo.ownBlock=E g->B<=g):OM B (vs++[x]):=λi a=>by
 by_cases e:i<Z vs
 .rw[Xa e];exact h i e
 .have e1:i=Z vs:=by simp at a;omega
  subst e1;rw[Xb];exact⟨c,b⟩
structure EN(w:JY)(B P a:Nat)(am:Option Addr)(b n:Nat)(v1:Value)(vs:List AO)(U:JC):Prop where
 hP:P<B
 hbs:a<B
 hne:a≠P
 c0:w.cell? (J P 0)=E (i6 am n b)
 c1:w.cell? (J P 1)=E v1
 c2:w.cell? (J P 2)=E Jl
 c3:w.cell? (J P 3)=E (.map JL)
 c4:w.cell? (J P 4)=E (.map (E a))
 fz:∀o,w.frozen? (J P o)=Vt
 row:C0 w B v1 vs
 uns:JU w v1 vs U
 lo:OM B vs
 sm:AI w a 0 (λ_=>JL)
def EN.lt(h:EN w B P bs am cm n v1 vs U):P<O w.1:=jk _ _ h.c0
theorem EN.step{w l u B P bs C L n m f A U}{x:AO}{y:GC}(h:EN w B P bs C L n m A U)(hB:B<=O w.1)(s:Qb w l)(h1:ZM l x.vu y.us)(h2:ZX l x.vo y.os)(h3:x.b=y.b)(hu:∀g,x.vu.ownBlock=E g->O w.1<=g/\g<O l.1)(ho:∀g,x.vo.ownBlock=E g->O w.1<=g/\g<O l.1)(t:l.grownBy u m.ownBlock)(hr:C0 u B f (A++[x]))(Q:f.ownBlock=m.ownBlock\/∃k,f.ownBlock=E k/\O l.1<=k):EN (u.setCell (J P 1) f) B P bs C L n f (A++[x]) (U++[y]):=by
 have K:=h.lt;have hz:=s.size;have a:=t.size;have j:=h.hP;have c:=h.hbs;have X:∀g,m.ownBlock=E g->B<=g/\g<O w.1:=h.row.lt;have R:m.ownBlock≠E P:=λe=>by grind
 have nb:m.ownBlock≠E bs:=λe=>by grind
 have N:=λq=>(zJ t (b:=P) I R q).trans (s.cell (p:=J P q) K)
 have kf:=λq=>(Z8 t (b:=P) I R q).trans (s.frozen (p:=J P q) K)
 have n4:f.ownBlock≠E P:=λe=>by grind
 have M:=h.uns.step s (λg e=>(X g e).2) h1 h2 h3 hu ho t Q;have d:∀(q:Nat),q≠1->(u.setCell (J P 1) f).cell? (J P q)=w.cell? (J P q):=λq hq=>(yj _ _ _ _ (by grind)).trans (N q)
 have v:=zx u P 1 f;have H:=h.lo.step (x:=x) (λg e=>by grind) (λg e=>by grind);refine⟨h.hP,h.hbs,h.hne,(d 0 I).trans h.c0,yu _ _ _ ((N 1).trans h.c1),(d 2 I).trans h.c2,(d 3 I).trans h.c3,(d 4 I).trans h.c4,λo=>(yx).trans ((kf o).trans (h.fz o)),hr.grown v (λk e x=>n4 (e.trans x.symm)),⟨M.1,λi z=>?_⟩,H,((h.sm.kept (zH s JL) Js).kept t (λe=>nb e.symm)).kept v (λe=>h.hne (by injection e))⟩;obtain⟨⟨q1,q2,q3⟩,T,V⟩:=M.2 i z;exact⟨⟨q1.grown v (λg e x=>by injection x with x;have:=(H i z).1 g e;omega),q2.grown v (λg e x=>by injection x with x;have:=(H i z).2 g e;omega),q3⟩,λg e=>⟨(T g e).1,by simpa[World.setCell] using(T g e).2⟩,λg e=>⟨(V g e).1,by simpa[World.setCell] using(V g e).2⟩⟩
def JI{e d}(h:w.ownsRow B e s v n d)(k:∀g,v.ownBlock=E g->w'.heap[g]?=w.heap[g]?):w'.ownsRow B e s v n d:=by
 obtain⟨a,b|⟨g,c,H,b,f,i,j⟩⟩:=h
 .exact⟨a,yW b⟩
 .exact⟨a,yX ⟨g,c,H,b,f,(k g (by rw[b];rfl)).trans i,j⟩⟩
def ZM.same(h:ZM w v us)(k:O w.1<=O w'.1)(i:∀g,v.ownBlock=E g->w'.heap[g]?=w.heap[g]?):ZM w' v us:=by
 obtain⟨a,c,rfl,b|⟨g,rfl,e,d⟩⟩:=h
 .exact⟨a,c,F,yW b⟩
 .exact⟨_,c,F,yX ⟨g,F,ym e k,λj x f=>(yv (i g F)).trans (d j x f)⟩⟩
def ZX.same{d}(h:ZX w v d)(s:O w.1<=O w'.1)(p:∀g,v.ownBlock=E g->w'.heap[g]?=w.heap[g]?):ZX w' v d:=by
 obtain⟨a,c,rfl,e|⟨g,rfl,n,m⟩⟩:=h
 .exact⟨a,c,F,yW e⟩
 .refine⟨_,c,F,yX ⟨g,F,ym n s,λi o=>?_⟩⟩;have b:=λq=>(yv (w:=w) (w':=w') (a:=J g q) (p g F))
  obtain⟨f,j,k,l⟩:=m i o;exact⟨(b _).trans f,(b _).trans j,(b _).trans k,(b _).trans l⟩
structure Dv(w:JY)(B C P:Nat)(am:Option Addr)(a n:Nat)(v1:Value)(vs:List AO)(U:JC):Prop where
 c0:w.cell? (J P 0)=E (i6 am n a)
 c1:w.cell? (J P 1)=E v1
 row:C0 w B v1 vs
 hv:∀g,v1.ownBlock=E g->g<C
 uns:D6 w C vs U
 lo:OM B vs
 ln:Z vs<=n/\n<=Z vs
def Dv.lt(h:Dv w B C P am cm n v1 vs U):P<O w.1:=jk _ _ h.c0
def Dv.keep(h:Dv w B C P am cm n v1 vs U)(c:O w.1<=O w'.1)(b:∀i,B<=i->i<C->w'.heap[i]?=w.heap[i]?)(j:w'.cell? (J P 0)=w.cell? (J P 0))(k:w'.cell? (J P 1)=w.cell? (J P 1)):Dv w' B C P am cm n v1 vs U:=by refine⟨j.trans h.c0,k.trans h.c1,JI h.row (λg e=>b g (h.row.lt g e).1 (h.hv g e)),h.hv,⟨h.uns.1,λi a=>?_⟩,h.lo,h.ln⟩;obtain⟨⟨l,m,o⟩,d,f⟩:=h.uns.2 i a;exact⟨⟨l.same c (λg e=>b g ((h.lo i a).1 g e) (d g e)),m.same c (λg e=>b g ((h.lo i a).2 g e) (f g e)),o⟩,d,f⟩
def Dv.y(h:Dv w B C P am cm n v1 vs U)(b:C<=O w.1)(a:Qb w w'):Dv w' B C P am cm n v1 vs U:=
 h.keep a.size (λi _ c=>a.block i I) (a.cell (p:=J P 0) h.lt) (a.cell (p:=J P 1) h.lt)
def Dv.eff(h:Dv w B C P am cm n v1 vs U)(j:P<B)(f:C<=O w.1)(a:Bz w w' P 2 kv pv)(b:∀g,kv.ownBlock=E g->C<=g)(c:∀g,pv=E g->C<=g):Dv w' B C P am cm n v1 vs U:=
 h.keep a.size (λi d k=>a.blk i I I (λe=>Jy (b i e)) (λe=>Jy (c i e))) (a.cel 0 I I).1 (a.cel 1 I I).1
theorem Dv.at(h:Dv w B C P am cm n v1 vs U)(l:i<n):∃g c,v1 = Ql g (Z vs) c/\w.cell? (J g (i*3))=E (AX vs i).vu/\w.cell? (J g (i*3+1))=E (AX vs i).vo/\w.cell? (J g (i*3+2))=E (W (AX vs i).b):=by
 have m:=h.ln;have e:=h.row;obtain⟨a,b|⟨g,d,H,b,f,j,k⟩⟩:=h.row
 .grind
 .subst b;obtain⟨x,y,z⟩:=e.ops i I;grind
def C4.undrew(h:C4 w.drew b o B kv pv ks w'):C4 w b o B kv pv ks w':=by obtain⟨c,d,e,a,f,g⟩:=h;exact⟨c,d,e,⟨a.os,a.tape,a.output,a.size,a.blk,a.cel⟩,f,g⟩
def AI.get{ty e}(h:AI w b n a)(j:prog.underlying ty=E (.map 9 e)){z}(k:(zeroValue e).run Vb w=.ok z w){t}(f:t.size<=maxLen):(Instr.lookup ty (.map (E b)) (.string t) Vt).run Vb w=.ok ((a t).getD z) w:=by
 obtain⟨c,i,h⟩:=h;obtain⟨v,l,H,d⟩:=i.lookup (string_keyed underlying9) j k (zd:=.held z) (zp:=[]) F (OG f);have e:v=(a t).getD z:=by
  cases g:a t with
  |none=>rw[(h t f).2.2 g]at d;simp only[GM,jw,Prod.mk.injEq,DataW.held.injEq]at d;exact d.1
  |some u=>rw[(h t f).2.1 u g]at d;simp only[GM,jw,Prod.mk.injEq,DataW.held.injEq]at d;exact d.1
 rw[<-e];exact H
def eU(P C g o a d f c k w)(q:w.cell? (J P 0)=E (i6 g (Z a) o))(i:Cj w g a)(t:k<Z a)(s:B8 w P 2 C d f c)(p:C<=O w.1)(u:Z c<=1048576)(H:(Ae a k).n.size<=maxLen):Calls Vb 105 #[Qp P,G k] w λe w'=>Bj e ((Ae a k).n ∉ c)/\C4 w P 2 C d f (A9 c (Ae a k).n) w':=by
 have K:(k:Int)<Z a:=I;rcases i with i|⟨y,Q,rfl,h,x⟩
 .omega
 obtain⟨z,A⟩:=h k t;have n:=S (XH P 2 C d f c (Ae a k).n w.drew (s.y (yN).drew) H u p);go_enter func105,ntmps105;go_wp2_with fail;go_region_with (first|(go_at_call 152;(with_reducible refine(D n).mono ?_);rintro e w1 ⟨⟨v,rfl,j⟩,b⟩;have m:=S j;have l:=S b.undrew;clear j b));go_wp2;go_ret;exact⟨⟨v,F,m⟩,l⟩
def eV(P B C am cm n v1 vs U kv pv N k w)(h:Dv w B C P am cm n v1 vs U)(hk:k<n)(hS:B8 w P 2 C kv pv N)(hs:∀u∈(Ah U k).us,u.size<=maxLen)(hn:n<=1048576)(d:(Ah U k).us.length<=1048576):Calls Vb 106 #[Qp P,G k] w λe w'=>Bj e (∀u∈(Ah U k).us,u∈N)/\w'=w:=by
 obtain⟨g,c,rfl,q0,q1,q2⟩:=h.at hk;have m:k<Z vs:=Jy h.ln
 have o:(k:Int)<Z vs:=I;have d1:=h.c1;obtain⟨⟨X,_,_⟩,_,_⟩:=h.uns.2 k m;obtain⟨us,z⟩:=Jx ((Ah U k).us);rw[<-z]at X hs d ⊢;have A:=S X;have HH:=S (λt (ht:t.size<=maxLen)=>Se P 2 C kv pv N t w hS ht);have HS:=S hs;obtain⟨a,cc,M,_⟩:=X;rw[M]at q0 A;clear h hS hs z M;go_enter func106,ntmps106;go_wp2;go_loop [16] (λi=>∃j:Nat,j<=Z us/\i=G j/\Hid (∀q u,q<j->us[q]?=E u->u∈N)) (λi=>Z us-(intOf i).toNat);case atStart=>exact⟨0,yn,F,S (λq u h=>I)⟩
 case round=>
  obtain⟨j,hj,rfl,HJ⟩:=hrel;by_cases l:j<Z us
  .have f:(j:Int)<Z us:=I;obtain⟨p,T⟩:∃p,us[j]?=E p:=⟨_,yt l⟩;obtain⟨g',c',K,s,L⟩:=A.lt I;obtain⟨rfl,rfl⟩:a=E (J g' 0)/\cc=c':=by injection K with x _ y;exact⟨x,y⟩
   have hc:=L j p T;have HX:=S (HH p (HS p (yE T)));by_cases H:p∈N
   .have HN:=S (show ∀q u,q<j+1->us[q]?=E u->u∈N from λq u hq R=>by
     by_cases e:q=j
     .subst e;rw[T]at R;injection R with R;rw[<-R];exact H
     .exact HJ q u I R)
    have Q:=S H;clear K T L H;go_wp2_with (first|(go_at_call 153;(with_reducible refine(D HX).mono ?_);rintro e w1 ⟨⟨v,rfl,M⟩,hx⟩;obtain rfl:=hx.symm;obtain rfl:v=Vp:=M.2 Q;clear M hx));exact⟨⟨j+1,I,Jn,HN⟩,Ji⟩
   .have b:Hid (¬ ∀u∈us,u∈N):=λh=>H (h p (yE T))
    have Q:=S H;clear K T L H;go_wp2_with (first|(go_at_call 153;(with_reducible refine(D HX).mono ?_);rintro e w1 ⟨⟨v,rfl,M⟩,hx⟩;obtain rfl:=hx.symm;obtain rfl:v=Vt:=(by cases v;rfl;exact yV (M.1 F) Q);clear M hx));go_ret;exact⟨⟨Vt,F,zT b⟩,F⟩
  .have V:=S (show ∀u∈us,u∈N from λu R=>by
    obtain⟨q,hq,e⟩:=List.getElem_of_mem R
    exact HJ q u I (by rw[yt hq,e]))
   go_wp2;go_ret;exact⟨⟨Vp,F,Zt V⟩,F⟩
def U9(P B C am cm n v1 m U kv M s t k w)(h:Dv w B C P am cm n v1 m U)(hk:k<n)(u:B8 w P 2 C kv M s)(ht:t.size<=maxLen)(z:Eu s t=E k):Calls Vb 117 #[Qp P,W t] w λe w'=>e=i9 (b9 #[(AX m k).vu,(AX m k).vo,W (AX m k).b])/\Qb w w':=by
 obtain⟨g,c,rfl,A,N,R⟩:=h.at hk;have y:k<Z m:=Jy h.ln
 have b:(k:Int)<Z m:=I;have d1:=h.c1;have s1:=u.c1;have Q:=h.lt;obtain⟨o,rfl,j,L⟩:∃o,M=E o/\C<=o/\AI w o (Z s) (Dz s):=by
  rcases u.mp with⟨_,e⟩|h
  .rw[e]at z;cases z
  .exact h
 obtain⟨d,i⟩:=Jx (w.alloc (JM #[Jl,Jl,W ⟨#[]⟩] 65));have l:Qb w d:=by rw[i];exact zC
 have H:=((L.kept (zH l JL) Js).kept (zH (show Qb d d.drew from(yN).drew) JL) Js).get (ty:=100) underlying100 (Oz d.drew) ht;rw[(by unfold Dz;rw[z];rfl:Dz s t=E (G k))]at H;have X:(Instr.lookup 100 (.map (E o)) (W t) Vt).run Vb d.drew=.ok (G k) d.drew:=H;have K:g<O w.1:=jk _ _ A;have e1:=Jc l Q d1;have e3:=Jc l Q s1;have x0:=Jc l K A;have x1:=Jc l K N;have x2:=Jc l K R;obtain⟨⟨⟨a,c',x,_⟩,⟨a2,c2,q,_⟩,f⟩,_,_⟩:=h.uns.2 k y;clear f;rw[x]at x0 ⊢;rw[q]at x1 ⊢;have z0:d.cell? (J (O w.1) 0)=E Jl:=by rw[i];simp[go_sem]
 have z1:d.cell? (J (O w.1) 1)=E Jl:=by rw[i];simp[go_sem]
 have z2:d.cell? (J (O w.1) 2)=E (W ⟨#[]⟩):=by rw[i];simp[go_sem]
 have zf0:d.frozen? (J (O w.1) 0)=Vt:=by rw[i];simp[go_sem]
 have zf1:d.frozen? (J (O w.1) 1)=Vt:=by rw[i];simp[go_sem]
 have zf2:d.frozen? (J (O w.1) 2)=Vt:=by rw[i];simp[go_sem]
 have T:=S l;have V:=S i;clear i l H L u h A N R x q;go_enter func117,ntmps117;go_wp2_with fail;rw[<-D V];go_region;go_wp2_with fail;refine yQ (v:=b9 #[.slice a (Ah U k).us.length c',i6 a2 (Ah U k).os.length c2,W (AX m k).b]) ?res F ?_;case res=>simp[results,results117,go_sem,z0,z1,z2]
 exact⟨F,(((T.setCell (p:=J (O w.1) 0) yk _).setCell (p:=J (O w.1) 1) yk _).setCell (p:=J (O w.1) 2) yk _).drew⟩
structure Dp(a:Jp)(ks:Jv):Prop where
 ln:Z ks=Z a
 at':∀i,i<Z a->ks[i]?=E (Ae a i).n
 nd:ks.Nodup
 sz:∀x∈ks,x.size<=maxLen
def xS(h:ks.Nodup):∀{i:Nat}{t:JZ},ks[i]?=E t->Eu ks t=E i:=by
 induction ks with
 |nil=>intro i t h;simp at h
 |cons x a ih=>
  intro i t b;rw[List.nodup_cons]at h;cases i with
  |zero=>simp at b;unfold Eu;rw[yU b]
  |succ i=>
   have H:a[i]?=E t:=Ju b
   have hx:x≠t:=λe=>h.1 (by rw[e];exact yE H)
   unfold Eu;rw[yS hx,ih h.2 H];rfl
def Dp.idx(h:Dp ms ks)(a:i<Z ms):Eu ks (Ae ms i).n=E i:=xS h.nd (h.at' i a)
def Dp.mem(h:Dp ms ks)(b:u∈ks):∃i,i<Z ms/\(Ae ms i).n=u:=by obtain⟨i,a,e⟩:=List.getElem_of_mem b;have c:=h.ln;have:=h.at' i I;rw[yt a,e]at this;injection this with this;exact⟨i,I,this.symm⟩
def Dp.inj(h:Dp ms ks)(b:i<Z ms)(c:j<Z ms)(e:(Ae ms i).n=(Ae ms j).n):i=j:=by have a:=h.idx b;rw[e,h.idx c]at a;injection a with a;exact a.symm
structure F7(a:Jp)(U:JC)(k:Nat)(b:Jv)(j:Nat):Prop where
 nd:b.Nodup
 reach:∀u∈b,∃i,i<Z a/\(Ae a i).n=u/\TC (B9 a U) k i
 first:∀u∈(Ah U k).us,u∈b
 done:∀q u i,q<j->b[q]?=E u->i<Z a->(Ae a i).n=u->∀x∈(Ah U i).us,x∈b
def F7.start{U k}(b:Dp ms ks)(a:k<Z ms)(c:∀i,i<Z ms->∀u∈(Ah U i).us,u∈ks):F7 ms U k ((Ah U k).us.foldl A9 []) 0:=
 ⟨Sa _ _ Js,λu h=>by
  rcases(Ig _ _).1 h with h|h
  .cases h
  .obtain⟨i,hi,e⟩:=b.mem (c k a u h)
   exact⟨i,hi,e,TC.one ⟨a,hi,by rw[e];exact h⟩⟩,λu h=>(Ig _ _).2 (yX h),λq u i d=>I⟩
def F7.step{U k i}(o:Dp ms ks)(B:∀i,i<Z ms->∀u∈(Ah U i).us,u∈ks)(h:F7 ms U k rs j)(n:i<Z ms)(s:rs[j]?=E (Ae ms i).n):F7 ms U k ((Ah U i).us.foldl A9 rs) (j+1):=by
 have p:=(jf.1 s).1;have y:∀q x,q<Z rs->((Ah U i).us.foldl A9 rs)[q]?=E x->rs[q]?=E x:=by
  have:∀(l acc:Jv) q x,q<Z acc->(l.foldl A9 acc)[q]?=E x->acc[q]?=E x:=by
   intro l;induction l with
   |nil=>intro acc q x _ h;exact h
   |cons a d ih=>
    intro acc q x t h;have b:Z acc<=Z (A9 acc a):=by
     by_cases e:a∈acc
     .rw[I9 e];exact yk
     .rw[GL e];simp
    have g:=ih (A9 acc a) q x I h;by_cases e:a∈acc
    .rw[I9 e]at g;exact g
    .rw[GL e,yH t]at g;exact g
  exact this _ _
 obtain⟨L,c,v,A⟩:=h.reach _ (yE s);have w:=o.inj c n v;subst w;refine⟨Sa _ _ h.nd,λu f=>?_,λu f=>(Ig _ _).2 (yW (h.first u f)),λq u C t hx X e x K=>?_⟩
 .rcases(Ig _ _).1 f with f|f
  .exact h.reach u f
  .obtain⟨m,Q,e⟩:=o.mem (B _ n u f);exact⟨m,Q,e,A.trans (TC.one ⟨n,Q,by rw[e];exact f⟩)⟩
 .have H:=y q u I hx;by_cases z:q=j
  .subst z;rw[s]at H;injection H with H;have:=o.inj n X (H.trans e.symm);subst this;exact(Ig _ _).2 (yX K)
  .exact(Ig _ _).2 (yW (h.done q u C I H X e x K))
def F7.len{k}(a:Dp ms ks)(h:F7 ms U k rs j):Z rs<=Z ms:=by
 rw[<-a.ln];exact FE rs ks h.nd (λu c=>by
  obtain⟨i,b,e,_⟩:=h.reach u c
  rw[<-e]
  exact yE (a.at' i b))
def F7.fin{k}(d:Dp ms ks)(h:F7 ms U k rs j)(p:Z rs<=j)(l:k<Z ms):(Ae ms k).n∈rs↔TC (B9 ms U) k k:=by
 constructor
 .intro c;obtain⟨i,g,e,o⟩:=h.reach _ c;have:=d.inj g l e;subst this;exact o
 .rintro⟨q,hp⟩;refine TC.closed (P:=λi=>(Ae ms i).n∈rs) (λa b f H=>?_) hp (λm c=>h.first _ c.2.2);obtain⟨q,n,e⟩:=List.getElem_of_mem f;exact h.done q _ a I (by rw[yt n,e]) H.1 F _ H.2.2
def nB(x y z w):(Instr.field 65 (b9 #[x,y,z]) 0).run Vb w=.ok x w:=Jk
def tF(a u):Z a<=Z (A9 a u):=by
 by_cases e:u∈a
 .rw[I9 e];exact yk
 .rw[GL e];simp
theorem XJ:∀(us acc:Jv),Z acc<=Z (us.foldl A9 acc)
 |[],acc=>yk
 |u::a,acc=>yy (tF acc u) (XJ a (A9 acc u))
def nC(a b:Jv)(h:j+1<=Z a):j+1<=Z (b.foldl A9 a):=yy h (XJ b a)
theorem gH(P B C am cm ms v1 vs U kv pv ks k w)(h:Dv w B C P am cm (Z ms) v1 vs U)(hM:Cj w am ms)(hk:k<Z ms)(hS:B8 w P 2 C kv pv ks)(hC:C<=O w.1)(hn:Z ms<=100)(hN:Dp ms ks)(hu:∀i,i<Z ms->∀u∈(Ah U i).us,u∈ks)(f:∀i,i<Z ms->(Ah U i).us.length<=20001):Calls Vb 107 #[Qp P,G k] w λe w'=>Bj e (¬ TC (B9 ms U) k k)/\Qb w w':=by
 obtain⟨g,c,rfl,q0,q1,q2⟩:=h.at hk;have hl:k<Z vs:=Jy h.ln
 have ht:(k:Int)<Z vs:=I;have hq:=h.lt;have d0:=h.c0;have d1:=h.c1;have hz:g<O w.1:=jk _ _ q0;have hr:(k:Int)<Z ms:=I;obtain⟨⟨Q,_,hB⟩,q,_⟩:=h.uns.2 k hl;obtain⟨au,cu,hE,_⟩:=id Q;have hA:=S (show Calls Vb 154 #[Qp (O w.1),(AX vs k).vu] (w.alloc (JM #[Jl,.map JL] 102)) λe w'=>e=i9 (i5 #[])/\C4 (w.alloc (JM #[Jl,.map JL] 102)) (O w.1) 0 (O w.1) Jl JL ((Ah U k).us.foldl A9 []) w' from
  Rm (O w.1) 0 (O w.1) _ JL [] (AX vs k).vu (Ah U k).us _ (B8.new w _ _) (λx hx=>hN.sz x (hu k hk x hx)) (by have:=f k hk;simp;omega) Js (Q.y zC) (λg e=>⟨Jy (q g e),Jb,Js⟩))
 rw[hE]at hA q0;have L:=S (F7.start hN hk hu);have HU:=S hu;have hg:=S f;have hd:=S h;clear h hu f Q q hB hE q1 q2;go_enter func107,ntmps107;go_wp2_with (first|(go_at_call 154;(with_reducible refine(D hA).mono ?_);rintro e w1 ⟨rfl,kv0,pv0,hs1,he1,hk1,hp1⟩;have l:=S hs1;have T:Qb w w1:=((zC).trans (he1.y (B:=O w.1) Js yk (λg e=>by simp[i8]at e) (λg e=>by simp at e)));clear hs1 he1 hk1 hp1 hA));go_loopw [6] (λi wr=>∃(j:Nat)(rs:Jv)(kv':Value)(pv':Option Nat),i=G j/\j<=Z rs/\Hid (B8 wr (O w.1) 0 (O w.1) kv' pv' rs)/\Hid (F7 ms U k rs j)/\Qb w wr) (λi _=>Z ms-(intOf i).toNat);case atStart=>exact⟨0,_,_,_,F,yn,l,L,T⟩
 case round=>
  clear l L T;obtain⟨j,rs,kv',pv',rfl,hj,K,z,H⟩:=hrel;obtain⟨ar,cr,rfl⟩:∃a c,kv'=i6 a (Z rs) c:=zS K.row;have r0:=K.c0;have hy:=H.size;have hw:=z.len hN;by_cases hh:j<Z rs
  .have hG:(j:Int)<Z rs:=I;obtain⟨p,hp⟩:∃p,rs[j]?=E p:=⟨_,yt hh⟩;obtain⟨i,hi,A,_⟩:=z.reach p (yE hp);obtain⟨gk,ck,hD,hs,R⟩:=K.row.strs.lt I;obtain⟨rfl,rfl⟩:ar=E (J gk 0)/\cr=ck:=by injection hD with x _ y;exact⟨x,y⟩
   have hc:=R j p hp;have n:=hd.y hC H;have t:=hS.y H;have ho:i<Z vs:=Jy n.ln
   have d:=S (U9 P B C am cm (Z ms) _ vs U kv pv ks p i wr n hi t (hN.sz p (by rw[<-A];exact yE (hN.at' i hi))) (by rw[<-A];exact hN.idx hi));obtain⟨⟨Q,he,hB⟩,q,_⟩:=n.uns.2 i ho;clear hB;have hH:=S (z.step hN HU hi (by rw[hp,A]));have X:=S (λ(w1:JY)(hb:Qb wr w1)=>Rm (O w.1) 0 (O w.1) _ pv' rs (AX vs i).vu (Ah U i).us w1 (K.y hb) (λx hx=>hN.sz x (HU i hi x hx)) (Jy ((D hg) i hi)) (Jy hb.size) (Q.y hb) (λg e=>⟨Jy (q g e),λe2=>by have:=q g e;have:=(K.row.lt g e2).1;omega,λe2=>by have:=q g e;have:=(K.plt g e2).1;omega⟩));obtain⟨a5,c5,hE,_⟩:=Q;obtain⟨a6,c6,N,_⟩:=he;rw[hE]at d X;rw[N]at d;have o:=S (yO (λg e=>(K.row.lt g e).1) (λg e=>(K.plt g e).1));clear hD hp A R n t q hE N;go_wp2_with (first|(go_at_call 117;(with_reducible refine(D d).mono ?_);rintro e w2 ⟨rfl,hb2⟩;have s:=S hb2;have hF:=S (X w2 hb2);clear hb2 d X));rw[nB];go_wp2_with (first|(go_at_call 154;(with_reducible refine(D hF).mono ?_);rintro e w3 ⟨rfl,kv3,pv3,hs3,he3,hk3,hp3⟩;have hm:=S hs3;have ha:Qb w w3:=((H.trans (s.mono I)).trans (he3.y (B:=O w.1) (Jy s.size) yk o.1 o.2));clear hs3 he3 hk3 hp3 hF));exact⟨⟨j+1,_,_,_,Jn,by have:=hH.nd;exact nC rs _ I,hm,hH,ha⟩,Ji⟩
  .have M:=S (z.fin hN I hk);have hG:¬ (j:Int)<Z rs:=I;have hJ:=S (Se (O w.1) 0 (O w.1) _ pv' rs (Ae ms k).n wr K (hN.sz _ (yE (hN.at' k hk))));obtain⟨bA,V,rfl,m,hI⟩:∃b V,am=E (J b V)/\J3 w b V ms/\b<O w.1:=by
    rcases D hM with h|h
    .omega
    .exact h
   obtain⟨m0,m1⟩:=m k hk;have e0:=Jc H hI m0;have f0:=Jc H hq d0;go_wp2_with (first|(go_at_call 153;(with_reducible refine(D hJ).mono ?_);rintro e w2 ⟨⟨v,rfl,hv⟩,hx⟩;obtain rfl:=hx.symm;have HV:=S hv;clear hv hx));go_ret;refine⟨⟨!v,F,?_⟩,H⟩;have hv:=D HV;have hf:=D M;unfold DO at hv ⊢;cases v<;>simp_all
theorem Va{b:ByteArray->Nat}{T c:Nat->Jf}:∀(us:Jv)(acc:Jf),(∀u∈us,T (b u)=c (b u))->CG b T acc us=CG b c acc us
 |[],_,_=>rfl
 |u::a,acc,h=>by simp only[CG];rw[h u (by simp),Va a _ (λx hx=>h x (by simp[hx]))]
theorem XK{b:ByteArray->Nat}{T:Nat->Jf}{x}:∀(us:Jv)(acc:Jf),x∈CG b T acc us->x∈acc\/∃u∈us,x∈T (b u)
 |[],_,h=>yW h
 |u::a,acc,h=>by
  simp only[CG]at h;split at h
  .exact yW h
  .rcases XK a _ h with h|⟨u',h1,h2⟩
   .rcases(Ze _ _).1 h with h|h
    .exact yW h
    .exact yX ⟨u,Js,h⟩
   .exact yX ⟨u',by simp[h1],h2⟩
def DV(n)(a:ByteArray->Nat)(U)(T:Nat->Jf):=∀i,i<n->T i=CG a T (zj [] (Ah U i).os) (Ah U i).us
def GB(n)(b:ByteArray->Nat)(U)(a:Nat->Nat):=(∀i,i<n->∀u∈(Ah U i).us,b u<n/\a (b u)<a i)/\∀i,i<n->a i<n
def Ma(b:ByteArray->Nat)(U:JC):Nat->Nat->Jf
 |0,_=>[]
 |a+1,i=>CG b (Ma b U a) (zj [] (Ah U i).os) (Ah U i).us
theorem XL{n}{b:ByteArray->Nat}{U}{c:Nat->Nat}(h:GB n b U c):∀a i,i<n->c i<a->Ma b U a i=Ma b U (a+1) i
 |0,i,_,hr=>I
 |a+1,i,hi,hr=>by show CG b (Ma b U a) _ _=CG b (Ma b U (a+1)) _ _;refine Va _ _ (λu e=>?_);obtain⟨d,f⟩:=h.1 i hi u e;exact XL h a (b u) d I
def zbu(h:GB n nm U rk):∃T,DV n nm U T:=
 ⟨Ma nm U n,λi a=>XL h n i a (h.2 i a)⟩
theorem DV.nd(h:DV n nm U T)(a:i<n):(T i).Nodup:=by rw[h i a];grind [Yg,GI]
theorem DV.sub{n}{c:ByteArray->Nat}{U}{T:Nat->Jf}{e:Nat->Nat}(h:DV n c U T)(d:GB n c U e)(f:n<=Z U):∀a i,i<n->e i<a->∀o∈T i,o∈Z4 U
 |0,i,_,hr'=>I
 |a+1,i,hi,hr'=>λo b=>by
  rw[h i hi]at b;rcases XK _ _ b with b|⟨u,g,b⟩
  .rcases(Ze _ _).1 b with b|b
   .cases b
   .exact List.mem_flatMap.2 ⟨_,NU I,b⟩
  .obtain⟨h1,h2⟩:=d.1 i hi u g;exact DV.sub h d f a (c u) h1 I o b
theorem DV.near{n}{d:ByteArray->Nat}{U c}{a T:Nat->Jf}{k:Nat->Nat}(h:DV n d c T)(j:GB n d c k)(f:∀i,i<n->a i=Bi d a (zj [] (Ah U i).os) (Ah U i).us)(g:∀i,i<n->(Ah c i).os=(Ah U i).os/\(Ah c i).us=BR (Ah U i).us):∀b i,i<n->k i<b->OD (a i) (T i)
 |0,i,_,hr'=>I
 |b+1,i,hi,hr'=>by
  have l:a i=Bi d a (zj [] (Ah c i).os) (Ah c i).us:=by rw[(g i hi).1,(g i hi).2,lR];exact f i hi
  rw[l,h i hi];refine VQ _ _ _ (λu m=>?_) ⟨λ_=>F,λx=>x⟩;obtain⟨e,o⟩:=j.1 i hi u m;refine⟨DV.near h j f g b (d u) e I,?_,h.nd e⟩;rw[f _ e];exact NE _ _ _ _ (GI _ _ Js)
structure Be(w:JY)(C d:Nat)(b:Jp)(T:Nat->Jf)(a:ByteArray->Option Value):Prop where
 mp:∃(m:Nat)(M:List Nat),AI w d m a/\m<=Z M/\M.Nodup/\∀j∈M,j<Z b/\(a (Ae b j).n).isSome=Vp
 at':∀j,j<Z b->∀x,a (Ae b j).n=E x->∃v,x=b9 #[v]/\AQ w C v (T j)/\∀g,v.ownBlock=E g->C<=g/\g<O w.1
 apt:∀i j,i<Z b->j<Z b->i≠j->∀v c,a (Ae b i).n=E (b9 #[v])->a (Ae b j).n=E (b9 #[c])->∀g,v.ownBlock=E g->c.ownBlock≠E g
def AI.same(h:AI w b n a)(k:w'.heap[b]?=w.heap[b]?):AI w' b n a:=by obtain⟨c,⟨f,e,j,d,g,i⟩,h⟩:=h;exact⟨c,⟨f,e,k.trans j,d,g,i⟩,h⟩
def Dj(c)(a:ByteArray->Option Value)(b d e):=∀j,j<Z c->∀v,a (Ae c j).n=E (b9 #[v])->G4 v b d e
theorem Be.eff(h:Be w C bs ms T a)(n:Dj ms a b kv pv)(d:Bz w w' b o kv pv)(H:bs<O w.1)(i:bs≠b)(k:kv.ownBlock≠E bs)(l:pv≠E bs):Be w' C bs ms T a:=by
 refine⟨?_,λj f x hx=>?_,h.apt⟩
 .obtain⟨m,M,hm,hM⟩:=h.mp;exact⟨m,M,hm.same (d.blk bs H i k l),hM⟩
 .obtain⟨v,rfl,hv,hb⟩:=h.at' j f x hx;have c:=n j f v hx;have p:=d.size;exact⟨v,F,JI hv (λg e=>d.blk g (hb g e).2 (c g e).1 (c g e).2.1 (c g e).2.2),λg e=>⟨(hb g e).1,by grind⟩⟩
def Be.y{w f C b d}{T:Nat->Jf}{a:ByteArray->Option Value}(h:Be w C b d T a)(c:Qb w f):Be f C b d T a:=by
 refine⟨?_,λj i x hx=>?_,h.apt⟩
 .obtain⟨m,M,hm,hM⟩:=h.mp;exact⟨m,M,hm.same (c.block b hm.lt),hM⟩
 .obtain⟨v,rfl,hv,hg⟩:=h.at' j i x hx;exact⟨v,F,hv.y c,λg e=>⟨(hg g e).1,by have:=(hg g e).2;have:=c.size;omega⟩⟩
def Be.lt{w C b d}{T:Nat->Jf}{a:ByteArray->Option Value}(h:Be w C b d T a):b<O w.1:=by obtain⟨m,M,c,_⟩:=h.mp;exact c.lt
theorem Be.cnt(h:Be w C bs ms T a):∃m,AI w bs m a/\m<=Z ms:=by obtain⟨m,M,f,e,b,c⟩:=h.mp;have:=FE M (List.range (Z ms)) b (λj d=>List.mem_range.2 (c j d).1);grind
theorem Be.put{t:JY}(z:Dp ms ks)(h:Be w C bs ms T a)(A:i<Z ms)(R:a (Ae ms i).n=JL)(hC:bs<C)(hv:AQ w C v (T i))(hd:∀j,j<Z ms->∀s,a (Ae ms j).n=E (b9 #[s])->∀g,v.ownBlock=E g->s.ownBlock≠E g)(Q:∀g,v.ownBlock=E g->C<=g/\g<O w.1)(U:zE w t bs)(V:∀m,AI w bs m a->m<=Z ms->AI t bs (m+1) (λo=>if o.data=(Ae ms i).n.data then E (b9 #[v]) else a o)):Be t C bs ms T (λo=>if o.data=(Ae ms i).n.data then E (b9 #[v]) else a o):=by
 have l:∀{f b:JZ},f.data=b.data->f=b:=fun{f b} e=>by cases f;cases b;simp at e;rw[e]
 have hz:=U.size;have k:∀g,C<=g/\g<O w.1->t.heap[g]?=w.heap[g]?:=λg R=>U.block g R.2 I
 refine⟨?_,λj n x hx=>?_,λf b L N q x y hx hy g e=>?_⟩
 .obtain⟨m,M,p,h1,h2,h3⟩:=h.mp;have d:=FE M (List.range (Z ms)) h2 (λj n=>List.mem_range.2 (h3 j n).1);rw[List.length_range]at d;refine⟨m+1,i::M,V m p I,Jq,?_,λj n=>?_⟩;all_goals grind
 .have H:(if(Ae ms j).n.data=(Ae ms i).n.data then E (b9 #[v]) else a (Ae ms j).n)=E x:=hx;by_cases e:(Ae ms j).n.data=(Ae ms i).n.data
  .rw[yU e]at H;have P:=z.inj n A (l e);subst P;injection H with H;exact⟨v,H.symm,JI hv (λg e=>k g (Q g e)),λg e=>⟨(Q g e).1,by grind⟩⟩
  .rw[yS e]at H;obtain⟨s,rfl,c,K⟩:=h.at' j n x H;exact⟨s,F,JI c (λg e=>k g (K g e)),λg e=>⟨(K g e).1,by grind⟩⟩
 .have H:(if(Ae ms f).n.data=(Ae ms i).n.data then E (b9 #[v]) else a (Ae ms f).n)=E (b9 #[x]):=hx;have X:(if(Ae ms b).n.data=(Ae ms i).n.data then E (b9 #[v]) else a (Ae ms b).n)=E (b9 #[y]):=hy;by_cases B:(Ae ms f).n.data=(Ae ms i).n.data
  .have i1:=z.inj L A (l B);by_cases u:(Ae ms b).n.data=(Ae ms i).n.data
   .exact yV (i1.trans (z.inj N A (l u)).symm) q
   .grind
  .rw[yS B]at H;by_cases u:(Ae ms b).n.data=(Ae ms i).n.data
   .grind
   .rw[yS u]at X;exact h.apt f b L N q x y H X g e
structure QJ(P:Nat)(v1:Value)(w a:JY):Prop where
 os:a.os=w.os
 tape:a.tape=w.tape
 output:a.output=w.output
 size:O w.1<=O a.1
 blk:∀q,q<O w.1->q≠P->v1.ownBlock≠E q->a.heap[q]?=w.heap[q]?
 cel:∀o,o≠1->a.cell? (J P o)=w.cell? (J P o)/\a.frozen? (J P o)=w.frozen? (J P o)
def aH(w:JY)(H B P i:Nat)(h)(j:Nat)(a:Jp)(d:Value)(m:List AO)(U:JC)(k:Nat)(e:Ending)(g:JY):=
 Bj e (¬ B2 a k)/\QJ P d w g/\∃x us os b c l f,ZC (Ae a k).t us os b c l/\EN g B P i h j (Z a) f (m++[x]) (U++[⟨BR us,os,b⟩])/\Zl (O w.1) d.ownBlock f.ownBlock
def zbv{k b c l}(h:ZC (Ae ms k).t us os b c l)(f:c=0)(n:(Ae ms k).n.size<=64)(e:Cv (Ae ms k).n):¬ B2 ms k:=by
 rintro(⟨i,g,j,m,o,a,d⟩|a|a)
 .exact d ((ZC.one h a).2.2.2.1 ▸ f)
 .exact a e
 .omega
def EN.y{w t B P d c f n m s U}(h:EN w B P d c f n m s U)(a:Qb w t):EN t B P d c f n m s U:=by
 have j:=h.lt;have b:=λq=>a.cell (p:=J P q) j
 refine⟨h.hP,h.hbs,h.hne,(b 0).trans h.c0,(b 1).trans h.c1,(b 2).trans h.c2,(b 3).trans h.c3,(b 4).trans h.c4,λo=>(a.frozen (p:=J P o) j).trans (h.fz o),h.row.y a,⟨h.uns.1,λi u=>?_⟩,h.lo,h.sm.kept (zH a JL) Js⟩;obtain⟨⟨v,x,y⟩,k,l⟩:=h.uns.2 i u;have z:=a.size;exact⟨⟨v.y a,x.y a,y⟩,λg e=>⟨(k g e).1,Jy ((k g e).2)⟩,λg e=>⟨(l g e).1,Jy ((l g e).2)⟩⟩
def za6{f w4:JY}{g4 c4:Nat}{x:AO}{b p:JZ}(h:EN w B P bs am cm n v1 vs U)(A:B<=O w.1)(N:H<=P)(k:Qb w f)(s:ZM f x.vu us)(t:ZX f x.vo os)(z:x.b=b)(L:∀g,x.vu.ownBlock=E g->O w.1<=g/\g<O f.1)(m:∀g,x.vo.ownBlock=E g->O w.1<=g/\g<O f.1)(l:f.cell? (J (O w.1) 0)=E (W p))(y:w4.ownsRow B 65 3 (Ql g4 (Z vs+1) c4) (Z vs+1) (CK vs++CK [x]))(i:(f.alloc ob).drew.grownBy w4 v1.ownBlock)(X:v1.ownBlock=E g4\/g4=(f.alloc ob).drew.heap.size):EN (w4.setCell (J P 1) (Ql g4 (Z vs+1) c4)) B P bs am cm n (Ql g4 (Z vs+1) c4) (vs++[x]) (U++[⟨us,os,b⟩])/\QJ P v1 w (w4.setCell (J P 1) (Ql g4 (Z vs+1) c4))/\(w4.setCell (J P 1) (Ql g4 (Z vs+1) c4)).cell? (J (O w.1) 0)=E (W p)/\Zl (O w.1) v1.ownBlock (E g4):=by
 have Q:Qb f (f.alloc ob).drew:=(zC).drew;have K:=k.trans (Q.mono k.size);have T:(f.alloc ob).drew.heap.size=O f.1+1:=Js;have a:=k.size;have u:=h.lt;have v:=h.hP;have c:O w.1<O f.1:=jk _ _ l;have C:C0 w4 B (Ql g4 (Z vs+1) c4) (vs++[x]):=by unfold C0;rw[TV,yr];exact y
 refine⟨h.step A K (s.y Q) (t.y Q) z (λg e=>?_) (λg e=>?_) i C (X.imp (λe=>e.symm) (λe=>⟨g4,F,I⟩)),?_,?_,X.imp (λe=>e.symm) (λe=>⟨g4,F,I⟩)⟩
 .have:=L g e;omega
 .have:=m g e;omega
 .have V:=i.size;refine⟨i.os.trans K.os,i.tape.trans K.tape,i.output.trans K.output,by simp[World.setCell];omega,λq R j M=>?_,λo m=>?_⟩
  .rw[jh _ _ _ _ (Ju j)];exact(i.block q I (λe=>M e.symm)).trans (K.block q I)
  .have d:=(i.block P I (λe=>Jy ((h.row.lt P e.symm).1))).trans (K.block P I);exact⟨(yj _ _ _ _ (by intro x;injection x with _ x;omega)).trans (yv (w:=w) d),(yx).trans (yG (w:=w) d)⟩
 .refine(yj _ _ _ _ (by intro x;injection x with x;omega)).trans ((zJ i (b:=O w.1) I (λe=>Jy ((h.row.lt _ e).2)) 0).trans (Jc Q Jh l))
def eW(H B P bs am cm ms v1 vs U k w)(h:EN w B P bs am cm (Z ms) v1 vs U)(hB:B<=O w.1)(hH:H<=P)(hM:Cj w am ms)(hk:k<Z ms)(hJ:Z vs<=1048576)(hs:(Ae ms k).t.size<=maxLen)(ho:(Ae ms k).n.size<=maxLen)(hQ:CP w):Calls Vb 104 #[.pointer (E ⟨P,0,JL⟩),G k] w (aH w H B P bs am cm ms v1 vs U k):=by
 have hz:=h.lt;have hG:=h.hP;have c0:=h.c0;have hF:(k:Int)<Z ms:=I;rcases hM with hM|⟨bA,h2,rfl,L,hE⟩
 .omega
 obtain⟨m0,m1⟩:=L k hk;obtain⟨s,hd⟩:=Jx ((Ae ms k).t);obtain⟨nm,hb⟩:=Jx ((Ae ms k).n);rw[<-hd]at m1 hs;rw[<-hb]at m0 ho;have hy:=S hd;have t:=S hb;obtain⟨a1,c1,rfl⟩:∃a hW,v1=i6 a (Z vs) hW:=zS h.row;have A:=S h;have d1:=h.c1;obtain⟨W0,n⟩:=Jx (w.alloc (JM #[W nm,W s] 49));have hf:Below (O w.1) w W0:=by rw[n];exact zC
 have h8:O W0.1=O w.1+1:=by rw[n];simp
 have n0:W0.cell? ⟨O w.1,0,JL⟩=E (W nm):=by rw[n];simp[go_sem]
 have HU:=S (dG s W0 hs (hQ.y hf));have h9:=S n;have h3:=S hf;have z:=S h8;clear h hd hb L n hf;go_enter func104,ntmps104;go_wp2_with (first|(go_at_call 150;rw[<-D h9];(with_reducible refine(D HU).mono ?_);rintro e w1 ⟨vu,vo,us,os,b,cc,l,rfl,hui,hru,hro,huo,hul,hol,hb1⟩;have hn:=S hui;have hI:O w.1+1<=O w1.1:=(by have:=hb1.size;rw[D z]at this;exact this);have h4:=S hb1;obtain⟨au,cu,rfl⟩:∃a hW,vu=i6 a (Z us) hW:=zS hru;obtain⟨ao,co,rfl⟩:∃a hW,vo=i6 a (Z os) hW:=zS hro;have hc:=S hro;have HX:=S (gF (i6 au (Z us) cu) us (w1.alloc (JM #[.slice au (Z us) cu,i6 ao (Z os) co,W b] 65)) (λx hx=>(by have:=(Nz hui).2 x hx;unfold maxLen;omega)) I (hru.strs.y zC) (λg e=>(by have:=(hru.lt g e).2;simp;omega)));have n1:w1.cell? ⟨O w.1,0,JL⟩=E (W nm):=(hb1.cell (p:=⟨O w.1,0,JL⟩) (by show O w.1<O W0.1;rw[D z];omega)).trans n0;clear hui hru hro huo hb1 HU n0)|(go_at_call 151;(with_reducible refine(D HX).mono ?_);rintro e w2 ⟨vd,rfl,hrd,hb2⟩;have he:=S hb2;have hC:O w1.1+1<=O w2.1:=(by have:=hb2.size;simpa using this);have n2:w2.cell? ⟨O w.1,0,JL⟩=E (W nm):=(hb2.cell (p:=⟨O w.1,0,JL⟩) Jq).trans (((@zC w1 _).cell (p:=⟨O w.1,0,JL⟩) (I:O w.1<O w1.1)).trans n1);obtain⟨ad,cd,rfl⟩:∃a hW,vd=i6 a (Z (BR us)) hW:=zS hrd;have f:=S hrd;have x0:w2.cell? ⟨O w1.1,0,JL⟩=E (i6 au (Z us) cu):=(hb2.cell (p:=⟨O w1.1,0,JL⟩) Js).trans Jg;have x1:w2.cell? ⟨O w1.1,1,JL⟩=E (i6 ao (Z os) co):=(hb2.cell (p:=⟨O w1.1,1,JL⟩) Js).trans Jg;have x2:w2.cell? ⟨O w1.1,2,JL⟩=E (W b):=(hb2.cell (p:=⟨O w1.1,2,JL⟩) Js).trans Jg;have xf:w2.frozen? ⟨O w1.1,0,JL⟩=Vt:=(hb2.frozen (p:=⟨O w1.1,0,JL⟩) Js).trans Jg;clear HX hb2 hrd n1));obtain⟨X,hX⟩:=Jx (O w1.1);obtain⟨W3,Q⟩:=Jx (w2.setCell ⟨O w1.1,0,JL⟩ (i6 ad (Z (BR us)) cd));have h5:O W3.1=O w2.1:=by rw[Q];simp[World.setCell]
 have V:Below (O w.1) w W3:=by rw[Q];refine Below.setCell (p:=⟨O w1.1,0,JL⟩) ?_ (I:O w.1<=O w1.1) _;exact(h3.trans (h4.mono (by rw[D z];omega))).trans (((zC).mono I).trans (he.mono Jq))
 have y0:W3.cell? ⟨X,0,JL⟩=E (i6 ad (Z (BR us)) cd):=by rw[Q,hX];exact yu _ _ _ x0
 have y1:W3.cell? ⟨X,1,JL⟩=E (i6 ao (Z os) co):=by rw[Q,hX];exact(yj _ _ _ _ Js).trans x1
 have y2:W3.cell? ⟨X,2,JL⟩=E (W b):=by rw[Q,hX];exact(yj _ _ _ _ Js).trans x2
 have n3:W3.cell? ⟨O w.1,0,JL⟩=E (W nm):=by rw[Q];exact(yj _ _ _ _ (by intro x;injection x with x;omega)).trans n2
 have p3:=Jc V hz d1;have sg:w2.grownBy W3 (E (O w1.1)):=by rw[Q];exact zx _ _ _ _
 have hp:ZM W3 (i6 ad (Z (BR us)) cd) (BR us):=f.strs.grown sg (λg e x=>by injection x with x;have:=(f.lt g e).1;simp at this;omega);have hl:ZX W3 (i6 ao (Z os) co) os:=((hc.ops.y zC).y he).grown sg (λg e x=>by injection x with x;have:=(hc.lt g e).2;omega);have hg:∀g,(i6 ad (Z (BR us)) cd).ownBlock=E g->O w.1<=g/\g<O W3.1:=λg e=>Jz (f.lt g e)
 have hD:∀g,(i6 ao (Z os) co).ownBlock=E g->O w.1<=g/\g<O W3.1:=λg e=>by have:=hc.lt g e;rw[D z]at this;omega
 have hY:X<O W3.1:=I;have hV:X≠P:=I;have hO:O w.1<X:=I;have N:=S (λ(w4:JY)(g4 c4:Nat)(ob:Obj)=>za6 (ob:=ob) (x:=⟨.slice ad (Z (BR us)) cd,i6 ao (Z os) co,b⟩) (w4:=w4) (g4:=g4) (c4:=c4) A hB hH V hp hl F hg hD n3);have h1:=S (A.row.y V);have h6:Hid (∀i,i<O w.1+1->B<=i\/i<B->True):=λ_ _ _=>trivial
 have hq:(i6 a1 (Z vs) c1).ownBlock≠E P:=λe=>Jy ((A.row.lt P e).1)
 have hh:(i6 a1 (Z vs) c1).ownBlock≠E X:=λe=>Jy ((A.row.lt X e).2)
 have R:=S (yO hq hh);have pf:=(V.frozen (p:=⟨P,1,JL⟩) hz).trans (A.fz 1);rw[<-Q,<-hX];have hP:P<O W3.1:=I;have hN:=S (show(Z (BR us))<=20001 from(by have:=RN us [];simp at this;unfold BR;omega));clear hX Q x0 x1 x2 xf n2 V sg hp hl hg hD f he h6 hq hh d1 c0 m0 m1 h5;have k6:∀o',(W3.alloc o').drew.cell? ⟨P,1,JL⟩=E (i6 a1 (Z vs) c1):=λo'=>((@zC W3 o').cell (p:=⟨P,1,JL⟩) hP).trans p3
 have y:(λc:World=>c.cell? ⟨X,0,JL⟩=E (i6 ad (Z (BR us)) cd)/\c.cell? ⟨X,1,JL⟩=E (i6 ao (Z os) co)/\c.cell? ⟨X,2,JL⟩=E (W b)) W3.drew:=⟨y0,y1,y2⟩;have hU:=S (show(λc:World=>c.cell? ⟨X,0,JL⟩=E (i6 ad (Z (BR us)) cd)/\c.cell? ⟨X,1,JL⟩=E (i6 ao (Z os) co)/\c.cell? ⟨X,2,JL⟩=E (W b)) (W3.alloc (JM #[.slice ad (Z (BR us)) cd,i6 ao (Z os) co,W b] 65)).drew from⟨((@zC W3 _).cell (p:=⟨X,0,JL⟩) hY).trans y0,((@zC W3 _).cell (p:=⟨X,1,JL⟩) hY).trans y1,((@zC W3 _).cell (p:=⟨X,2,JL⟩) hY).trans y2⟩);refine wp_region_held_drew (S:=λc:World=>c.cell? ⟨X,0,JL⟩=E (i6 ad (Z (BR us)) cd)/\c.cell? ⟨X,1,JL⟩=E (i6 ao (Z os) co)/\c.cell? ⟨X,2,JL⟩=E (W b)) Jk y (λ_=>?_);refine Ap 0 y ?_;refine Ap 1 y ?_;refine Ap 2 y ?_;refine Ap 3 y ?_;refine Ap 5 y ?_;refine yR (rs:=[4,6]) Jk Js ?_;refine yK F (λK hK=>?_) (yK F (λK hK=>?_) yL);focus
  simp only[yc,ya,yb]
  go_simp
  refine hK.out _ _ y (λ_=>?_)
  clear hK
  refine yR (rs:=[6]) Jk Js ?_
 rotate_left
 focus
  simp only[yc,ya,yb]
  go_simp
  refine hK.out _ _ hU (λ_=>?_)
  clear hK
  refine yR (rs:=[4]) Jk Js ?_
 all_goals
  refine yK F (λK hK=>?_) yL
  simp only[yc,ya,yb]
  go_simp
  refine hK.out _ _ hU (λ_=>?_)
  clear hK
  refine yR (rs:=[7]) Jk Js ?_
  refine yK F (λK hK=>?_) yL
  refine De Y4 underlying74 (.tmp 31) (.tmp 33) (by rfl) (by rfl) B _ (Z vs) (CK vs) (by rfl) (h1.y ((zC).drew)) ⟨O W3.1,0,JL⟩ 1 1 (CK [⟨.slice ad (Z (BR us)) cd,i6 ao (Z os) co,b⟩]) (by rfl) F (λj u hj=>(Ju (Vx W3 ⟨.slice ad (Z (BR us)) cd,i6 ao (Z os) co,b⟩ j u hj))) (λu hu=>by simp[CK]at hu;rcases hu with rfl|rfl|rfl<;>rfl) Jd Jm I Jq _ F ?_
  intro g4 c4 w4 d q M hi
  have m2:w4.cell? ⟨P,1,JL⟩=E (i6 a1 (Z vs) c1):=(zJ q (b:=P) Jq R.1 1).trans (k6 _)
  have m3:w4.frozen? ⟨P,1,JL⟩=Vt:=(Z8 q (b:=P) Jq R.1 1).trans (((@zC W3 _).frozen (p:=⟨P,1,JL⟩) hP).trans pf)
  have ec:=λj=>zJ q (b:=X) Jq R.2 j
  have e0:=(ec 0).trans hU.1
  have e1:=(ec 1).trans hU.2.1
  have e2:=(ec 2).trans hU.2.2
  have hw:=S (N _ _ _ _ d q M)
  clear d q M hi ec
  refine hK.out _ _ ⟨e0,e1,e2⟩ (λo=>?_)
  clear hK
  simp only[yc,ya,yb]
  simp only[Act.put,ye,yg,yh]
  refine Ap 8 o ?_
  refine Ap 9 o ?_
  refine yR (rs:=[10]) Jk Js ?_
  refine yK F (λK hK=>?_) yL
  simp only[yc,ya,yb]
  go_simp
  refine hK.out _ _ ⟨by rw[yj _ _ _ _ (by simp[hV])];exact e0,by rw[yj _ _ _ _ (by simp[hV])];exact e1,by rw[yj _ _ _ _ (by simp[hV])];exact e2⟩ (λh0=>?_)
  clear hK
  refine wpAnyH_done Jk ?_ _
  clear o h0
  obtain⟨f1,f2,f3,f4⟩:=D hw
  obtain⟨w5,hR⟩:=Jx (w4.setCell ⟨P,1,JL⟩ (i6 (E ⟨g4,0,JL⟩) (Z vs+1) c4))
  rw[<-hR]at f1 f2 f3
  rw[<-hR]
  have C:=S (λ(e:Ending)(hr:Bj e (¬ B2 ms k))=>show aH w H B P bs (E ⟨bA,h2,JL⟩) cm ms (i6 a1 (Z vs) c1) vs U k e w5 from⟨hr,f2,_,us,os,b,cc,l,_,by rw[<-D hy];exact hn,f1,f4⟩)
  have m:=S (by rw[<-D hy];exact D hn:ZC (Ae ms k).t us os b cc l)
  have hm:Hid (Calls Vb 142 #[G 3,W nm] w5 λe w'=>Bj e (Iw 3 nm)/\w'=w5):=O8 3 nm w5 ho
  clear f1 f2 f4 hR hw N y hU k6 e0 e1 e2 m2 m3 y0 y1 y2 p3 n3 pf
  by_cases ha:cc=0
  .subst ha
   by_cases h7:nm.size<=64
   .have ht:(nm.size:Int)<=64:=I
    go_wp2_with (first|(go_at_call 142;(with_reducible refine(D hm).mono ?_);rintro e w6 ⟨⟨v,rfl,hv⟩,hx⟩;obtain rfl:=hx.symm;have HV:=S hv;clear hv hx))
    go_ret
    refine C _ ⟨v,F,?_⟩
    have hv:=D HV
    unfold DO at hv ⊢
    rw[hv,Yd]
    exact⟨λh=>zbv m F (by rw[<-D t];exact h7) (by rw[<-D t];exact h),λh=>by by_cases x:Cv nm;exact x;exact yV (yX (yW (by rw[<-D t];exact x))) h⟩
   .have ht:¬ (nm.size:Int)<=64:=I
    have T:Hid (B2 ms k):=yX (yX (by rw[<-D t];omega))
    go_wp2
    go_ret
    exact C _ ⟨Vt,F,zT (λh=>h T)⟩
  .have hA:(cc==0)=Vt:=Ju ha
   have T:Hid (B2 ms k):=yW ⟨us,os,b,cc,l,m,ha⟩
   go_wp2
   go_ret
   exact C _ ⟨Vt,F,zT (λh=>h T)⟩
def cA(w):(zeroValue 45).run Vb w=.ok (b9 #[Jl]) w:=Jk
def pT(x w):(Instr.field 45 (b9 #[x]) 0).run Vb w=.ok x w:=Jk
def B8.same{w w' b o B d f n}(h:B8 w b o B d f n)(c:∀i,i=b\/d.ownBlock=E i\/f=E i->w'.heap[i]?=w.heap[i]?):B8 w' b o B d f n:=by
 have l:=λq=>yv (w:=w) (w':=w') (a:=J b q) (c b (yW F))
 have m:=λq=>yG (w:=w) (w':=w') (a:=J b q) (c b (yW F))
 exact⟨(l o).trans h.c0,(l _).trans h.c1,(m o).trans h.f0,(m _).trans h.f1,JI h.row (λg e=>c g (yX (yW e))),h.mp.imp id (λ⟨j,k,p,s⟩=>⟨j,k,p,s.same (c j (yX (yX k)))⟩),h.nk,h.np,h.nn⟩
def BO.same{d:Ad->Option Value}(h:BO w b n d)(k:w'.heap[b]?=w.heap[b]?):BO w' b n d:=by obtain⟨a,⟨f,e,j,c,g,i⟩,h⟩:=h;exact⟨a,⟨f,e,k.trans j,c,g,i⟩,h⟩
def CQ.same{w w' b o B d f n}(h:CQ w b o B d f n)(c:∀i,i=b\/d.ownBlock=E i\/f=E i->w'.heap[i]?=w.heap[i]?):CQ w' b o B d f n:=by
 have l:=λq=>yv (w:=w) (w':=w') (a:=J b q) (c b (yW F))
 have m:=λq=>yG (w:=w) (w':=w') (a:=J b q) (c b (yW F))
 exact⟨(l o).trans h.c0,(l _).trans h.c1,(m o).trans h.f0,(m _).trans h.f1,JI h.row (λg e=>c g (yX (yW e))),h.mp.imp id (λ⟨j,k,p,s⟩=>⟨j,k,p,s.same (c j (yX (yX k)))⟩),h.nk,h.np,h.nn⟩
def aI(w:JY)(C c:Nat)(b:Jp)(T:Nat->Jf)(d:Nat->Nat)(a:ByteArray->Option Value)(i:Nat)(e)(f:JY):=
 ∃v G',e=i9 (b9 #[v])/\G' (Ae b i).n=E (b9 #[v])/\Be f C c b T G'/\w.grownBy f (E c)/\(∀j,j<Z b->∀x,a (Ae b j).n=E x->G' (Ae b j).n=E x)/\(∀j,j<Z b->d i<d j->G' (Ae b j).n=a (Ae b j).n)/\∀j,j<Z b->∀x,G' (Ae b j).n=E (b9 #[x])->a (Ae b j).n=E (b9 #[x])\/∀g,x.ownBlock=E g->O w.1<=g
structure Eg(w:JY)(B C P a:Nat)(am:Option Addr)(b:Nat)(c:Jp)(v1:Value)(vs:List AO)(U:JC)(kv:Value)(pv:Option Nat)(ks:Jv):Prop where
 pg:Dv w B C P am b (Z c) v1 vs U
 nm:B8 w P 2 C kv pv ks
 c4:w.cell? (J P 4)=E (.map (E a))
 hC:C<=O w.1
 hP:P<B
 hbs:a<B
 hBC:B<=C
 hne:a≠P
def Eg.keep{w d B C P f j k s u v U p t o}(h:Eg w B C P f j k s u v U p t o)(n:w.grownBy d (E f)):Eg d B C P f j k s u v U p t o:=by
 have y:=h.hC;have Q:=h.hbs;have K:=h.hBC;have H:=h.pg.lt;have x:=n.size;have c:∀i,i<O w.1->i≠f->d.heap[i]?=w.heap[i]?:=λi l m=>n.block i l (λe=>m (by injection e))
 have g:=λq=>yv (w:=w) (w':=d) (a:=J P q) (c P H (Ne.symm h.hne))
 exact⟨h.pg.keep x (λi l m=>c i I I) (g 0) (g 1),h.nm.same (λi b=>by
  rcases b with rfl|b|b
  .exact c _ H (Ne.symm h.hne)
  .have:=h.nm.row.lt i b;exact c i this.2 I
  .have:=h.nm.plt i b;exact c i this.2 I),(g 4).trans h.c4,I,h.hP,h.hbs,h.hBC,h.hne⟩
structure DX(w wr:JY)(R C e:Nat)(b:Jp)(T:Nat->Jf)(f:Nat->Nat)(a:ByteArray->Option Value)(i:Nat)(U:JC)(c:Jf)(kv:Value)(pv:Option Nat)(d:ByteArray->Option Value):Prop where
 qs:CQ wr R 0 R kv pv c
 sc:Be wr C e b T d
 gr:w.grownBy wr (E e)
 dj:Dj b d R kv pv
 hi:∀j,j<Z b->f i<=f j->d (Ae b j).n=a (Ae b j).n
 ol:∀j,j<Z b->∀x,d (Ae b j).n=E (b9 #[x])->a (Ae b j).n=E (b9 #[x])\/∀g,x.ownBlock=E g->O w.1<g
 ps:∀j,j<Z b->∀x,a (Ae b j).n=E x->d (Ae b j).n=E x
 rb:wr.cell? (J (O w.1) 0)=E Jl/\wr.frozen? (J (O w.1) 0)=Vt
 su:∀o∈c,o∈Z4 U
 nd:c.Nodup
 hR:O w.1<R
 hb:e<O w.1
def DX.dj'{w6:JY}{j:Nat}(h:DX w wr R C bs ms T rk a i U acc kv pv G')(f:∀j,j<Z ms->∀x,G'' (Ae ms j).n=E (b9 #[x])->G' (Ae ms j).n=E (b9 #[x])\/∀g,x.ownBlock=E g->O wr.1<=g):Dj ms G'' R kv pv:=λj d v k g e=>by
 rcases f j d v k with c|c
 .exact h.dj j d v c g e
 .have hg:=c g e;refine⟨?_,λb=>?_,λb=>?_⟩
  .have:=h.qs.lt;omega
  .have:=(h.qs.row.lt g b).2;omega
  .have:=(h.qs.plt g b).2;omega
theorem DX.q6{d:JY}(h:DX w wr R C bs ms T rk a i U acc kv pv G')(c:wr.grownBy d (E bs)):CQ d R 0 R kv pv acc:=by
 have f:=h.hR;have g:=h.hb;refine h.qs.same (λq b=>?_);rcases b with rfl|b|b
 .exact c.block _ h.qs.lt (λe=>by grind)
 .have:=h.qs.row.lt q b;exact c.block q this.2 (λe=>by grind)
 .have:=h.qs.plt q b;exact c.block q this.2 (λe=>by grind)
theorem DX.step{w wr L w7 R C bs k}{T:Nat->Jf}{A:Nat->Nat}{b:ByteArray->Option Value}{i j U m P V}{M l:ByteArray->Option Value}(h:DX w wr R C bs k T A b i U m P V M)(hj:A j<A i)(h3:Be L C bs k T l)(z:wr.grownBy L (E bs))(h5:∀q,q<Z k->A j<A q->l (Ae k q).n=M (Ae k q).n)(h6:∀q,q<Z k->∀x,l (Ae k q).n=E (b9 #[x])->M (Ae k q).n=E (b9 #[x])\/∀g,x.ownBlock=E g->O wr.1<=g)(X:∀q,q<Z k->∀x,M (Ae k q).n=E x->l (Ae k q).n=E x)(hT:∀o∈T j,o∈Z4 U)(hp:Zc L R 0 R P V (zj m (T j)) w7):∃p u,DX w w7 R C bs k T A b i U (zj m (T j)) p u l:=by
 obtain⟨p,u,q7,n,k7,p7⟩:=hp;have N:=h.hR;have hb:=h.hb;have c:=h.qs.lt;have y:=z.size;have d:=h.gr.size;have hd:=h.dj' (w6:=L) (j:=j) h6;have s:∀q,q<R->P.ownBlock≠E q:=λq f e=>Jy ((h.qs.row.lt q e).1)
 have t:∀q,q<R->V≠E q:=λq f e=>Jy ((h.qs.plt q e).1)
 refine⟨p,u,q7,h3.eff hd n I I (s bs I) (t bs I),?_,?_,?_,?_,λq f x hx=>X q f x (h.ps q f x hx),?_,?_,GI _ _ h.nd,N,hb⟩
 .exact⟨n.os.trans (z.os.trans h.gr.os),n.tape.trans (z.tape.trans h.gr.tape),n.output.trans (z.output.trans h.gr.output),Jy n.size,λq f K=>(n.blk q I I (s q I) (t q I)).trans ((z.block q I K).trans (h.gr.block q f K))⟩
 .intro q f v hv;obtain⟨v',e1,_,Q⟩:=h3.at' q f _ hv;have e2:v=v':=by grind
  subst e2;exact G4.step (hd q f v hv) (λg e=>(Q g e).2) k7 p7
 .exact λq f hr=>(h5 q f I).trans (h.hi q f hr)
 .intro q f x hx;rcases h6 q f x hx with h1|h1
  .exact h.ol q f x h1
  .grind
 .have H:w7.heap[O w.1]?=wr.heap[O w.1]?:=(n.blk (O w.1) I I (s _ N) (t _ N)).trans (z.block _ I (λe=>by grind));exact⟨(yv (w:=wr) (w':=w7) (a:=J (O w.1) 0) H).trans h.rb.1,(yG (w:=wr) (w':=w7) (a:=J (O w.1) 0) H).trans h.rb.2⟩
 .intro o B;rcases(Ze _ _).1 B with B|B
  .exact h.su o B
  .exact hT o B
def DX.len(h:DX w wr R C bs ms T rk a i U acc kv pv G')(b:Z (Z4 U)<=400000):Z acc<=400000:=
 yy (FE acc _ h.nd h.su) b
theorem Be.set(h:Be w C bs ms T a)(f:bs≠X)(i:∀j,j<Z ms->∀v,a (Ae ms j).n=E (b9 #[v])->v.ownBlock≠E X)(V:Value):Be (w.setCell (J X 0) V) C bs ms T a:=by
 have l:O (w.setCell (J X 0) V).1=O w.1:=Jt;have c:∀g,g≠X->(w.setCell (J X 0) V).heap[g]?=w.heap[g]?:=λg k=>jh _ _ _ _ (by grind)
 refine⟨?_,λj b x hx=>?_,h.apt⟩
 .obtain⟨m,M,hm,hM⟩:=h.mp;exact⟨m,M,hm.same (c bs f),hM⟩
 .obtain⟨v,rfl,hv,hb⟩:=h.at' j b x hx;exact⟨v,F,JI hv (λg e=>c g (λd=>i j b v hx (by rw[e,d]))),λg e=>⟨(hb g e).1,by grind⟩⟩
theorem DX.fin(hN:Dp ms ks)(h:DX w wr R C bs ms T rk a i U (T i) kv pv G')(hi:i<Z ms)(hn:Z ms<=100)(hg:a (Ae ms i).n=JL)(hG:Be w C bs ms T a)(n:bs<C)(hC:C<=O w.1):∃w9,(Instr.mapUpdate 103 (.map (E bs)) (W (Ae ms i).n) (b9 #[kv])).run Vb (wr.alloc (JM #[kv] 45)).drew=.ok () w9/\w9.cell? (J (O w.1) 0)=E Jl/\w9.frozen? (J (O w.1) 0)=Vt/\w9.cell? (J (O wr.1) 0)=E kv/\O w.1<O wr.1 /\
   aI w C bs ms T rk a i (i9 (b9 #[kv])) (w9.setCell (J (O w.1) 0) kv):=by
 have hR:=h.hR;have hb:=h.hb;have L:=h.qs.lt;have l:=h.gr.size;have ha:O w.1<O wr.1:=I;have u:(Ae ms i).n.size<=maxLen:=hN.sz _ (yE (hN.at' i hi));obtain⟨W8,Q⟩:=Jx ((wr.alloc (JM #[kv] 45)).drew);have H:Qb wr W8:=by rw[Q];exact(zC).drew
 have s:O W8.1=O wr.1+1:=by rw[Q];simp
 have k8:W8.cell? (J (O wr.1) 0)=E kv:=by rw[Q];show(wr.alloc (JM #[kv] 45)).cell? (J (O wr.1) 0)=E kv;simp[go_sem]
 rw[<-Q];have V:=h.sc.y H;obtain⟨m,hm,N⟩:=V.cnt;obtain⟨w9,P,_,K⟩:=hm.update (ty:=103) underlying103 Jm (t:=(Ae ms i).n) u (b9 #[kv]);have o:=K.size;have d:G' (Ae ms i).n=none:=(h.hi i hi yk).trans hg;have c:∀g,kv.ownBlock=E g->R<=g/\g<O wr.1:=h.qs.row.lt;have z:=Be.put (v:=kv) hN V hi d n ((h.qs.row.base I).y H) (λj hj v' y g e e2=>(h.dj j hj v' y g e2).2.1 e) (λg e=>Jy (c g e)) K (λm' k M=>by
  obtain⟨w9',B,h1,_⟩:=k.update (ty:=103) underlying103 Jm (t:=(Ae ms i).n) u (b9 #[kv])
  grind)
 have c9:=λ(b:Nat)(hb:b<O W8.1)(X:b≠bs)(q:Nat)=>K.cell hb X q
 have c8:=λq=>H.cell (p:=J (O w.1) q) ha
 have dat:∀{hc b:JZ},hc.data=b.data->hc=b:=fun{hc b} e=>by cases hc;cases b;simp at e;rw[e]
 refine⟨w9,P,(c9 _ I I 0).trans ((c8 0).trans h.rb.1),(K.frozen I I 0).trans ((H.frozen (p:=J (O w.1) 0) ha).trans h.rb.2),(c9 _ I I 0).trans k8,ha,?_⟩;refine⟨kv,_,F,?_,z.set I ?_ kv,?_,?_,?_,?_⟩
 .grind
 .intro j hj v hv e;have y:(if(Ae ms j).n.data=(Ae ms i).n.data then E (b9 #[kv]) else G' (Ae ms j).n)=E (b9 #[v]):=hv;by_cases e1:(Ae ms j).n.data=(Ae ms i).n.data
  .grind
  .rw[yS e1]at y;rcases h.ol j hj v y with h1|h1
   .obtain⟨v',e3,_,f⟩:=hG.at' j hj _ h1;grind
   .grind
 .refine⟨K.os.trans (H.os.trans h.gr.os),K.tape.trans (H.tape.trans h.gr.tape),K.output.trans (H.output.trans h.gr.output),by simp[World.setCell];omega,λq hq X=>?_⟩;rw[jh _ _ _ _ (by simp;omega)];exact(K.block q I (λe=>X (by rw[e]))).trans ((H.block q I).trans (h.gr.block q hq X))
 .intro j hj x hx;show(if(Ae ms j).n.data=(Ae ms i).n.data then E (b9 #[kv]) else G' (Ae ms j).n)=_;rw[yS (λe=>by grind)];exact h.ps j hj x hx
 .intro j hj hr;show(if(Ae ms j).n.data=(Ae ms i).n.data then E (b9 #[kv]) else G' (Ae ms j).n)=_;rw[yS (λe=>by have:=hN.inj hj hi (dat e);subst this;omega)];exact h.hi j hj I
 .intro j hj x hx;have A:(if(Ae ms j).n.data=(Ae ms i).n.data then E (b9 #[kv]) else G' (Ae ms j).n)=E (b9 #[x]):=hx;by_cases e1:(Ae ms j).n.data=(Ae ms i).n.data
  .grind
  .rw[yS e1]at A;rcases h.ol j hj x A with h1|h1;all_goals grind
theorem DX.start{b d:JY}{m:Jf}{t:TypeId}(f:Be w C bs ms T a)(y:Qb w b)(k:O w.1<O b.1)(K:b.cell? (J (O w.1) 0)=E Jl/\b.frozen? (J (O w.1) 0)=Vt)(M:∀o∈m,o∈Z4 U)(z:Zc (b.alloc (JM #[Jl,.map JL] t)) (O b.1) 0 (O b.1) Jl JL (zj [] m) d):∃kv pv,DX w d (O b.1) C bs ms T rk a i U (zj [] m) kv pv a/\Qb w d:=by
 obtain⟨l,n,s,u,N,P⟩:=z;have Q:=f.lt;have H:Qb b d:=(zC).trans (u.y (B:=O b.1) Js yk (λg e=>by simp[i8]at e) (λg e=>by simp at e));have h:Qb w d:=y.trans (H.mono I);refine⟨l,n,⟨s,f.y h,zH h _,?_,λ_ _ _=>F,λ_ _ x hx=>yW hx,λ_ _ x hx=>hx,⟨Jc H k K.1,(H.frozen (p:=J (O w.1) 0) k).trans K.2⟩,?_,GI _ _ Js,k,Q⟩,h⟩
 .intro j hj v hv g e;obtain⟨A,L,_,q⟩:=f.at' j hj _ hv;have c:v=A:=by grind
  subst c;have:=(q g e).2;exact⟨I,λc=>Jy ((s.row.lt g c).1),λc=>Jy ((s.plt g c).1)⟩
 .grind [Ze]
def pU(b)(h:500<Z acc):CG nm T acc b=acc:=by
 cases b with
 |nil=>rfl
 |cons u a=>simp only[CG];rw[yU h]
def xT{q}(a:us[q]?=E u)(h:¬ 500<Z acc):CG nm T acc (us.drop q)=CG nm T (zj acc (T (nm u))) (us.drop (q+1)):=by
 have b:=(jf.1 a).1;have e:us.drop q=u::us.drop (q+1):=by rw[List.drop_eq_getElem_cons b];congr 1;rw[yt b]at a;injection a
 rw[e];simp only[CG];rw[yS h]
def UP(P f m n c a t)(b:ByteArray->Option Value)(w)(x:P<O w.1)(j:w.cell? (J P 4)=E (.map (E f)))(g:AI w f m b)(i:b t=E (b9 #[.slice a n c]))(q:t.size<=maxLen):Calls Vb 65 #[Qp P,W t] w λe w'=>e=i9 (b9 #[.slice a n c])/\Qb w w':=by
 obtain⟨d,K⟩:=Jx (w.alloc (JM #[Jl] 45));have Q:Qb w d:=by rw[K];exact zC
 have h:=(g.same (Q.block f g.lt)).look (ty:=103) underlying103 (cA d) q;rw[i]at h;have H:(Instr.lookup 103 (.map (E f)) (W t) Vp).run Vb d=.ok (i5 #[b9 #[.slice a n c],i7 Vp]) d:=h;rw[K]at H;go_enter func65,ntmps65;go_wp2_with fail;refine yQ (v:=b9 #[.slice a n c]) ?res F ⟨F,(zC).alloc Js _⟩;case res=>simp[results,results65,go_sem]
def UQ(B C P bs am cm ms v1 vs U kv pv ks)(T:Nat->Jf)(rk:Nat->Nat)(hn:Z ms<=100)(hN:Dp ms ks)(hR:GB (Z ms) (An ms) U rk)(hT:DV (Z ms) (An ms) U T)(hA:Z (Z4 U)<=400000)(hF:∀o∈Z4 U,Db o)(hK:∀i,i<Z ms->(Ah U i).us.length<=20001):∀(qh i:Nat),i<Z ms->rk i<qh->∀(w:JY)(a:ByteArray->Option Value),Eg w B C P bs am cm ms v1 vs U kv pv ks->Be w C bs ms T a ->
  Calls Vb 65 #[Qp P,W (Ae ms i).n] w (aI w C bs ms T rk a i):=by
 intro qh;induction qh with
 |zero=>intro i _ h;omega
 |succ qh ih=>
  intro i hi H3 w a hH hG;have h4:=hH.pg.lt;have c4:=hH.c4;have N:=hN.sz _ (yE (hN.at' i hi));obtain⟨m,hm,Hw⟩:=hG.cnt;obtain⟨W1,qe⟩:=Jx (w.alloc (JM #[Jl] 45));have qb:Below (O w.1) w W1:=by rw[qe];exact zC
  have Hk:O W1.1=O w.1+1:=by rw[qe];simp
  have d4:=Jc qb h4 c4;have V:=(hm.same (qb.block bs hm.lt)).look (ty:=103) underlying103 (cA W1) N;have r1:W1.cell? (J (O w.1) 0)=E Jl:=by rw[qe];simp[go_sem]
  have r2:W1.frozen? (J (O w.1) 0)=Vt:=by rw[qe];simp[go_sem]
  have Ht:=S qe;have H2:=S qb;obtain⟨t,ht⟩:=Jx ((Ae ms i).n);have h5:=S ht;rw[<-ht]at V N;cases hgt:a t with
  |some x=>obtain⟨v,rfl,hv,Hs⟩:=hG.at' i hi x (by rw[<-ht];exact hgt);obtain⟨qg,c,rfl,_⟩:=id hv.ops;rw[<-ht];go_call UP P bs m _ c qg t a w h4 c4 hm hgt N as e w' ⟨rfl,hb⟩;exact⟨_,a,F,by rw[<-ht];exact hgt,hG.y hb,zH hb _,λ_ _ _ h=>h,λ_ _ _=>F,λ_ _ _ h=>yW h⟩
  |none=>
   rw[hgt]at V;have hs:(Instr.lookup 103 (.map (E bs)) (W t) Vp).run Vb W1=.ok (i5 #[b9 #[Jl],i7 Vt]) W1:=V;rw[qe]at hs;have hB:a (Ae ms i).n=none:=by rw[<-ht];exact hgt
   obtain⟨W2,b⟩:=Jx ((w.alloc (JM #[Jl] 45)).alloc (JM #[Jl] 45));have hO:Below (O w.1) w W2:=by rw[b];exact(zC).alloc Js _
   have Hy:O W2.1=O w.1+2:=by rw[b];simp
   have s1:W2.cell? (J (O w.1) 0)=E Jl:=by rw[b];simp[go_sem]
   have s2:W2.frozen? (J (O w.1) 0)=Vt:=by rw[b];simp[go_sem]
   have qd:=hH.keep (zH hO (E bs));have hP:i<Z vs:=Jy hH.pg.ln
   have HU:=S (U9 P B C am cm (Z ms) v1 vs U kv pv ks t i W2 qd.pg hi qd.nm N (by rw[ht];exact hN.idx hi));obtain⟨⟨Hd,z,He⟩,hV,qc⟩:=qd.pg.uns.2 i hP;obtain⟨us,d⟩:=Jx ((Ah U i).us);obtain⟨os,f⟩:=Jx ((Ah U i).os);obtain⟨au,cu,s,Hc⟩:=Hd;obtain⟨ao,co,qf,Hh⟩:=id z;rw[s,qf]at HU;rw[qf]at z qc;rw[<-d]at HU s;rw[<-f]at HU z qc qf;have hC:=hH.hC;have H0:=hH.hBC;have Hq:=hH.hbs;have hM:Hid (∀o∈os,o∈Z4 U):=λo ho=>List.mem_flatMap.2 ⟨_,NU (i:=i) (Jy hH.pg.uns.1),by rw[<-f];exact ho⟩
   have Hp:Z os<=400000:=by
    have h1:∀(l:JC)(u:GC),u∈l->Z u.os<=Z (Z4 l):=by
     intro l;induction l with
     |nil=>intro u h;cases h
     |cons x qh ih=>
      intro u h;show _<=Z (x.os++Z4 qh);rw[yr];rcases jH.1 h with rfl|h
      .omega
      .have:=ih u h;omega
    have:=h1 U _ (NU (i:=i) (Jy hH.pg.uns.1));rw[<-f]at this;omega
   obtain⟨bd,hJ⟩:=Jx ((AX vs i).b);rw[<-hJ]at HU;have he:=S (λ(w3:JY)(X:Below (O W2.1) W2 w3)=>show Calls Vb 118 #[Qp (O w3.1+1),i6 ao (Z os) co] ((w3.alloc (JM #[.slice au (Z us) cu,i6 ao (Z os) co,W bd] 65)).alloc (JM #[Jl,.map JL] 185)) (λe w'=>e=i9 (i5 #[])/\∃kv0 pv0,DX w w' (O w3.1+1) C bs ms T rk a i U (zj [] os) kv0 pv0 a/\w'.cell? (J (O w3.1) 0)=E (i6 au (Z us) cu)) from(by
    have hX:=X.size
    obtain⟨W3,M⟩:=Jx (w3.alloc (JM #[.slice au (Z us) cu,i6 ao (Z os) co,W bd] 65))
    have Hi:O W3.1=O w3.1+1:=by rw[M];simp
    have R:Below (O w3.1) w3 W3:=by rw[M];exact zC
    have ku:W3.cell? (J (O w3.1) 0)=E (i6 au (Z us) cu):=by rw[M];simp[go_sem]
    rw[<-M,<-Hi]
    have Hf:=(hO.trans (X.mono I)).trans (R.mono I)
    go_call UN (O W3.1) 0 (O W3.1) _ JL [] (i6 ao (Z os) co) os (W3.alloc (JM #[Jl,.map JL] 185)) (CQ.new W3 _ _) (λx hx=>hF x (hM x hx)) Jq Js (((z.y X).y R).y zC) (λg e=>⟨Jy (qc g e),Jb,Js⟩) as e w5 ⟨rfl,hp⟩
    have Hm:=(Jc X (I:O w.1<O W2.1) s1)
    have Hb:=((X.frozen (p:=J (O w.1) 0) (I:O w.1<O W2.1)).trans s2)
    have hY:=hp
    obtain⟨kv0,pv0,hI,_⟩:=DX.start (U:=U) (rk:=rk) (i:=i) hG Hf I ⟨Jc R (I:O w.1<O w3.1) Hm,(R.frozen (p:=J (O w.1) 0) (I:O w.1<O w3.1)).trans Hb⟩ hM hp
    obtain⟨_,_,_,e7,_,_⟩:=hY
    refine⟨F,kv0,pv0,hI,?_⟩
    have Hl:=(zC).trans (e7.y (B:=O W3.1) Js yk (λg e=>by simp[i8]at e) (λg e=>by simp at e))
    exact Jc Hl (I:O w3.1<O W3.1) ku))
   have h7:=S (λ(wr:JY)(A:Eg wr B C P bs am cm ms v1 vs U kv pv ks)=>show ZM wr (i6 au (Z us) cu) us from(by
    have:=(A.pg.uns.2 i hP).1.1
    rw[s,<-d]at this
    exact this))
   have Hg:=S b;have HH:=S hH;have HG:=S hG;have h8:=S hB;have hZ:=S ih;have Hn:Hid (∀u∈us,An ms u<Z ms/\rk (An ms u)<rk i):=λu hu=>hR.1 i hi u (by rw[<-d];exact hu)
   have hh:=S (λj (hj:j<Z ms)=>hT.sub hR (by have:=hH.pg.uns.1;have:=hH.pg.ln;omega) (rk j+1) j hj I);have Hj:=S (λj (hj:j<Z ms)=>hT.nd hj);have ha:=S (by rw[hT i hi,f,d];rfl:CG (An ms) T (zj [] os) (us.drop 0)=T i);have HF:=S hF;have H1:=hH.hne;have Ho:Z us<=20001:=by rw[d];exact hK i hi
   rw[<-ht];clear V hm hG hH ih hgt ht qe qb hR hT hF hK d4 r1 r2 Hk hB b qd s qf Hc Hh d f hJ He hV z qc;go_enter func65,ntmps65;go_wp2_with (first|(go_at_call 117;rw[<-D Hg];(with_reducible refine(D HU).mono ?_);rintro e w3 ⟨rfl,X⟩;have hz:=S (he w3 X);have hX:O w.1+2<=O w3.1:=(Jy X.size);clear X HU he)|(go_at_call 118;(with_reducible refine(D hz).mono ?_);rintro e w5 ⟨rfl,kv0,pv0,hI5,ku5⟩;have h0:=S hI5;clear hI5 hz));go_loopw [32] (λx wr=>∃(q:Nat)(acc:Jf)(kv':Value)(pv':Option Nat)(G':ByteArray->Option Value),q<=Z us/\x=G q/\Hid (DX w wr (O w3.1+1) C bs ms T rk a i U acc kv' pv' G')/\Hid (CG (An ms) T acc (us.drop q)=T i)) (λx _=>Z us-(intOf x).toNat);case atStart=>exact⟨0,_,kv0,pv0,a,yn,F,h0,ha⟩
   case round=>
    clear h0 ha ku5;obtain⟨q,acc,kv',pv',G',hq,rfl,HI,L⟩:=hrel;obtain⟨ak,ck,rfl⟩:∃qg c,kv'=i6 qg (Z acc) c:=zS HI.qs.row;have Hz:=HI.len hA;by_cases hW:q<Z us
    .have h3:(q:Int)<Z us:=I;have q0:=HI.qs.c0;obtain⟨u,hu⟩:∃u,us[q]?=E u:=⟨_,yt hW⟩;have A:=HH.keep HI.gr;obtain⟨gu,cu',hr,Hx,hl⟩:=((h7) wr A).lt I;obtain⟨rfl,rfl⟩:au=E (J gu 0)/\cu=cu':=by injection hr with x _ y;exact⟨x,y⟩
     have hc:=hl q u hu;by_cases hd:500<Z acc
     .have hw:(500:Int)<Z acc:=I;obtain rfl:acc=T i:=by have:=D L;rwa[pU _ hd]at this
      clear hr hl A hu;obtain⟨w9,K,x0,x1,x2,x3,Q⟩:=HI.fin hN hi hn h8 HG I hC;rw[<-D h5]at K;have qa:=S Q;have e4:=(HH.keep HI.gr).c4;have hy:P<O wr.1:=I;obtain⟨W8,H⟩:=Jx (wr.alloc (JM #[.slice ak (Z (T i)) ck] 45));have y4:W8.cell? (J P 4)=E (.map (E bs)):=by rw[H];exact Jc (@zC wr _) hy e4
      have y0:W8.cell? (J (O wr.1) 0)=E (i6 ak (Z (T i)) ck):=by rw[H];simp[go_sem]
      rw[<-H]at K;have hg:=S H;clear H Q;go_wp2_with fail;rw[<-D hg];go_region;go_wp2_with fail;refine yQ (v:=b9 #[.slice ak (Z (T i)) ck]) ?res F qa;case res=>simp[results,results65,go_sem,x0]
     .have hw:¬ (500:Int)<Z acc:=I;obtain⟨hj,hD⟩:=(D Hn) u (yE hu);obtain⟨j,k⟩:=Jx (An ms u);rw[<-k]at hj hD;have hk:(Ae ms j).n=u:=by rw[k];exact(FC ms u).1 (by rw[<-k];exact hj)
      have HX:=S (hZ j hj I wr G' A HI.sc);rw[hk]at HX;have Ha:=S (by rw[k,<-xT hu hd];exact D L:CG (An ms) T (zj acc (T j)) (us.drop (q+1))=T i);have Hv:=S hk;have Hu:=HI.qs.lt;have Hr:Z (T j)<=1048576-Z acc:=by have h1:=(D hh) j hj;have h2:=FE (T j) (Z4 U) (Hj j hj) h1;omega
      clear hr hl A hu hk k L;go_wp2_with (first|(go_at_call 65;(with_reducible refine(D HX).mono ?_);rintro e w6 ⟨v,G'',rfl,g1,g2,g3,gp,g4,g5⟩;obtain⟨v',hQ,hf,_⟩:=g2.at' j hj _ g1;have h6:=hf.ops;clear hf;obtain rfl:v=v':=(Ju hQ);have hE:G4 v (O w3.1+1) (i6 ak (Z acc) ck) pv':=(HI.dj' (w6:=w6) (j:=j) g5) j hj v g1;have n:=S (UN (O w3.1+1) 0 (O w3.1+1) _ pv' acc v (T j) w6 (HI.q6 g3) (λx hx=>HF x (hh j hj x hx)) I (Jy g3.size) h6 hE);have hS:=S (λw7 hp=>HI.step (w7:=w7) hD g2 g3 g4 g5 gp (hh j hj) hp);obtain⟨a6,c6,rfl,_⟩:=h6;clear g1 g2 g3 g4 g5 gp hQ hE HX));rw[pT];go_wp2_with (first|(go_at_call 118;(with_reducible refine(D n).mono ?_);rintro e w7 ⟨rfl,hp7⟩;obtain⟨kv7,pv7,h9⟩:=(D hS) w7 hp7;have hU:=S h9;clear h9 hp7 n hS));exact⟨⟨q+1,_,kv7,pv7,G'',I,Jn,hU,Ha⟩,Ji⟩
    .have h3:¬ (q:Int)<Z us:=I;obtain rfl:acc=T i:=by have:=D L;rwa[List.drop_eq_nil_of_le I]at this
     have q0:=HI.qs.c0;obtain⟨w9,K,x0,x1,x2,x3,Q⟩:=HI.fin hN hi hn h8 HG I hC;rw[<-D h5]at K;have qa:=S Q;have e4:=(HH.keep HI.gr).c4;have hy:P<O wr.1:=I;obtain⟨W8,H⟩:=Jx (wr.alloc (JM #[.slice ak (Z (T i)) ck] 45));have y4:W8.cell? (J P 4)=E (.map (E bs)):=by rw[H];exact Jc (@zC wr _) hy e4
     have y0:W8.cell? (J (O wr.1) 0)=E (i6 ak (Z (T i)) ck):=by rw[H];simp[go_sem]
     rw[<-H]at K;have hg:=S H;clear H Q;go_wp2_with fail;rw[<-D hg];go_region;go_wp2_with fail;refine yQ (v:=b9 #[.slice ak (Z (T i)) ck]) ?res F qa;case res=>simp[results,results65,go_sem,x0]
def za7(w:JY)(C a:Nat)(c:Jp)(T:Nat->Jf)(i:Nat)(e)(b:JY):=
 Bj e (zM (T i) 0)/\w.grownBy b (E a)/\∃G',Be b C a c T G'
def gI(B C P z am cm l v1 vs U kv pv ks)(T:Nat->Jf)(M:Nat->Nat)(hn:Z l<=100)(hN:Dp l ks)(hR:GB (Z l) (An l) U M)(hT:DV (Z l) (An l) U T)(hA:Z (Z4 U)<=400000)(hF:∀o∈Z4 U,Db o)(k:∀i,i<Z l->(Ah U i).us.length<=20001)(i)(t:i<Z l)(w)(f:ByteArray->Option Value)(hM:Cj w am l)(L:Eg w B C P z am cm l v1 vs U kv pv ks)(hG:Be w C z l T f):Calls Vb 108 #[Qp P,G i] w (za7 w C z l T i):=by
 have c0:=L.pg.c0;have A:(i:Int)<Z l:=I;rcases hM with hM|⟨bA,b,rfl,X,d⟩
 .omega
 obtain⟨m0,m1⟩:=X i t;have HX:=S (UQ B C P z _ cm l v1 vs U kv pv ks T M hn hN hR hT hA hF k (M i+1) i t I w f L hG);have K:=hT.sub hR (by have:=L.pg.uns.1;have:=L.pg.ln;omega) (M i+1) i t I;have u:=S (show(Z (T i))<=1048576 from(Jy (FE (T i) (Z4 U) (hT.nd t) K)));have V:Hid (ZO (T i)):=λq R=>(hF _ (K _ (PS R))).1
 go_enter func108,ntmps108;go_wp2_with (first|(go_at_call 65;(with_reducible refine(D HX).mono ?_);rintro e w6 ⟨v,G',rfl,g1,N,g3,gp,g4,g5⟩;obtain⟨v',Q,H,_⟩:=N.at' i t _ g1;obtain rfl:v=v':=(Ju Q);have x:=H.ops;clear H;have y:=S (U8 v (T i) w6 u x V);have j:=S N;have a:=S g3;clear g1 N g3 g4 g5 gp x Q HX)|(go_at_call 122;(with_reducible refine(D y).mono ?_);rintro e w7 ⟨⟨c,rfl,hc⟩,s⟩;have HC:=S hc;have p:=S s;clear hc s y));go_ret;have n:=D a;have m:=D p;have hz:=n.size;refine⟨⟨c==0,F,?_⟩,⟨m.os.trans n.os,m.tape.trans n.tape,m.output.trans n.output,yy hz m.size,λq R g=>(m.block q I).trans (n.block q R g)⟩,G',j.y m⟩;unfold DO;constructor
 .intro h;have e:c=0:=Ju h
  rw[<-e];exact HC
 .intro h;have e:=Z3 HC h;simp[e]
def Ex(a U k):=Z U=k/\∀i,i<k->∃us,ZC (Ae a i).t us (Ah U i).os (Ah U i).b 0 0/\(Ah U i).us=BR us
theorem Ex.step{k b}(h:Ex ms U k)(e:ZC (Ae ms k).t us os b 0 0):Ex ms (U++[⟨BR us,os,b⟩]) (k+1):=by obtain⟨a,c⟩:=h;refine⟨by simp[a],λi d=>?_⟩;grind [Sd,RZ]
theorem Ex.small{U}(h:Ex ms U (Z ms))(t:Z ms<=100):Z (Z4 U)<=400000/\(∀o∈Z4 U,Db o)/\∀i,i<Z ms->(Ah U i).us.length<=20001/\∀u∈(Ah U i).us,u.size<=maxLen:=by
 obtain⟨m,g⟩:=h;refine⟨?_,?_,?_⟩
 .grind [Rq,PT,Lu]
 .intro o ho;obtain⟨u,f,H⟩:=List.mem_flatMap.1 ho;obtain⟨i,l,e⟩:=PT f;obtain⟨us,j,_⟩:=g i I;obtain⟨a,b,c,d⟩:=Rr j o (by grind);have k:∀x:Int,0<=x->x<1000000->(Lit.int .i64 x).wf=Vp:=λx m g=>by show(decide (IntKind.i64.min<=x)&&decide (x<=IntKind.i64.max))=Vp;have q:IntKind.i64.min = -9223372036854775808:=Jd;have s:IntKind.i64.max=9223372036854775807:=Jd;grind
  exact⟨Jm,k _ I I,k _ I I,k _ I I⟩
 .intro i l;obtain⟨us,j,n⟩:=g i l;obtain⟨a,b⟩:=Nz j;have p:=RN us [];simp at p;rw[n];refine⟨by grind [BR],λu f=>?_⟩;rcases(Ig us []).1 f with f|f
  .cases f
  .have:=b u f;unfold maxLen;omega
structure IM(a:Jp)(ks:Jv)(k:Nat):Prop where
 ln:Z ks=k
 at':∀i,i<k->ks[i]?=E (Ae a i).n
 nd:ks.Nodup
 sz:∀x∈ks,x.size<=maxLen
def IM.all(h:IM ms ks (Z ms)):Dp ms ks:=⟨h.ln,h.at',h.nd,h.sz⟩
def IM.b3{k}(h:IM ms ks k):(Ae ms k).n ∉ ks↔¬ B3 ms k:=by
 constructor
 .rintro h1 ⟨j,a,e⟩;exact h1 (by rw[<-e];exact yE (h.at' j a))
 .intro h1 h2;obtain⟨j,a,e⟩:=List.getElem_of_mem h2;have b:=h.ln;have:=h.at' j I;rw[yt a,e]at this;injection this with this;exact h1 ⟨j,I,this.symm⟩
theorem IM.step{k}(h:IM ms ks k)(g:(Ae ms k).n ∉ ks)(j:(Ae ms k).n.size<=maxLen):IM ms (ks++[(Ae ms k).n]) (k+1):=by
 refine⟨by simp[h.ln],λi f=>?_,?_,λx hx=>?_⟩
 .by_cases e:i<k
  .rw[yH (by rw[h.ln];exact e)];exact h.at' i e
  .have e1:i=k:=I;subst e1;rw[<-h.ln,List.getElem?_concat_length,h.ln]
 .rw[List.nodup_append];exact⟨h.nd,Js,λa c b d e=>by grind⟩
 .rcases ju.1 hx with hx|hx
  .exact h.sz x hx
  .grind
structure Cn(b a:JY)(X:Nat)(c:Obj)(wr:JY):Prop where
 box:wr.heap[X]?=E c
 hX:O b.1+2<=X
 bel:Qb b wr
 row:wr.heap[O b.1+2]?=a.heap[O b.1+2]?
 siz:O b.1+3<=O wr.1
 c5:wr.cell? (J (O b.1+1) 5)=E Jl/\wr.frozen? (J (O b.1+1) 5)=Vt
def KX(b wr:JY)(X:Nat)(d)(e:Nat)(a:Jp)(U:JC)(c:Jv)(C:Nat)(k:Nat):=
 ∃v1 vs kv pv,kv.ownBlock≠E X/\pv≠E X/\Ex a U (Z a)/\(∀i,i<Z a->¬ B2 a i)/\IM a c k/\Eg wr (O b.1+3) C (O b.1+1) (O b.1) d e a v1 vs U kv pv c
def St(d b:JY)(X:Nat)(g:Obj)(e:Option Addr)(f:Nat)(c:Jp):Nat->Nat->World->Prop
 |0,k,wr=>Cn d b X g wr/\(∀i,i<k->¬ B2 c i)/\∃v1 vs U,Z vs=k/\EN wr (O d.1+3) (O d.1+1) (O d.1) e f (Z c) v1 vs U/\Ex c U k/\v1.ownBlock≠E X
 |1,k,wr=>Cn d b X g wr/\(∀i,i<k->¬ B3 c i)/\∃U ks C,KX d wr X e f c U ks C k/\AI wr (O d.1) 0 (λ_=>JL)
 |2,k,wr=>Cn d b X g wr/\(∀i,i<Z c->¬ B3 c i)/\∃U ks C,KX d wr X e f c U ks C (Z c)/\AI wr (O d.1) 0 (λ_=>JL)/\∀i,i<k->¬ B4 c U i
 |3,k,wr=>Cn d b X g wr/\(∀i,i<Z c->¬ B3 c i)/\∃U ks C,KX d wr X e f c U ks C (Z c)/\AI wr (O d.1) 0 (λ_=>JL)/\(∀i,i<Z c->¬ B4 c U i)/\∀i,i<k->¬ TC (B9 c U) i i
 |_,k,wr=>Cn d b X g wr/\(∀i,i<Z c->¬ B3 c i)/\∃U ks C T rk a,KX d wr X e f c U ks C (Z c)/\(∀i,i<Z c->¬ B4 c U i)/\(∀i,i<Z c->¬ TC (B9 c U) i i)/\GB (Z c) (An c) U rk/\DV (Z c) (An c) U T/\Be wr C (O d.1) c T a/\∀i,i<k->zM (T i) 0
def Fl(a:Jp):Nat->Nat->Prop
 |0,k=>(∀i,i<k->¬ B2 a i)/\B2 a k
 |1,k=>(∀i,i<Z a->¬ B2 a i)/\(∀i,i<k->¬ B3 a i)/\B3 a k
 |2,k=>(∀i,i<Z a->¬ B2 a i)/\(∀i,i<Z a->¬ B3 a i)/\∃U,Ex a U (Z a)/\(∀i,i<k->¬ B4 a U i)/\B4 a U k
 |3,k=>(∀i,i<Z a->¬ B2 a i)/\(∀i,i<Z a->¬ B3 a i)/\∃U,Ex a U (Z a)/\(∀i,i<Z a->¬ B4 a U i)/\(∀i,i<k->¬ TC (B9 a U) i i)/\TC (B9 a U) k k
 |_,k=>(∀i,i<Z a->¬ B2 a i)/\(∀i,i<Z a->¬ B3 a i)/\∃U T rk,Ex a U (Z a)/\(∀i,i<Z a->¬ B4 a U i)/\(∀i,i<Z a->¬ TC (B9 a U) i i)/\GB (Z a) (An a) U rk/\DV (Z a) (An a) U T/\(∀i,i<k->zM (T i) 0)/\¬ zM (T k) 0
def MQ(g a X d h i c s k e f):=
 ∃b,e=i9 (i7 b)/\(b=Vp->St g a X d h i c s (k+1) f)/\(b=Vt->Fl c s k/\Cn g a X d f)
def NN{k}{p:Nat->Prop}(h:∀i,i<k->p i)(a:p k):∀i,i<k+1->p i:=λi b=>by
 by_cases e:i=k
 .rw[e];exact a
 .exact h i I
theorem Cn.xl(h:Cn w0 c X ob wr):X<O wr.1:=by
 by_cases e:X<O wr.1
 .exact e
 .have:=h.box;grind
theorem Cn.kpp(h:Cn w0 c X ob wr)(j:∀g,v1.ownBlock=E g->O w0.1+3<=g)(i:v1.ownBlock≠E X)(a:QJ (O w0.1+1) v1 wr w'):Cn w0 c X ob w':=by
 have k:=h.siz;have H:=a.size;have f:=h.hX;have d:∀q,q<O w0.1+3->v1.ownBlock≠E q:=λq b e=>by grind
 exact⟨(a.blk X h.xl I i).trans h.box,f,⟨a.os.trans h.bel.os,a.tape.trans h.bel.tape,a.output.trans h.bel.output,I,λq b=>(a.blk q I I (d q I)).trans (h.bel.block q b)⟩,(a.blk _ I I (d _ I)).trans h.row,I,⟨(a.cel 5 Jd).1.trans h.c5.1,(a.cel 5 Jd).2.trans h.c5.2⟩⟩
def Cn.y(h:Cn w0 c X ob wr)(a:Qb wr w'):Cn w0 c X ob w':=by have b:=h.siz;have H:=a.size;exact⟨(a.block X h.xl).trans h.box,h.hX,h.bel.trans (a.mono I),(a.block _ I).trans h.row,I,⟨(a.cell (p:=(J (O w0.1+1) 5)) (show O w0.1+1<_ by omega)).trans h.c5.1,(a.frozen (p:=(J (O w0.1+1) 5)) (show O w0.1+1<_ by omega)).trans h.c5.2⟩⟩
theorem Cn.eff(h:Cn w0 c X ob wr)(j:O w0.1+3<=C)(a:Bz wr w' (O w0.1+1) 2 kv pv)(k:∀g,kv.ownBlock=E g->C<=g)(l:∀g,pv=E g->C<=g)(K:kv.ownBlock≠E X)(H:pv≠E X):Cn w0 c X ob w':=by
 have Q:=h.hX;have m:=h.siz;have x:=a.size;have b:∀q,q<O w0.1+3->q≠O w0.1+1->w'.heap[q]?=wr.heap[q]?:=λq i d=>a.blk q I d (λe=>by grind) (λe=>by grind)
 exact⟨(a.blk X h.xl I K H).trans h.box,Q,⟨a.os.trans h.bel.os,a.tape.trans h.bel.tape,a.output.trans h.bel.output,I,λq f=>(b q I I).trans (h.bel.block q f)⟩,(b _ I I).trans h.row,I,⟨(a.cel 5 Jd Jd).1.trans h.c5.1,(a.cel 5 Jd Jd).2.trans h.c5.2⟩⟩
theorem Cn.grown(h:Cn w0 c X ob wr)(a:wr.grownBy w' (E (O w0.1))):Cn w0 c X ob w':=by have d:=h.siz;have K:=a.size;have H:=h.hX;exact⟨(a.block X h.xl (λe=>by grind)).trans h.box,H,⟨a.os.trans h.bel.os,a.tape.trans h.bel.tape,a.output.trans h.bel.output,I,λq b=>(a.block q I (λe=>by grind)).trans (h.bel.block q b)⟩,(a.block _ I (λe=>by grind)).trans h.row,I,⟨(yv (w:=wr) (a.block (O w0.1+1) I (λe=>by grind))).trans h.c5.1,(yG (w:=wr) (a.block (O w0.1+1) I (λe=>by grind))).trans h.c5.2⟩⟩
structure F3(b:JY)(am:Option Addr)(a:Jp):Prop where
 hn:Z a<=100
 arg:Cj b am a
 sz:∀i,i<Z a->(Ae a i).n.size<=maxLen/\(Ae a i).t.size<=maxLen
 mx:CP b
def xU(g:F3 w0 am ms){k:Nat}(i:k<Z ms)(h:St w0 c X ob am cm ms 0 k wr):Calls Vb 104 #[Qp (O w0.1+1),G k] wr (MQ w0 c X ob am cm ms 0 k):=by
 obtain⟨hK,p,v1,vs,U,t,n,s,q⟩:=h;have w:=g.hn;go_call eW (O w0.1) _ _ _ am cm ms v1 vs U k wr n hK.siz I (g.arg.y hK.bel) i I (g.sz k i).2 (g.sz k i).1 (g.mx.y hK.bel) as e w' ⟨⟨b,rfl,o⟩,j,x,us,os,v,a,l,u,d,f,m⟩;have K:=hK.kpp (λg e=>(n.row.lt g e).1) q j;refine⟨b,F,λe=>?_,λe=>⟨⟨p,?_⟩,K⟩⟩
 .have H:=o.1 e;obtain⟨rfl,rfl,_,_⟩:=Y2 H d;exact⟨K,NN p H,u,_,_,by simp[t],f,s.step d,m.ne q hK.xl⟩
 .by_cases hx:B2 ms k
  .exact hx
  .have:=o.2 hx;rw[e]at this;cases this
theorem rW(h:St w0 c X ob am cm ms 0 (Z ms) wr):St w0 c X ob am cm ms 1 0 wr:=by obtain⟨hK,d,v1,vs,U,j,a,b,H⟩:=h;refine⟨hK,λi f=>I,U,[],O wr.1,⟨v1,vs,Jl,JL,Jb,Js,b,d,⟨F,λi f=>I,Js,λx hx=>by cases hx⟩,?_⟩,a.sm⟩;exact⟨⟨a.c0,a.c1,a.row,λg e=>(a.row.lt g e).2,a.uns.at,a.lo,I⟩,⟨a.c2,a.c3,a.fz 2,a.fz 3,jt,yW ⟨F,F⟩,Jb,Js,λg e=>by grind⟩,a.c4,yk,a.hP,a.hbs,hK.siz,a.hne⟩
theorem xV(g:F3 w0 am ms){k:Nat}(l:k<Z ms)(h:St w0 c X ob am cm ms 1 k wr):Calls Vb 105 #[Qp (O w0.1+1),G k] wr (MQ w0 c X ob am cm ms 1 k):=by
 obtain⟨hK,u,U,ks,C,⟨v1,vs,kv,pv,q,x,A,Q,i,d⟩,v⟩:=h;have B:=g.hn;have a:=i.ln;have y:=d.hBC;have j:=d.hC;go_call eU _ C am cm ms kv pv ks k wr d.pg.c0 (g.arg.y hK.bel) l d.nm j I (g.sz k l).1 as e w' ⟨⟨b,rfl,t⟩,o,p,s,f,m,n⟩;have w:∀g,kv.ownBlock=E g->C<=g:=λg e=>(d.nm.row.lt g e).1
 have z:∀g,pv=E g->C<=g:=λg e=>(d.nm.plt g e).1
 have K:=hK.eff y f w z q x;refine⟨b,F,λe=>?_,λe=>⟨⟨Q,u,?_⟩,K⟩⟩
 .have H:=t.1 e;rw[GL H]at s;refine⟨K,NN u (i.b3.1 H),U,_,C,⟨v1,vs,o,p,m.ne q hK.xl,n.ne x hK.xl,A,Q,i.step H (g.sz k l).1,?_⟩,v.same (f.blk _ v.lt I (λe=>by grind) (λe=>by grind))⟩;exact⟨d.pg.eff I j f w z,s,(f.cel 4 I I).1.trans d.c4,yy j f.size,d.hP,d.hbs,d.hBC,d.hne⟩
 .by_cases hx:B3 ms k
  .exact hx
  .have:=t.2 (i.b3.2 hx);rw[e]at this;cases this
def rX(h:St w0 c X ob am cm ms 1 (Z ms) wr):St w0 c X ob am cm ms 2 0 wr:=by obtain⟨hK,b,U,ks,C,a,d⟩:=h;exact⟨hK,b,U,ks,C,a,d,λi e=>I⟩
def Dp.b4{U}(h:Dp ms ks)(k):(∀u∈(Ah U k).us,u∈ks)↔¬ B4 ms U k:=by
 constructor
 .rintro h1 ⟨u,hu,h2⟩;obtain⟨i,a,e⟩:=h.mem (h1 u hu);exact h2 i a e
 .intro h1 u hu;by_cases hx:u∈ks
  .exact hx
  .exact yV ⟨u,hu,λj b e=>hx (by rw[<-e];exact yE (h.at' j b))⟩ h1
def xW(g:F3 w0 am ms){k:Nat}(m:k<Z ms)(h:St w0 c X ob am cm ms 2 k wr):Calls Vb 106 #[Qp (O w0.1+1),G k] wr (MQ w0 c X ob am cm ms 2 k):=by
 obtain⟨hK,l,U,ks,C,⟨v1,vs,kv,pv,q,K,f,H,d,a⟩,n,i⟩:=h;have o:=g.hn;obtain⟨s,p⟩:=(f.small o).2.2 k m;go_call eV _ _ C am cm (Z ms) v1 vs U kv pv ks k wr a.pg m a.nm p I I as e w' ⟨⟨b,rfl,j⟩,hx⟩;obtain rfl:=hx.symm;refine⟨b,F,λe=>?_,λe=>⟨⟨H,l,U,f,i,?_⟩,hK⟩⟩
 .exact⟨hK,l,U,ks,C,⟨v1,vs,kv,pv,q,K,f,H,d,a⟩,n,NN i ((d.all.b4 k).1 (j.1 e))⟩
 .by_cases hx:B4 ms U k
  .exact hx
  .have:=j.2 ((d.all.b4 k).2 hx);rw[e]at this;cases this
def rY(h:St w0 c X ob am cm ms 2 (Z ms) wr):St w0 c X ob am cm ms 3 0 wr:=by obtain⟨hK,d,U,ks,C,b,e,a⟩:=h;exact⟨hK,d,U,ks,C,b,e,a,λi f=>I⟩
def Eg.y(h:Eg w B C P bs am cm ms v1 vs U kv pv ks)(a:Qb w w'):Eg w' B C P bs am cm ms v1 vs U kv pv ks:=h.keep (zH a _)
def xX(g:F3 w0 am ms){k:Nat}(u:k<Z ms)(h:St w0 c X ob am cm ms 3 k wr):Calls Vb 107 #[Qp (O w0.1+1),G k] wr (MQ w0 c X ob am cm ms 3 k):=by
 obtain⟨hK,p,U,ks,C,⟨v1,vs,kv,pv,Q,q,l,H,j,d⟩,s,f,n⟩:=h;have t:=g.hn;go_call gH _ _ C am cm ms v1 vs U kv pv ks k wr d.pg (g.arg.y hK.bel) u d.nm d.hC t j.all (λi m=>(j.all.b4 i).2 (f i m)) (λi m=>((l.small t).2.2 i m).1) as e w' ⟨⟨b,rfl,o⟩,a⟩;have K:=hK.y a;refine⟨b,F,λe=>?_,λe=>⟨⟨H,p,U,l,f,n,?_⟩,K⟩⟩
 .exact⟨K,p,U,ks,C,⟨v1,vs,kv,pv,Q,q,l,H,j,d.y a⟩,s.same (a.block _ s.lt),f,NN n (o.1 e)⟩
 .by_cases hx:TC (B9 ms U) k k
  .exact hx
  .have:=o.2 hx;rw[e]at this;cases this
def rZ(h:St w0 c X ob am cm ms 3 (Z ms) wr):St w0 c X ob am cm ms 4 0 wr:=by obtain⟨hK,f,U,ks,C,k,m,b,d⟩:=h;obtain⟨rk,n,o⟩:=Ow f b d;have e:GB (Z ms) (An ms) U rk:=⟨λi a u g=>⟨(NX a (b i a) g).1,n i a u g⟩,o⟩;obtain⟨T,hT⟩:=zbu e;exact⟨hK,f,U,ks,C,T,rk,_,k,b,d,e,hT,⟨⟨0,[],m,yk,Js,λj l=>by cases l⟩,λj _ x hx=>(by cases hx),λ_ _ _ _ _ _ _ hx=>(by cases hx)⟩,λi a=>I⟩
def xY(g:F3 w0 am ms){k:Nat}(y:k<Z ms)(h:St w0 c X ob am cm ms 4 k wr):Calls Vb 108 #[Qp (O w0.1+1),G k] wr (MQ w0 c X ob am cm ms 4 k):=by
 obtain⟨hK,u,U,ks,C,T,rk,a,⟨v1,vs,kv,pv,Q,q,l,H,s,p⟩,m,n,j,hT,w,o⟩:=h;have v:=g.hn;obtain⟨z,A,B⟩:=l.small v;go_call gI _ C _ _ am cm ms v1 vs U kv pv ks T rk v s.all j hT z A (λi x=>(B i x).1) k y wr a (g.arg.y hK.bel) p w as e w' ⟨⟨b,rfl,t⟩,d,G',f⟩;have K:=hK.grown d;refine⟨b,F,λe=>?_,λe=>⟨⟨H,u,U,T,rk,l,m,n,j,hT,o,?_⟩,K⟩⟩
 .exact⟨K,u,U,ks,C,T,rk,G',⟨v1,vs,kv,pv,Q,q,l,H,s,p.keep d⟩,m,n,j,hT,f,NN o (t.1 e)⟩
 .intro hx;have:=t.2 hx;rw[e]at this;cases this
def KX.y{i wr g X b c f U d C k}(h:KX i wr X b c f U d C k)(m:Qb wr g):KX i g (O wr.1) b c f U d C k:=by obtain⟨v1,vs,kv,pv,_,_,l,H,j,a⟩:=h;exact⟨v1,vs,kv,pv,λe=>Jy ((a.nm.row.lt _ e).2),λe=>Jy ((a.nm.plt _ e).2),l,H,j,a.y m⟩
def XM(w:JY)(o):(w.alloc o).heap[O w.1]?=E o:=by show(w.heap.push o)[O w.1]?=E o;simp
def St.alloc{d b X f g i j s k wr}(h:St d b X f g i j s k wr)(o):St d b (O wr.1) o g i j s k (wr.alloc o):=by
 have c:Qb wr (wr.alloc o):=zC;have H:∀{X f},Cn d b X f wr->Cn d b (O wr.1) o (wr.alloc o):=λhK=>by have l:=hK.siz;exact⟨XM wr o,I,hK.bel.trans (c.mono I),(c.block _ I).trans hK.row,Jq,⟨(c.cell (p:=(J (O d.1+1) 5)) (show O d.1+1<_ by omega)).trans hK.c5.1,(c.frozen (p:=(J (O d.1+1) 5)) (show O d.1+1<_ by omega)).trans hK.c5.2⟩⟩
 match s,h with
 |0,⟨hK,hg,v1,vs,U,hl,hP,hU,hvX⟩=>exact⟨H hK,hg,v1,vs,U,hl,hP.y c,hU,λe=>Jy ((hP.row.lt _ e).2)⟩
 |1,⟨hK,hg,U,ks,C,hS,hm⟩=>exact⟨H hK,hg,U,ks,C,hS.y c,hm.same (c.block _ hm.lt)⟩
 |2,⟨hK,hg,U,ks,C,hS,hm,h4⟩=>exact⟨H hK,hg,U,ks,C,hS.y c,hm.same (c.block _ hm.lt),h4⟩
 |3,⟨hK,hg,U,ks,C,hS,hm,h4,h5⟩=>exact⟨H hK,hg,U,ks,C,hS.y c,hm.same (c.block _ hm.lt),h4,h5⟩
 |s+4,⟨hK,hg,U,ks,C,T,rk,a,hS,h4,h5,hR,hT,hG,h6⟩=>exact⟨H hK,hg,U,ks,C,T,rk,a,hS.y c,h4,h5,hR,hT,hG.y c,h6⟩
def St.ldk{k:Nat}(h:St w0 c X ob am cm ms s k wr):Cn w0 c X ob wr:=by
 match s,h with
 |0,h=>exact h.1
 |1,h=>exact h.1
 |2,h=>exact h.1
 |3,h=>exact h.1
 |s+4,h=>exact h.1
def NO{q a t}(h:w.heap[X]?=E (JM a t))(b:a[q]?=E v):w.cell? (J X q)=E v:=by simp[World.cell?,h,b]
theorem DK.hit{k}{B P:Nat->Prop}{R}(h:DK n B P R)(g:k<n)(d:B k)(e:∀i,i<k->¬ B i):P k:=by rcases h with⟨i,f,a,b,c⟩|⟨a,_⟩;all_goals grind
theorem DK.miss{B P:Nat->Prop}{R}(h:DK n B P R)(b:∀i,i<n->¬ B i):R:=by rcases h with⟨i,c,a,_⟩|⟨_,a⟩;all_goals grind
theorem PM(h:Ex ms U (Z ms))(b:ZG ms U0)(i)(a:i<Z ms):(Ah U i).os=(Ah U0 i).os/\(Ah U i).us=BR (Ah U0 i).us:=by obtain⟨us,c,f⟩:=h.2 i a;obtain⟨d,e,_⟩:=ZC.one c (b.2 i a);grind
theorem YJ:u∈BR us↔u∈us:=by grind [BR,Ig]
def OA(h:Ex ms U (Z ms))(a:ZG ms U0)(i)(b:i<Z ms):B4 ms U i↔B4 ms U0 i:=by unfold B4;rw[(PM h a i b).2];simp only[YJ]
theorem Tn(h:Ex ms U (Z ms))(a:ZG ms U0):B9 ms U=B9 ms U0:=by grind [B9,PM,YJ]
theorem xZ(a):∃c,zM a c:=by
 unfold zM;by_cases d:500<Z a
 .grind
 .have h:Z a<=500:=I;by_cases b:Bg a (Z a)
  .by_cases h3:Pr 3 a
   .exact⟨3,yX ⟨h,yX ⟨b,yW ⟨F,h3⟩⟩⟩⟩
   .by_cases h4:Pr 4 a
    .exact⟨4,yX ⟨h,yX ⟨b,yX ⟨h3,yW ⟨F,h4⟩⟩⟩⟩⟩
    .exact⟨0,yX ⟨h,yX ⟨b,yX ⟨h3,yX ⟨F,h4⟩⟩⟩⟩⟩
  .exact⟨2,yX ⟨h,yW ⟨F,b⟩⟩⟩
theorem RV{a T}(h:OD a T):zM T 0↔¬ ∃c,zM a c/\c≠0:=by
 by_cases d:Z a<=500
 .rw[h.1 d];grind [Z3,xZ]
 .have ht:=h.2 I;constructor
  .intro b;rcases b with⟨b,_⟩|⟨b,_⟩
   .cases b
   .omega
  .intro b;exact yV ⟨1,yW ⟨F,I⟩,Jd⟩ b
def zA{c g}(h:ZI ms out c g)(l:Z ms<=100){k}(m:s<5)(d:k<Z ms)(f:Fl ms s k):out=[]/\c=(s:Int)+2/\g=(k:Int):=by
 rcases h with⟨h,_⟩|⟨_,h⟩
 .omega
 rcases(I:s=0\/s=1\/s=2\/s=3\/s=4) with rfl|rfl|rfl|rfl|rfl
 .obtain⟨h1,h2⟩:=f;exact h.hit d h2 h1
 .obtain⟨h1,h2,h3⟩:=f;exact(h.miss h1).hit d h3 h2
 .obtain⟨h1,h2,U,hU,h4,Q⟩:=f;obtain⟨U0,H,e⟩:=(h.miss h1).miss h2;exact e.hit d ((OA hU H k d).1 Q) (λi b=>λx=>h4 i b ((OA hU H i I).2 x))
 .obtain⟨h1,h2,U,hU,h4,h5,q⟩:=f;obtain⟨U0,H,e⟩:=(h.miss h1).miss h2;rw[Tn hU H]at h5 q;exact(e.miss (λi b x=>h4 i b ((OA hU H i b).2 x))).hit d q h5
 .obtain⟨h1,h2,U,T,rk,hU,h4,h5,hR,hT,h6,y⟩:=f;obtain⟨U0,H,e⟩:=(h.miss h1).miss h2;rw[Tn hU H]at h5;obtain⟨a,j,X⟩:=(e.miss (λi b x=>h4 i b ((OA hU H i b).2 x))).miss h5;have K:=λi (b:i<Z ms)=>DV.near hT hR j (λi b=>PM hU H i b) (rk i+1) i b I
  refine X.hit d ?_ (λi b x=>((RV (K i I)).1 (h6 i b)) x);by_cases hx:B6 a k
  .exact hx
  .exact yV ((RV (K k d)).2 hx) y
def zB{c d}(h:ZI ms out c d)(w:Z ms<=100)(o:∀i,i<Z ms->¬ B2 ms i)(p:∀i,i<Z ms->¬ B3 ms i)(f:Ex ms U (Z ms))(s:∀i,i<Z ms->¬ B4 ms U i)(g:∀i,i<Z ms->¬ TC (B9 ms U) i i)(t:GB (Z ms) (An ms) U rk)(hT:DV (Z ms) (An ms) U T)(j:∀i,i<Z ms->zM (T i) 0):out=(List.range (Z ms)).map T/\c=0/\d=0:=by
 rcases h with⟨h,_⟩|⟨_,h⟩
 .omega
 obtain⟨U0,K,n⟩:=(h.miss o).miss p;rw[Tn f K]at g;obtain⟨a,u,Q⟩:=(n.miss (λi b x=>s i b ((OA f K i b).2 x))).miss g;have H:=λi (b:i<Z ms)=>DV.near hT t u (λi b=>PM f K i b) (rk i+1) i b I
 obtain⟨k,l,m⟩:=Q.miss (λi b x=>((RV (H i b)).1 (j i b)) x);refine⟨?_,l,m⟩;rw[k];refine List.map_congr_left (λi b=>?_);have q:i<Z ms:=List.mem_range.1 b;have v:Z (a i)<=500:=by
  by_cases hx:Z (a i)<=500
  .exact hx
  .have:=(H i q).2 I;rcases j i q with⟨e,_⟩|⟨e,_⟩
   .cases e
   .omega
 exact((H i q).1 v).symm
def aJ(w f g b e d):=
 (∃(s k:Nat)(c:Int),s<5/\k<Z b/\c=(s:Int)+2/\e=i9 (i5 #[.pointer JL,G c,G k])/\Fl b s k/\Qb w d) \/
 (e=i9 (i5 #[Qp (O w.1+1),G 0,G 0])/\∃a X ob,St w a X ob f g b 4 (Z b) d)
def Sx(w a c d b s wr):=(s<5/\∃X ob,St w a X ob c d b s 0 wr)\/(s=5/\∃X ob,St w a X ob c d b 4 (Z b) wr)
def QO(n:Nat):Array Value:=#[G 2,.func (.func 104) #[Qp n] #[],G 3,.func (.func 105) #[Qp n] #[],G 4,.func (.func 106) #[Qp n] #[],G 5,.func (.func 107) #[Qp n] #[],G 6,.func (.func 108) #[Qp n] #[]]
def KZ(w:JY)(a:Option Addr)(b:Nat)(c:Jp):World:=((w.alloc (.map #[] 0)).alloc (JM #[.slice a (Z c) b,Jl,Jl,.map JL,.map (E (O w.1)),Jl] 105)).alloc (JM (QO (O w.1+1)) 166)
def aK(w a b c):(KZ w a b c).heap[O w.1+2]?=E (JM (QO (O w.1+1)) 166):=by have:O w.1+2=((w.alloc (.map #[] 0)).alloc (JM #[.slice a (Z c) b,Jl,Jl,.map JL,.map (E (O w.1)),Jl] 105)).heap.size:=Js;unfold KZ;rw[this];exact XM _ _
def OT(s:Nat):FuncId:=if s=0 then 104 else if s=1 then 105 else if s=2 then 106 else if s=3 then 107 else 108
def Nw{f b c}(h:prog.funcs[f]?=E b)(g:(b.name == "runtime.NumGoroutine")=Vt)(e:b.body=E c)(a w):(callFunc f a).run Vb w=.ok (.enter f a) w:=by
 have d:b.name ≠ "runtime.NumGoroutine" := by simpa using g
 simp[callFunc,h,d,e]
def zZP(h:s<5)(a w):(callFunc (OT s) a).run Vb w=.ok (.enter (OT s) a) w:=by
 rcases(I:s=0\/s=1\/s=2\/s=3\/s=4) with rfl|rfl|rfl|rfl|rfl
 .exact Nw func104 Jk F a w
 .exact Nw func105 Jk F a w
 .exact Nw func106 Jk F a w
 .exact Nw func107 Jk F a w
 .exact Nw func108 Jk F a w
def QE(h:s<5):s=0\/s=1\/s=2\/s=3\/s=4:=I
def za8(b:s<5)(g:F3 w0 am ms){k:Nat}(a:k<Z ms)(h:St w0 c X ob am cm ms s k wr):Calls Vb (OT s) #[Qp (O w0.1+1),G k] wr (MQ w0 c X ob am cm ms s k):=by
 rcases QE b with rfl|rfl|rfl|rfl|rfl
 .exact xU g a h
 .exact xV g a h
 .exact xW g a h
 .exact xX g a h
 .exact xY g a h
def zZR(a:s<5)(h:St w0 c X ob am cm ms s (Z ms) wr):Sx w0 c am cm ms (s+1) wr:=by
 rcases QE a with rfl|rfl|rfl|rfl|rfl
 .exact yW ⟨I,_,_,rW h⟩
 .exact yW ⟨I,_,_,rX h⟩
 .exact yW ⟨I,_,_,rY h⟩
 .exact yW ⟨I,_,_,rZ h⟩
 .exact yX ⟨F,_,_,h⟩
def Sx.start(w c d e):Sx w (KZ w c d e) c d e 0 (KZ w c d e):=by
 have H:=aK w c d e;unfold KZ at H ⊢;obtain⟨b,h⟩:=Jx (w.alloc (.map #[] 0));have f:O b.1=O w.1+1:=by rw[h];simp
 have g:AI b (O w.1) 0 (λ_=>JL):=by rw[h];exact AI.made w
 rw[<-h]at H ⊢;refine yW ⟨I,O w.1+2,_,⟨⟨H,yk,?_,F,Jq,?_⟩,λi a=>I,Jl,[],[],F,?_,⟨F,λi a=>I⟩,Jb⟩⟩
 .rw[h];exact((zC).alloc Js _).alloc Jq _
 .have hz:O w.1+1=O b.1:=f.symm;exact⟨by rw[hz];simp[go_sem],by rw[hz];simp[go_sem]⟩
 .have hz:O w.1+1=O b.1:=f.symm;refine⟨I,I,I,?_,?_,?_,?_,?_,?_,jt,⟨F,λi a=>by simp at a⟩,λi a=>by simp at a,?_⟩
  .rw[hz];simp[go_sem]
  .rw[hz];simp[go_sem]
  .rw[hz];simp[go_sem]
  .rw[hz];simp[go_sem]
  .rw[hz];simp[go_sem]
  .intro o;rw[hz];simp[go_sem]
  .exact(g.kept (zH zC JL) Js).kept (zH zC JL) Js
def dN(t z o w)(g:F3 w t o):Calls Vb 63 #[.slice t (Z o) z] w (aJ w t z o):=by
 have d:=@run_makeMap Vb;have A:∀(w:JY)(a:Addr)(fn:Fn)(x y:Array Value),(store a (.func fn x y)).run Vb w=stored Vb w a (.func fn x y) .plain:=λw a fn x y=>run_store Vb w a _ .plain F
 have hn:=g.hn;have B:¬ (100:Int)<Z o:=I;have L:=S (Sx.start w t z o);obtain⟨R,q⟩:=Jx (KZ w t z o);rw[<-q]at L;have n:=S (aK w t z o);rw[<-q]at n;unfold KZ QO at q;have V:=S q;clear q;go_enter func63,ntmps63;go_wp2_with fail;rw[<-D V];go_loopw [33] (λx wr=>∃s:Nat,s<=5/\x=G s/\Hid (Sx w R t z o s wr)) (λx _=>5-(intOf x).toNat);case atStart=>exact⟨0,I,F,L⟩
 case round=>
  clear L;obtain⟨s,hs,hx,L⟩:=hrel;by_cases h5:s=5
  .subst h5;have v:_=Value.int .i64 5:=hx;subst v;clear hx;have HF:=S (show ∃m X ob,St w m X ob t z o 4 (Z o) wr by
    rcases D L with⟨h,_⟩|⟨_,h⟩
    .omega
    .exact⟨R,h⟩)
   go_wp2;go_ret3;exact yX ⟨F,HF⟩
  .subst hx;have H:s<5:=I;have C:(s:Int)<5:=I;obtain⟨X0,ob0,K⟩:∃X ob,St w R X ob t z o s 0 wr:=by
    rcases D L with⟨_,h⟩|⟨h,_⟩
    .exact h
    .omega
   have Q:=K.ldk.row.trans n;obtain⟨i,T⟩:=Jx (OT s);obtain⟨c,hc⟩:∃c:Int,c=(s:Int)+2:=⟨_,F⟩;have q0:wr.cell? (J (O w.1+1+1) (s*2))=E (G c):=NO Q (by rw[hc];clear K;rcases QE H with rfl|rfl|rfl|rfl|rfl<;>rfl);have q1:wr.cell? (J (O w.1+1+1) (s*2+1))=E (.func (.func i) #[Qp (O w.1+1)] #[]):=NO Q (by rw[T];clear K;rcases QE H with rfl|rfl|rfl|rfl|rfl<;>rfl);have f:O w.1+1+1<O wr.1:=K.ldk.siz;have HA:=S (K.alloc (JM #[G c,.func (.func i) #[Qp (O w.1+1)] #[]] 166));have U:=λM m=>zZP H M m
   rw[<-T]at U;have HC:=S hc;have u:=S T;clear K Q L hc T h5;go_wp2_with fail;obtain⟨wo,rfl⟩:=Jx wr;go_loopw [39] (λy wi=>∃k:Nat,k<=Z o/\y=G k/\Hid (St w R (O wo.1) (JM #[G c,.func (.func i) #[Qp (O w.1+1)] #[]] 166) t z o s k wi)) (λy _=>Z o-(intOf y).toNat);case atStart=>exact⟨0,yn,F,HA⟩
   case round=>
    obtain⟨k,hk,rfl,N⟩:=hrel;by_cases l:k<Z o
    .have j:(k:Int)<Z o:=I;have b0:wr.cell? (J (O wo.1) 0)=E (G c):=NO N.ldk.box F;have b1:wr.cell? (J (O wo.1) 1)=E (.func (.func i) #[Qp (O w.1+1)] #[]):=NO N.ldk.box F;have HX:=S (za8 H g l N);rw[<-D u]at HX;go_wp2_with fail;go_call D HX as e w1 ⟨b,rfl,ht,hf⟩;cases b
     .obtain⟨P,p⟩:=hf F;have d0:w1.cell? (J (O wo.1) 0)=E (G c):=NO p.box F;have HR:Hid (aJ w t z o (i9 (i5 #[.pointer JL,G c,G k])) w1.drew):=yW ⟨s,k,c,H,l,HC,F,P,p.bel.drew⟩;go_wp2;go_region;go_wp2;go_ret3;exact HR
     .have HN:=S (ht F);go_wp2;exact⟨⟨k+1,I,Jn,HN⟩,Ji⟩
    .have j:¬ (k:Int)<Z o:=I;obtain rfl:k=Z o:=I;have HN:=S (zZR H N);go_wp2;exact⟨⟨s+1,I,Jn,HN⟩,Ji⟩
theorem Be.grw{b:Option Nat}(h:Be w C bs ms T a)(c:w.grownBy w' b)(f:b≠E bs)(i:∀j,j<Z ms->∀x,a (Ae ms j).n=E (b9 #[x])->∀g,x.ownBlock=E g->b≠E g):Be w' C bs ms T a:=by
 refine⟨?_,λj d x hx=>?_,h.apt⟩
 .obtain⟨m,M,hm,hM⟩:=h.mp;exact⟨m,M,hm.kept c (λe=>f e.symm),hM⟩
 .obtain⟨v,rfl,hv,H⟩:=h.at' j d x hx;have k:=c.size;exact⟨v,F,hv.grown c (λg e=>i j d v hx g e),λg e=>⟨(H g e).1,by grind⟩⟩
theorem Eg.put{d:Nat}(h:Eg w d C P bs am cm ms v1 vs U kv pv ks)(m:O w.1<=O w'.1)(Q:C<=B)(K:B<=O w.1)(p:∀g,kv.ownBlock=E g->g<B)(s:∀g,pv=E g->g<B)(c:∀q,q<B->q≠P->w'.heap[q]?=w.heap[q]?)(a:∀o,o≠5->w'.cell? (J P o)=w.cell? (J P o)/\w'.frozen? (J P o)=w.frozen? (J P o)):Eg w' d C P bs am cm ms v1 vs U kv pv ks:=by
 have l:=h.hP;have H:=h.hBC;have n:=h.nm;refine⟨h.pg.keep m (λi f j=>c i I I) (a 0 Jd).1 (a 1 Jd).1,⟨(a 2 Jd).1.trans n.c0,(a 3 Jd).1.trans n.c1,(a 2 Jd).2.trans n.f0,(a 3 Jd).2.trans n.f1,JI n.row (λg e=>c g (p g e) (λx=>by rw[x]at e;exact n.nk e)),?_,n.nk,n.np,n.nn⟩,(a 4 Jd).1.trans h.c4,by grind,l,h.hbs,H,h.hne⟩;rcases n.mp with k|⟨b,e,f,j⟩
 .exact yW k
 .exact yX ⟨b,e,f,j.same (c b (s b e) (λx=>by grind))⟩
structure G6(w wr:JY)(B C:Nat)(am:Option Addr)(d:Nat)(a:Jp)(v1:Value)(vs:List AO)(U:JC)(kv:Value)(pv:Option Nat)(ks:Jv)(T:Nat->Jf)(vv:Value)(tv:JD)(ta:List (Option Addr))(b:JF)(c:ByteArray->Option Value):Prop where
 sh:Eg wr (O w.1+3) C (O w.1+1) (O w.1) am d a v1 vs U kv pv ks
 sc:Be wr C (O w.1) a T c
 bel:Qb w wr
 c5:wr.cell? (J (O w.1+1) 5)=E vv
 f5:wr.frozen? (J (O w.1+1) 5)=Vt
 tr:Dx wr B vv tv ta b
 hz:B<=O wr.1
 dj:∀j,j<Z a->∀x,c (Ae a j).n=E (b9 #[x])->∀g,x.ownBlock=E g->vv.ownBlock≠E g
theorem G6.step{w wr c t n k B C cc N am cm i v1 vs U kv pv ks}{T:Nat->Jf}{u s tv ta M}{G' f:ByteArray->Option Value}{a us}(h:G6 w wr B C am cm i v1 vs U kv pv ks T u tv ta M G')(X:C<=B)(kl:∀g,kv.ownBlock=E g->g<B)(pl:∀g,pv=E g->g<B)(hW:Qb wr c)(g2:Be t C (O w.1) i T f)(R:c.grownBy t (E (O w.1)))(g5:∀j,j<Z i->∀x,f (Ae i j).n=E (b9 #[x])->G' (Ae i j).n=E (b9 #[x])\/∀g,x.ownBlock=E g->O c.1<=g)(z:t.grownBy n (E N))(b:O wr.1<=N)(P:N<O c.1\/O t.1<=N)(ho:ZS n (O wr.1) a us)(A:n.grownBy k u.ownBlock)(hr:Gr k B s (tv++[.slice a (Z us) cc]))(H:s.ownBlock=u.ownBlock\/∃q,s.ownBlock=E q/\O n.1<=q):G6 w (k.setCell (J (O w.1+1) 5) s) B C am cm i v1 vs U kv pv ks T s (tv++[.slice a (Z us) cc]) (ta++[a]) (M++[us]) f:=by
 have y:=h.sh.hBC;have hB:=h.hz;have z1:=hW.size;have z2:=R.size;have z3:=z.size;have z4:=A.size;have zb:=h.bel.size;have vl:∀g,u.ownBlock=E g->B<=g/\g<O wr.1:=λg e=>ji h.tr.row g e
 have s8:∀q,q<O wr.1->q≠O w.1->n.heap[q]?=wr.heap[q]?:=λq l V=>(z.block q I (λe=>by grind)).trans ((R.block q I (λe=>by grind)).trans (hW.block q l))
 have s4:∀q,q<O n.1->u.ownBlock≠E q->k.heap[q]?=n.heap[q]?:=λq l V=>A.block q l (λe=>V e.symm)
 have nv:∀q,q<B->u.ownBlock≠E q:=λq L e=>by grind
 have zs:(k.setCell (J (O w.1+1) 5) s).heap.size=O k.1:=Jt;have ss:∀q,q≠O w.1+1->(k.setCell (J (O w.1+1) 5) s).heap[q]?=k.heap[q]?:=λq L=>jh _ _ _ _ (by grind)
 have c4:∀o,k.cell? (J (O w.1+1) o)=wr.cell? (J (O w.1+1) o):=λo=>(yv (w:=n) (s4 (O w.1+1) I (nv (O w.1+1) I))).trans (yv (w:=wr) (s8 (O w.1+1) I I))
 have f4:∀o,k.frozen? (J (O w.1+1) o)=wr.frozen? (J (O w.1+1) o):=λo=>(yG (w:=n) (s4 (O w.1+1) I (nv (O w.1+1) I))).trans (yG (w:=wr) (s8 (O w.1+1) I I))
 have d6:∀j,j<Z i->∀x,f (Ae i j).n=E (b9 #[x])->∀g,x.ownBlock=E g->u.ownBlock≠E g:=λj m x hx g e v=>by
  rcases g5 j m x hx with l|l
  .exact h.dj j m x l g e v
  .grind
 have lo:∀j,j<Z i->∀x,f (Ae i j).n=E (b9 #[x])->∀g,x.ownBlock=E g->C<=g/\g<O t.1:=λj m x hx g e=>by obtain⟨x',e1,_,K⟩:=g2.at' j m _ hx;grind
 refine⟨?_,?_,?_,?_,?_,?_,I,?_⟩
 .have s6:∀q,q<B->k.heap[q]?=t.heap[q]?:=λq L=>(s4 q I (nv q L)).trans (z.block q I (λe=>by grind))
  refine((h.sh.y hW).keep R).put (B:=B) I X I kl pl (λq L Q=>(ss q Q).trans (s6 q L)) (λo d=>⟨?_,?_⟩)
  .exact(yj _ _ _ _ (by grind)).trans (yv (w:=t) (s6 (O w.1+1) I))
  .exact(yx).trans (yG (w:=t) (s6 (O w.1+1) I))
 .have nq:∀j,j<Z i->∀x,f (Ae i j).n=E (b9 #[x])->∀g,x.ownBlock=E g->(E N:Option Nat)≠E g:=λj m x hx g e v=>by
   injection v with v;have h6:=(lo j m x hx g e).2;rcases g5 j m x hx with l|l
   .obtain⟨x',e1,_,K⟩:=h.sc.at' j m _ l;grind
   .grind
  exact((g2.grw z (λe=>by grind) nq).grw A (nv _ I) d6).grw (zx k (O w.1+1) 5 s) (λe=>by grind) (λj m x hx g e v=>by grind)
 .exact((((h.bel.trans (hW.mono zb)).grown R I (λq e=>by grind)).grown z I (λq e=>by grind)).grown A I (λq e=>by grind)).setCell (p:=(J (O w.1+1) 5)) Js _
 .exact yu _ _ _ ((c4 5).trans h.c5)
 .exact(yx).trans ((f4 5).trans h.f5)
 .exact(h.tr.step hB I (λq l V=>s8 q V I) ho A hr H).keep I (λq l _=>ss q I)
 .grind
def pV(a:Qb w w')(q o v):w.grownBy (w'.setCell (J q o) v) (E q):=
 ⟨a.os,a.tape,a.output,by simp[World.setCell];exact a.size,λi b h=>(jh _ _ _ _ (λe=>h (by rw[e]))).trans (a.block i b)⟩
def nD{d c}(a:w.grownBy w' c)(b:Qb w' d):w.grownBy d c:=
 ⟨b.os.trans a.os,b.tape.trans a.tape,b.output.trans a.output,yy a.size b.size,λi e h=>(b.block i (ym e a.size)).trans (a.block i e h)⟩
structure cQ(w wr b:JY)(B C h:Nat)(am:Option Addr)(i:Nat)(j:Jp)(v1:Value)(vs:List AO)(U:JC)(kv:Value)(pv:Option Nat)(ks:Jv)(T:Nat->Jf)(vv:Value)(tv:JD)(ta:List (Option Addr))(e:JF)(d:ByteArray->Option Value)(a:Option Addr)(us:Jj):Prop where
 c5:b.cell? (J (O w.1+1) 5)=E vv
 f5:b.frozen? (J (O w.1+1) 5)=Vt
 row:Gr b B vv tv
 bel:Qb w b
 siz:O wr.1<=O b.1
 step:∀(g f:JY)(c:Value),Qb b g->g.grownBy f vv.ownBlock->Gr f B c (tv++[.slice a (Z us) h])->(c.ownBlock=vv.ownBlock\/∃q,c.ownBlock=E q/\O g.1<=q)->G6 w (f.setCell (J (O w.1+1) 5) c) B C am i j v1 vs U kv pv ks T c (tv++[.slice a (Z us) h]) (ta++[a]) (e++[us]) d
theorem G6.read{n i:JY}{cc m:Nat}{z:Value}{u:JD}{t:List (Option Addr)}{f:JF}{a:Option Addr}{v:Jj}(h:G6 w wr B C am cm ms v1 vs U kv pv ks T z u t f G')(K:C<=B)(s:(∀g,kv.ownBlock=E g->g<B)/\∀g,pv=E g->g<B)(l:Qb wr c)(d:Be n C (O w.1) ms T G''/\c.grownBy n (E (O w.1))/\∀j,j<Z ms->∀x,G'' (Ae ms j).n=E (b9 #[x])->G' (Ae ms j).n=E (b9 #[x])\/∀g,x.ownBlock=E g->O c.1<=g)(k:n.grownBy i (E m))(X:O wr.1<=m)(y:m<O c.1\/O n.1<=m)(L:ZS i (O wr.1) a v):cQ w wr i B C cc am cm ms v1 vs U kv pv ks T z u t f G'' a v:=by
 have b:=h.sh.hBC;have R:=h.hz;have z1:=l.size;have z2:=d.2.1.size;have z3:=k.size;have N:=h.bel.size;have o:∀q,q<O wr.1->q≠O w.1->i.heap[q]?=wr.heap[q]?:=λq A P=>(k.block q I (λe=>by grind)).trans ((d.2.1.block q I (λe=>by grind)).trans (l.block q A))
 refine⟨(yv (w:=wr) (o (O w.1+1) I I)).trans h.c5,(yG (w:=wr) (o (O w.1+1) I I)).trans h.f5,I6 h.tr.row (λg e=>o g (ji h.tr.row g e).2 (Jy ((ji h.tr.row g e).1))),?_,I,λw8 w4 V p Q M H=>?_⟩
 .exact((h.bel.trans (l.mono N)).grown d.2.1 I (λq e=>by grind)).grown k I (λq e=>by grind)
 .exact h.step K s.1 s.2 l d.1 d.2.1 d.2.2 (nD k p) X y (L.step p) Q M H
