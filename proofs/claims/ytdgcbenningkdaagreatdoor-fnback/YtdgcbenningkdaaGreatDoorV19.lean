import Derived.Test.YtdgcbenningkdaaGreatDoorV12
import Derived.Test.YtdgcbenningkdaaGreatDoorV14
import Derived.Test.YtdgcbenningkdaaGreatDoorV18
namespace Go.Proofs.YtdgcbenningkdaaGreatDoor
set_option linter.all false
set_option maxHeartbeats 0
set_option maxRecDepth 100000
open Proofs.Tryz RowKit
variable{ns:List Ad}{ts:List zR}
open _root_.Array renaming size→O
open List renaming length→Z
open Option renaming some→E,none→JL
open Obj renaming cells→JM
open Bool renaming false→Vt,true→Vp
open Proofs.Tryz renaming prog→Vb
open Value renaming agg→b9,tuple→i5,slice→i6,ownBlock→i8
def IN(N b h n c)(a:JY):=
 a.cell? (J N 0)=E (Je b h n c)/\a.cell? (J (N+1) 0)=E Jl/\a.frozen? (J (N+1) 0)=Vt
def IN.grown{N b H n c a g row}(h:IN N b H n c a)(d:a.grownBy g row)(f:∀k,row=E k->N+2<=k):IN N b H n c g:=by obtain⟨i,j,m⟩:=h;have o:N<O a.1:=jl i;have l:N+1<O a.1:=jl j;exact⟨(zJ d o (λe=>Jy (f _ e)) 0).trans i,(zJ d l (λe=>Jy (f _ e)) 0).trans j,(yG (w:=a) (d.block (N+1) l (λe=>Jy (f _ e.symm)))).trans m⟩
def IN.y{N b H n c a d}(h:IN N b H n c a)(e:Qb a d):IN N b H n c d:=h.grown (zH e JL) (λk f=>by cases f)
def uO(e:zM ns 0)(f:CM ns ts (Z ts))(d:0<Z ts/\(Aa ts (Z ts-1)).k=7){n}(g:Z ts<=n):(∀T,A8 ns n (Aj ns ts 0 (Z ts-1))=E T->RD ns 0 JL (Aj ns ts 0 (Z ts))=E (T,[BH]))/\(A8 ns n (Aj ns ts 0 (Z ts-1))=JL->RD ns 0 JL (Aj ns ts 0 (Z ts))=JL):=by
 obtain⟨H,K⟩:=SW f d.1 d.2;have c:=λT=>zak e H (n:=n) (by rw[DI];omega) T
 rw[K];refine⟨λT h=>(c T).1 h,λh=>?_⟩;cases b:RD ns 0 JL (Aj ns ts 0 (Z ts-1)++[BH]) with
 |none=>rfl
 |some y=>obtain⟨T,a⟩:=y;have q:=zad e H b;simp only at q;rw[q]at b;have:=(c T).2 b;rw[h]at this;cases this
def TF.of{s:JZ}(c:zM ns 0)(d:s.size<=20000)(hx:Zr ns s 0 ts)(b:CM ns ts (Z ts))(H:∀j,j<Z ts->(Aa ts j).k≠6):TF ns ts (CY ns ts (Z ts)) where
 len:=Jy ((Ms hx).2.1)
 us:=F
 all:=λi a=>by
  refine⟨zam (b i a),?_⟩;rcases SU (Mg (GN c)) ts 0 hx i a with h|h|h|h|h|h
  .have:=h.1;exact⟨I,I,H i a⟩
  .have:=h.1;exact⟨I,I,H i a⟩
  .have:=h.1;exact⟨I,I,H i a⟩
  .have:=h.1;exact⟨I,I,H i a⟩
  .exact yV h (H i a)
  .have:=h.1;exact⟨I,I,H i a⟩
def fE(b hO cap xs s w)(C:Z xs<=1048576)(hw:Au w b hO xs)(hf:ZO xs)(hB:b<O w.1)(hs:s.size<=1048576):Calls Vb 42 #[b9 #[Je b hO (Z xs) cap],W s] w (Di xs s w):=by
 have y:Qb w ((w.alloc (JM #[Je b hO (Z xs) cap] 45)).alloc (JM #[Jl] 40)):=(zC).alloc Js _;have HX:=Lc b hO cap xs _ C (hw.y y hB) hf (Jy y.size);go_enter func42,ntmps42;go_wp2_with fail;refine HX.mono ?_;clear HX;rintro e w1 ⟨⟨c,rfl,hc⟩,hb1⟩;have HC:=S hc;have z1:O w.1+2<=O w1.1:=Jz hb1.size
 have hJ:=y.trans (hb1.mono y.size);have HF:Hid (IN (O w.1) b hO (Z xs) cap w1):=IN.y ⟨Jg,Jg,Jg⟩ hb1;obtain⟨t0,t1,u1⟩:=D HF;clear hc hb1 y;by_cases z:c=0;case neg=>
  have hC:(c != 0)=Vp:=Ju z
  have HN:Hid (¬ zM xs 0):=λh=>z (Z3 HC h)
  clear z;go_wp2_with fail;refine yQ (v:=i5 #[b9 #[Jl],G 1,G 0]) ?_ F (Di.empty (yW ⟨HN,F,F,F⟩) (hJ.setCell Jr _));simp[results,results42,go_sem,t1]
 subst z;have HX:=fV b hO cap xs s w1 C (hw.y hJ hB) hf (ym hB hJ.size) Jm;go_wp2_with fail;refine HX.mono ?_;clear HX t0 t1 u1;rintro e w2 ⟨⟨g,ct,ts,v,rfl,⟨hg,hct,hcm⟩,hfil,K⟩,hb2⟩;have Q:=hJ.trans (hb2.mono hJ.size);replace HF:=S (HF.y hb2);have hF:O w.1<=g:=I;obtain⟨t0,t1,u1⟩:=D HF;rcases K with⟨⟨_,u⟩,rfl,K⟩|⟨x,rfl,_⟩;case inr=>
  have HN:=S (show 20000<s.size by
   rcases Nat.lt_or_ge 20000 s.size with h|h
   .exact h
   .exact yV ⟨HC,h⟩ x)
  clear x hfil;go_wp2_with fail;refine yQ (v:=i5 #[b9 #[Jl],G 2,G 0]) ?_ F (Di.empty (yX ⟨HC,yW ⟨HN,F,F,F⟩⟩) (Q.setCell Jr _));simp[results,results42,go_sem,t1]
 have V:=S K;have hH:=hfil.1;have HT:Hid (Ci w2 g 0 ts):=hfil.2.2;have HR:=S (Ms K);have HZ:=S (Mi ts 0 K);have hr:Z ts+Zm ts (Z ts)<=1048576:=Jy (D HR)
 have hE:Z ts<=20001:=Jy (D HR)
 have o:=I1 ts 0 K;have h9:=o.1;have hK:=S o;clear hfil K hb2 o;go_wp2;go_loop [9] (λiv=>∃k:Nat,k<=Z ts/\iv=G k/\Hid (∀j,j<k->(Aa ts j).k≠6)) (λiv=>Z ts-(intOf iv).toNat);case atStart=>exact⟨0,yn,F,S (λj hj=>yV hj (yz j))⟩
 case round=>
  obtain⟨k,hk,rfl,x⟩:=hrel;by_cases p:k<Z ts
  .have hl:(k:Int)<Z ts:=I;obtain⟨k0,k1,k2⟩:=(D HT) k p;rw[jd]at k0 k1 k2;by_cases h6:(Aa ts k).k=6
   .have e6:((Aa ts k).k==6)=Vp:=by rw[h6];rfl
    have H6:=S h6;have HX:=Uo g 0 ct k ts w2 hr p hct hcm HT hH (Jy (((HZ) k p).1));clear h6;go_wp2_with fail;refine HX.mono ?_;clear HX;rintro e w3 ⟨rfl,hb3⟩;have H:=Q.trans (hb3.mono Q.size);obtain⟨s0,s1,s2⟩:=HF.y hb3;go_wp2_with fail;refine yQ (v:=i5 #[b9 #[Jl],G 3,G (FU ts k:Int)]) ?_ F (Di.empty (yX ⟨HC,yX ⟨u,ts,V,yW ⟨k,p,H6,x,F,F,F⟩⟩⟩) (H.setCell Jr _));simp[results,results42,go_sem,s1]
   .have e6:((Aa ts k).k==6)=Vt:=Ju h6
    have h5:=S (show ∀j,j<k+1->(Aa ts j).k≠6 from λj hj=>by
     by_cases e:j=k
     .subst e;exact h6
     .exact x j I)
    clear h6;go_wp2;exact⟨⟨k+1,I,Jn,h5⟩,Ji⟩
  .have hl:¬ (k:Int)<Z ts:=I;have e:k=Z ts:=I;subst e;have HX:=eO b hO cap g 0 ct xs ts w2 C I (hw.y Q hB) hf (ym hB Q.size) HT hH;go_wp2_with fail;refine HX.mono ?_;clear HX t0 t1 u1;rintro e w3 ⟨⟨gr,cr,us,at_,rfl,hgr,hfr,hroles⟩,hb3⟩;have H:=Q.trans (hb3.mono Q.size);replace HF:=S (HF.y hb3);replace HT:=S (HT.y hb3 hH);have hx:=ym hH hb3.size;obtain⟨t0,t1,u1⟩:=D HF;rcases hroles with⟨h4,_⟩|⟨_,⟨i,hi,ht,ha,_,rfl⟩|⟨X,⟨_,hp,rfl⟩|⟨hy,_⟩⟩⟩
   .exact yV HC h4
   .have eA:decide ((i:Int) ≥ 0)=Vp:=Js;have h3:=S ht;have h1:=S ha;have HX:=Uo g 0 ct i ts w3 hr hi hct hcm HT hx (Jy (((HZ) i hi).1));clear ht ha hfr;go_wp2_with fail;refine HX.mono ?_;clear HX;rintro e w4 ⟨rfl,hb4⟩;have hv:=H.trans (hb4.mono H.size);obtain⟨s0,s1,s2⟩:=HF.y hb4;go_wp2_with fail;refine yQ (v:=i5 #[b9 #[Jl],G 4,G (FU ts i:Int)]) ?_ F (Di.empty (yX ⟨HC,yX ⟨u,ts,V,yX ⟨x,yW ⟨i,hi,h3,h1,F,F,F⟩⟩⟩⟩) (hv.setCell Jr _));simp[results,results42,go_sem,s1]
   case inr.inr.inr=>exact yV hK hy
   have L:=S X;have hb:=S (by rw[hp];exact TF.of HC u V X x:TF xs ts us);have he:=hfr.1;have t:BE w3 (O w3.1) b hO g 0 gr xs ts us:=⟨hw.y H hB,ym hB H.size,HT,hx,⟨hfr.1,hfr.2.2⟩,he,yk⟩;have hz:=S (t.y (@zC w3 (JM #[] 108)));have hI:=S (show Z5 (w3.alloc (JM #[] 108)) (O w3.1) (Ql (O w3.1) 0 0) [] by
    have h0:=yJ (base:=O w3.1) (e:=108) (size:=4) w3 #[] 0 yk yn F
    simpa[Z5,zO] using h0)
   have hM:=S (SW X h9 hK.2).1;have HX:=Mo (cap:=cap) (ct:=ct) (cr:=cr) HC C hf hb (Z ts) 0 (Z ts-1) (Ql (O w3.1) 0 0) [] _ yn I I (by rw[Nat.sub_zero];exact hM) hz hI Jq;rw[Nat.sub_zero,show((0:Nat):Int)=0 from rfl,(I:((Z ts-1:Nat):Int)=(Z ts:Int)-1)]at HX;have B:=S (uO HC X hK (n:=Z ts) yk);have f:Hid (∀T,A8 xs (Z ts) (Aj xs ts 0 (Z ts-1))=E T->ZF xs T):=λT h=>(Gd HC _ _ _ hM h).1
   obtain⟨bl,hP⟩:=Jx (A8 xs (Z ts) (Aj xs ts 0 (Z ts-1)));rw[<-hP]at HX B f;have z3:O w.1+2<=O w3.1:=Jy hb3.size
   clear X hp hfr t hI hM hb hP hb3;go_wp2_with fail;refine HX.mono ?_;clear HX t0 t1 u1;rintro e w4 ⟨u4,vs,ok,rfl,HR4,HG4,HA4,hl4,HO4⟩;have HG:=S (ze (@zC w3 (JM #[] 108)) HG4);have hG:Hid (Qb w w4):=H.grown HG H.size (λq hq=>by simp[i8]at hq;omega);replace HF:=S (HF.grown HG (λq hq=>by simp[i8]at hq;omega));have z4:=HG.size;obtain⟨t0,t1,u1⟩:=D HF;rcases D HO4 with⟨T,N,rfl,U⟩|⟨hu,rfl⟩;case inr=>
    have hA:=S (B.2 hu);clear hu HO4 B f;go_wp2_with fail;refine yQ (v:=i5 #[b9 #[Jl],G 5,G 0]) ?_ F (Di.empty (yX ⟨HC,yX ⟨u,ts,V,yX ⟨x,yX ⟨L,yW ⟨hA,F,F,F⟩⟩⟩⟩⟩) (hG.setCell Jr _));simp[results,results42,go_sem,t1]
   rw[jF,je]at U;have hQ:=S (f T N);have hn:=S (B.1 T N);have ho:1<=Z vs:=by rw[U,ZN];exact Sh.pos hQ.sh
   obtain⟨g4,c4,rfl,hD,A⟩:=Nm HR4 ho;rw[je,jd]at hl4;have M:Ab T=Z vs:=by rw[U,ZN]
   have P:=@zC w4 (JM #[Ql g4 (Z vs) c4] 40);have d:=S A;have HX:=fL g4 c4 vs (hL T) _ (A.y P A.1).2.2 (by have:=P.size;have:=A.1;omega) I ho (by rw[LR,M]) (λi hi=>by rw[U];exact TJ T hQ.sh 0 i I) (λi hi=>Jy (zZd T (i:=i) I));have a:AB (hL T) (Z vs-1)=(hT T:Int):=by rw[<-M];exact Qa hQ.sh
   rw[a]at HX;have h7:=S U;obtain⟨hh,l⟩:=Jx (hT T);rw[<-l]at HX;have hm:=S l;clear U N HO4 B f M A a l HR4 HG4 HA4 HG;go_wp2_with fail;refine HX.mono ?_;clear HX;rintro e w5 ⟨rfl,hb6⟩;have hd:=S ((hG.trans (P.mono hG.size)).trans (hb6.mono (by have:=hG.size;simp;omega)));have h8:=S ((HF.y P).y hb6);have hN:=S ((d.y P d.1).y hb6 (by have:=P.size;have:=d.1;omega));have tr5:w5.cell? (J (O w4.1) 0)=E (Ql g4 (Z vs) c4):=Jc hb6 Jh Jg;obtain⟨s0,s1,s2⟩:=D h8;clear t0 t1 u1 P hb6 HF d;by_cases R:1000<hh
   .have h2:(1000:Int)<hh:=I;have m:=S (by rw[<-D hm];exact R:1000<hT T);clear R;go_wp2_with fail;refine yQ (v:=i5 #[b9 #[Jl],G 6,G 0]) ?_ F (Di.empty (yX ⟨HC,yX ⟨u,ts,V,yX ⟨x,yX ⟨L,yX ⟨T,_,hn,yW ⟨m,F,F,F⟩⟩⟩⟩⟩⟩) (hd.setCell Jr _));simp[results,results42,go_sem,s1]
   .have h2:¬ (1000:Int)<hh:=I;have m:=S (by rw[<-D hm];omega:hT T<=1000);clear R;go_wp2_with fail;refine yQ (v:=i5 #[b9 #[Ql g4 (Z vs) c4],G 0,G 0]) ?_ F ⟨⟨E (J g4 0),c4,vs,0,0,F,S (yX ⟨g4,F,I,?_⟩),S (yX ⟨HC,yX ⟨u,ts,V,yX ⟨x,yX ⟨L,yX ⟨T,_,hn,yX ⟨m,h7,F,F⟩⟩⟩⟩⟩⟩)⟩,hd.setCell Jr _⟩
    .simp[results,results42,go_sem,s1]
    .exact hN.setCell _ _ _ I
def LP.len{f c p}(j:zM ns 0)(g:CM ns ts (Z ts))(d:0<Z ts/\(Aa ts (Z ts-1)).k=7)(h:LP ns ts f c p):Z f<=Z ts:=by
 rcases h with⟨_,rfl,_⟩|⟨T,a,i,⟨_,rfl,_⟩|⟨_,rfl,_⟩⟩
 .simp
 .simp
 .have H:=P4 g d 0 d.1;rw[Nat.sub_zero]at H;have b:=DF j _ _ JL _ 0 _ I H (λL e=>by cases e) i;have e:=yY List.length b.2.2.2.2;simp only[yM,jF,yr]at e;rw[DI]at e;have:=MO T b.2.1;rw[ZN];omega
def Zs.len{e s a c p}(h:Zs e s a c p):Z a<=20001:=by
 rcases h with⟨_,rfl,_⟩|⟨d,⟨_,rfl,_⟩|⟨K,ts,hx,⟨i,_,_,_,rfl,_⟩|⟨H,⟨i,_,_,_,rfl,_⟩|⟨b,h⟩⟩⟩⟩
 .simp
 .simp
 .simp
 .simp
 .have:=h.len d b (I1 ts 0 hx);have:=(Ms hx).2.1;omega
def Zs.code{s b c p}(h:Zs ns s b c p):0<=c/\c<=6:=by rcases h with⟨_,_,rfl,_⟩|⟨f,⟨_,_,rfl,_⟩|⟨K,ts,hx,⟨i,_,_,_,_,rfl,_⟩|⟨H,⟨i,_,_,_,_,rfl,_⟩|⟨d,⟨_,_,rfl,_⟩|⟨T,a,e,⟨_,_,rfl,_⟩|⟨_,_,rfl,_⟩⟩⟩⟩⟩⟩<;>decide
def xE(w)(d:Jp)(e:Ending)(b:JY):=∃(v:Value)(h:JF)(c a:Int),e=.returned (i5 #[v,G c,G a])/\Hid (Zg d h c a)/\Hid (Fd b (O w.1) v h)/\Qb w b
def VG(a B b):Fd a B (Ql b 0 0) []:=⟨⟨_,_,F⟩,yW F⟩
def Dx.empty(w:JY)(B)(b:B<=O w.1):Dx (w.alloc (JM #[] 40)) B (Ql (O w.1) 0 0) [] [] []:=by refine⟨?_,⟨F,F⟩,λj c=>yV c (yz j),λi j _ a d h=>by simp at h⟩;have:=yJ (base:=B) (e:=40) (size:=1) w #[] 0 b yn F;simpa[Gr] using this
def Ng(a c0 ms w)(hn:Z ms<=1048576)(hM:Cj w a ms)(hz:Em ms):Calls Vb 8 #[.slice a (Z ms) c0] w (xE w ms):=by
 obtain⟨W0,C⟩:=Jx (w.alloc (JM #[] 40));have hP:Below (O w.1) w W0:=by rw[C];exact zC
 have HE:=S (by rw[C];exact Dx.empty w _ yk:Dx W0 (O w.1) (Ql (O w.1) 0 0) [] [] []);have n:=S (OX a c0 ms W0 hn (hM.y hP) hz);have o:=S hP;have hm:=S C;clear hP C;go_enter func8,ntmps8;go_wp2_with fail;rw[<-D hm];go_call D n as e w1 ⟨v1,tabs,cd0,wh0,rfl,HL,HT1,hm1,hb1⟩;have V:=S (o.trans (hb1.mono o.size));by_cases hc:cd0=0
 .subst hc;obtain⟨hh,hp,P⟩:=HL.good;have hR:=S (O0 a c0 ms w1 hh (hM.y V) hz hp);have h5:=S hm1;have N:=S (HE.keep hb1.size (λq _ h=>hb1.block q h));have h9:=S P;have zw1:=V.size;have zw0:O w.1+1<=O W0.1:=by rw[D hm];simp
  have zw01:=hb1.size;obtain⟨gS,cS,rfl,f⟩:=D HT1;rw[P];rw[P]at f;have hB:=S f;clear hb1 hm1 n HE P hp f;go_wp2_with fail;go_call D hR as e w2 ⟨gU,cU,vs,U,rfl,hgU,hgUl,hvl,HOV,HUA,HUO,hb2⟩;have hD:=S (V.trans (hb2.mono V.size));have ha:=S (hb2);have hY:=S (N.keep hb2.size (λq _ h=>hb2.block q h));have zw2:=hb2.size;rw[hvl];have h8:=S hvl;clear hb2 hR N hvl;go_wp2;go_loopw [5,10] (λvv i wr=>∃(k:Nat)(tv:JD)(ta:List (Option Addr))(hQ:JF),k<=Z ms/\i=G k/\Hid (Dx wr (O w.1) vv tv ta hQ)/\Hid (DU (zy tabs) (λi=>(Ah U i).b) k hQ)/\Hid (w2.grownBy wr (E (O w.1)))/\Hid (∀q,vv.ownBlock=E q->q=O w.1\/O w2.1<=q)/\Below (O w.1) w wr) (λ_ i _=>Z ms-(intOf i).toNat);case atStart=>exact⟨0,[],[],[],yn,F,hY,S (DU.nil _ _),S (zH yN _),S (λq e=>yW (by simpa[i8] using e.symm)),hD⟩
  case round=>
   clear hY;obtain⟨k,tv,ta,hQ,hk,rfl,y,d,HG,he,hV⟩:=hrel;have zr2:=HG.size;obtain⟨av,cv,rfl⟩:∃a c,u5=i6 a (Z tv) c:=zS y.row;have P:Z tv<=1048576:=by have:=y.len.1;have:=d.1;omega
   by_cases B:k<Z ms
   .have hF:(k:Int)<Z ms:=I;rcases D hB with h|⟨hG,hs,hf⟩
    .omega
    obtain⟨t,t0,L,hl⟩:=hf k B;obtain⟨gq,cq,rfl,h4,v⟩:=CN.of ((L.at'.y ha).grown HG (λg e x=>by injection x with x;have:=hl g e;omega)) L.blk;have t0':=(zJ HG (b:=gS) I (λx=>by injection x with x;omega) k).trans (Jc ha hs t0);have R:k<Z vs:=by rw[D h8];exact B
    have v2:=(zJ HG (b:=gU) hgUl (λx=>by injection x with x;omega) (k*3+2)).trans (HOV k R).2.2;have q3:=(HUA.2 k R).1.2.2;have hW:(AX vs k).b.size<=1048576:=by rw[q3];have:=V8 (HUO.2 k B);omega
    obtain⟨bd,hK⟩:=Jx ((AX vs k).b);rw[<-hK]at v2 hW q3;obtain⟨M,s⟩:=(D h5) (zy tabs k) (by unfold zy;have:=D h9;simp[(I:k<Z tabs)]);obtain⟨xs,hN⟩:=Jx (zy tabs k);rw[<-hN]at t0' v M s;have hr:=S (λhU (hb:Below (O wr.1) wr hU)=>fE gq 0 cq xs bd hU M (v.y hb h4) s (Jy hb.size) hW);have hS:=S (λus c (h:∃p,Zs xs bd us c p)=>show F6 (zy tabs) (λi=>(Ah U i).b) k us c by
     obtain⟨p,h⟩:=h
     refine⟨p,?_⟩
     show Zs (zy tabs k) (Ah U k).b us c p
     rw[<-hN,<-q3]
     exact h)
    clear v t0 hf q3 hK hN L hl;have h0:=S (hr (wr.alloc (JM #[Jl] 40)).drew (zC).drew);have h6:=S (hr wr.drew (yN).drew);have gl1:gS<O wr.drew.1:=by show gS<O wr.1;omega
    have gl2:gU<O wr.drew.1:=by show gU<O wr.1;omega
    obtain⟨N0,h2⟩:=Jx ((wr.alloc (JM #[Jl] 40)).drew);have gl3:gS<(wr.alloc (JM #[Jl] 40)).drew.heap.size:=Jq;have gl4:gU<(wr.alloc (JM #[Jl] 40)).drew.heap.size:=Jq;have gl5:O wr.1<(wr.alloc (JM #[Jl] 40)).drew.heap.size:=Js;have t0n:(wr.alloc (JM #[Jl] 40)).drew.cell? (J gS k)=_:=((@zC wr _).cell (p:=J gS k) gl1).trans t0';have v2n:(wr.alloc (JM #[Jl] 40)).drew.cell? (J gU (k*3+2))=_:=((@zC wr _).cell (p:=(J gU (k*3+2))) gl2).trans v2;have hx:=S (Jg:(wr.alloc (JM #[Jl] 40)).drew.cell? (J (O wr.1) 0)=E Jl);have hw:=S (Jg:(wr.alloc (JM #[Jl] 40)).drew.frozen? (J (O wr.1) 0)=Vt);clear h2 N0;have nn1:=jA wr _ t0';have nn2:=jA wr _ v2;go_wp2_with fail;go_region_held3 (λhU=>hU.cell? (J gS k)=E (Ql gq (Z xs) cq)/\hU.cell? (J gU (k*3+2))=E (W bd)) (go_keep) (first|(go_at_call 42;(first|((with_reducible refine(D h6).mono ?_);rintro e w3 ⟨⟨a3,c3,us,cd,pl,rfl,HON,HPI⟩,hb3⟩;have hO:=S hb3;have z3:=hb3.size;have j1:=Jc hb3 gl1 t0';have j2:=Jc hb3 gl2 v2;clear hb3)|((with_reducible refine(D h0).mono ?_);rintro e w3 ⟨⟨a3,c3,us,cd,pl,rfl,HON,HPI⟩,hb3⟩;have hO:=S hb3;have z3:=hb3.size;have j1:=Jc hb3 gl3 t0n;have j2:=Jc hb3 gl4 v2n;have x0:w3.cell? (J (O wr.1) 0)=E Jl:=Jc hb3 gl5 hx;have x1:w3.frozen? (J (O wr.1) 0)=Vt:=(hb3.frozen (p:=J (O wr.1) 0) gl5).trans hw;clear hb3))));all_goals
     first
     |(
       obtain⟨W3,K⟩:=Jx (w3.alloc (JM #[.slice a3 (Z us) c3] 40))
       rw[<-K]
       have A:Below (O wr.1) wr W3:=by rw[K];exact((yN).drew.trans (hO.mono yk)).alloc (Ju z3) _
       have T:=S (by rw[K];exact HON.step zC:ZS W3 (O wr.1) a3 us)
       obtain⟨X,hX⟩:=Jx (O w3.1)
       have y0:W3.cell? (J X 0)=E (i6 a3 (Z us) c3):=by rw[K,hX];simp[go_sem]
       rw[<-hX]
       clear K hX)
     |(
       obtain⟨W3,K⟩:=Jx (w3.setCell (J (O wr.1) 0) (i6 a3 (Z us) c3))
       rw[<-K]
       have A:Below (O wr.1) wr W3:=by rw[K];exact((zC).drew.trans (hO.mono Js)).setCell (p:=J (O wr.1) 0) yk _
       have T:=S (by rw[K];exact(HON.grown (zx w3 (O wr.1) 0 _) (λq e=>by injection e with e;simp;omega)).base Js:ZS W3 (O wr.1) a3 us)
       have y0:W3.cell? (J (O wr.1) 0)=E (i6 a3 (Z us) c3):=by rw[K];exact yu _ _ _ x0
       clear x0 x1 K)
     have l:=S A
     have ho:Hid (Gr W3 (O w.1) (i6 av (Z tv) cv) tv):=I6 y.row (λg e=>A.block g (ji y.row g e).2)
     have zW3:=A.size
     by_cases hc:cd=0
     .subst hc
      go_wp2_with (first|(at_builtin;refine As Xx underlying32 (.tmp 54) (.tmp 56) F rfl (O w.1) _ (Z tv) tv F (I6 ho (λg e=>(@zC W3 _).block g (ji ho g e).2)) (J (O W3.1) 0) 1 1 [.slice a3 (Z us) c3] F rfl (λj u hj=>(by cases j with|zero=>(simp at hj;subst hj;simp[go_sem])|succ j=>simp at hj)) (λu hu=>(by simp at hu;subst hu;rfl)) Jm I Jq ?_))
      intro v4 w4 m H hE z
      have hd:Gr w4 (O w.1) v4 (tv++[.slice a3 (Z us) c3]):=by unfold Gr;rw[yr];exact m
      have h3:∀q,(i6 av (Z tv) cv).ownBlock=E q->O w.1<=q/\q<O wr.1:=λq e=>ji y.row q e
      have Q:Below (O wr.1) wr (W3.alloc (JM #[.slice a3 (Z us) c3] 40)):=l.alloc l.size _
      have hH:=Q.size
      have hJ:=H.size
      have HN:=S (y.step (Jy hV.size) Q.size (λq _ h=>Q.block q h) (T.step zC) H hd (z.imp id (λe=>⟨_,e,Js⟩)))
      have hy:=S (d.step (hS _ _ ⟨_,HPI⟩))
      have hv:=S (show w2.grownBy w4 (E (O w.1)) from⟨H.os.trans (Q.os.trans HG.os),H.tape.trans (Q.tape.trans HG.tape),H.output.trans (Q.output.trans HG.output),I,λq hq hi=>(H.block q I (λe=>by rcases(D he) q e.symm with x|x;exact hi (by rw[x]);omega)).trans ((Q.block q I).trans (HG.block q hq hi))⟩)
      have hA:=S (show ∀q,v4.ownBlock=E q->q=O w.1\/O w2.1<=q from λq e=>by
       rcases z with h|h
       .exact he q (h.symm.trans e)
       .rw[h]at e;injection e with e;exact yX I)
      have ht:Hid (Below (O w.1) w w4):=(hV.trans (Q.mono hV.size)).grown H (Jy hV.size) (λq e=>(h3 q e).1)
      obtain⟨a4,c4,rfl⟩:∃a c,v4=i6 a (tv++[i6 a3 (Z us) c3]).length c:=zS hd
      go_wp2
      exact⟨⟨k+1,_,_,_,I,Jn,HN,hy,hv,hA,ht⟩,Ji⟩
     .have h7:(cd != 0)=Vp:=Ju hc
      have hI:=HPI.code
      have HR:=S (show Zg ms [] (10+cd) k from⟨tabs,0,wh0,HL,yX ⟨F,U,HUO,yW ⟨k,us,cd,hQ,B,d,hS _ _ ⟨_,HPI⟩,hc,F,F,F⟩⟩⟩)
      have hg:=S (hV.trans (l.mono hV.size))
      go_wp2
      go_ret3
      exact⟨_,[],_,_,F,HR,S (VG _ _ _),hg.alloc hg.size _⟩
   .obtain rfl:k=Z ms:=I;have HR:=S (show Zg ms hQ 0 0 from⟨tabs,0,wh0,HL,yX ⟨F,U,HUO,yX ⟨d,F,F⟩⟩⟩);have hC:=S y.res;go_wp2;go_ret3;exact⟨_,hQ,0,0,F,HR,hC,hV⟩
 .have h7:(cd0 != 0)=Vp:=Ju hc
  have HR:=S (show Zg ms [] cd0 wh0 from⟨tabs,cd0,wh0,HL,yW ⟨hc,F,F,F⟩⟩);go_wp2;go_ret3;exact⟨_,[],_,_,F,HR,S (VG _ _ _),V⟩
