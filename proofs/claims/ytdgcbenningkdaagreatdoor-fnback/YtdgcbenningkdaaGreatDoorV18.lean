import Derived.Test.YtdgcbenningkdaaGreatDoorV07
import Derived.Test.YtdgcbenningkdaaGreatDoorV08
namespace Go.Proofs.YtdgcbenningkdaaGreatDoor
set_option linter.all false
set_option maxHeartbeats 0
set_option maxRecDepth 100000
open Proofs.Tryz RowKit
variable{B b off:Nat}{V:List zD}{t:ByteArray}{ts:List zR}{us:List Int}{w w':World}{xs:List Ad}
open _root_.Array renaming size→O
open List renaming length→Z
open Option renaming some→E,none→JL
open Obj renaming cells→JM
open Bool renaming false→Vt,true→Vp
open Proofs.Tryz renaming prog→Vb
open Value renaming agg→b9,tuple→i5,slice→i6,bool→i7
open _root_.ByteArray renaming empty→j6
def OQ(w:JY)(gr)(a:JG):=gr<O w.1/\∀i,i<Z a->w.cell? (J gr i)=E (G (AB a i))
def OQ.y{gr}(h:OQ w gr us)(a:Below B w w')(b:gr<B):OQ w' gr us:=⟨ym h.1 a.size,λi c=>Jc a b (h.2 i c)⟩
def Xn{a b x}(h:Ao a x.2<Ao a b.2\/(Ao a x.2=Ao a b.2/\CB a x.2≠2)):C7 a (E b) x=E x:=yU h
def YR{a b x}(h:¬ (Ao a x.2<Ao a b.2\/(Ao a x.2=Ao a b.2/\CB a x.2≠2))):C7 a (E b) x=E b:=yS h
def Ot(a:Qb w w'){b c d e f g i j k l}(h:w.cell? b=E g/\w.cell? c=E i/\w.cell? d=E j/\w.cell? e=E k/\w.cell? f=E l):w'.cell? b=E g/\w'.cell? c=E i/\w'.cell? d=E j/\w'.cell? e=E k/\w'.cell? f=E l:=
 ⟨(a.cell (jl h.1)).trans h.1,(a.cell (jl h.2.1)).trans h.2.1,(a.cell (jl h.2.2.1)).trans h.2.2.1,(a.cell (jl h.2.2.2.1)).trans h.2.2.2.1,(a.cell (jl h.2.2.2.2)).trans h.2.2.2.2⟩
def nR(b off cap gt ot ct gr cr lo hi xs ts us w)(hm:Z xs<=1048576)(hw:Au w b off xs)(hB:b<O w.1)(ht:Ci w gt ot ts)(s:gt<O w.1)(hr:OQ w gr us)(g:us=CY xs ts (Z ts))(hn:Z ts<=100000)(h7:lo<=hi)(h5:hi<=Z ts)(hF:∀i,i<Z ts->L8 xs ts i/\1<=(Aa ts i).k/\(Aa ts i).k<=7/\(Aa ts i).k≠6):Calls Vb 138 #[b9 #[Je b off (Z xs) cap],Je gt ot (Z ts) ct,Ql gr (Z us) cr,G lo,G hi] w λe w'=>e=.returned (G (FO (Av xs (Aj xs ts lo (hi-lo)) lo 0 JL)))/\Qb w w':=by
 have hy:Z us<=Z ts:=by rw[g,IU];exact yk
 have h3:Z ts<=Z us:=by rw[g,IU];exact yk
 have R:Hid (∀i,i<Z ts->AB us i=zh xs ts i):=λi hi=>by rw[g];exact Pp hi
 have HF:=S hF;have o:=hr.1;clear hF g;go_enter func138,ntmps138;go_wp2;go_loopw [11,12,13] (λbv ov iv wr=>∃n:Nat,n<=hi-lo/\iv=G ((lo+n:Nat):Int)/\bv=G (FO (Av xs (Aj xs ts lo n) lo 0 JL))/\ov=G (BI 0 (Aj xs ts lo n))/\Hid (wr.cell? (J (O w.1) 0)=E (Je b off (Z xs) cap))/\Hid (Qb w wr)) (λ_ _ iv _=>hi-(intOf iv).toNat);case atStart=>exact⟨0,yn,F,F,F,S Jg,S zC⟩
 case round=>
  obtain⟨n,h8,rfl,rfl,rfl,hG,H⟩:=hrel;by_cases h6:n<hi-lo
  .have N:((lo+n:Nat):Int)<(hi:Int):=I;obtain⟨i,U⟩:=Jx (lo+n);obtain⟨B,m⟩:=Jx (Av xs (Aj xs ts lo n) lo 0 JL);obtain⟨op,a⟩:=Jx (BI 0 (Aj xs ts lo n));have hit:i<Z ts:=I;have hz:(i:Int)<Z ts:=I;have hv:(i:Int)<Z us:=I;have hb:-100000<=op/\op<=100000:=by have:=aN (Aj xs ts lo n) 0;rw[DI,<-a]at this;omega
   obtain⟨hs,hu⟩:=hb;obtain⟨hI,c,d,C⟩:=(D HF) i hit;have P:=S hI;have hA:=S (show BI 0 (Aj xs ts lo (n+1))=op+(if(Aa ts i).k=4 then 1 else 0)-(if(Aa ts i).k=5 then 1 else 0) by rw[Yv,<-a,<-U];exact zan hI ⟨c,d,C⟩ op)
   have v:=S (show Av xs (Aj xs ts lo (n+1)) lo 0 JL=(if BI 0 (Aj xs ts lo (n+1))≠0\/¬ (3<=(Aw xs ts i).1/\(Aw xs ts i).1<=5) then B else C7 xs B (i,Aw xs ts i)) by rw[wP,<-Yv,<-U,<-m])
   have T:=S (show ∀x,B=E x->lo<=x.1/\x.1<i/\x.2=Aw xs ts x.1/\(3<=x.2.1/\x.2.1<=5) from λx hx=>by
    have:=wQ (m.symm.trans hx)
    rw[U];exact this)
   have c0:=(ht.y H s i hit).1;have ur:=((hr.y H o).2 i I);rw[(D R) i hit]at ur;have tc:=D hG;have y:=S U;rw[<-m,<-a,<-U];rw[<-U]at N;clear a m hI U;by_cases k4:(Aa ts i).k=4
   .have X:=S (show Av xs (Aj xs ts lo (n+1)) lo 0 JL=B by
     rw[D v]
     rcases D P with⟨k3,_⟩|⟨_,_,V⟩
     .omega
     .exact yU (yX V))
    have l:zh xs ts i=0:=by
     rcases D P with⟨k3,_⟩|⟨_,h0,_⟩
     .omega
     .exact h0
    rw[yU k4,yS I]at hA;rw[k4]at c0;rw[l]at ur;clear k4 c d C P l v;by_cases h0:op+1=0;focus have e0:(op+1 != 0)=Vt:=Ju h0
    rotate_left
    focus have e0:(op+1 != 0)=Vp:=Ju h0
    all_goals
     have k:=S (I:op+1-0=op+1)
     clear h0
     go_wp2
     refine⟨⟨n+1,I,?_,by rw[D X],by rw[D hA,D k],hG,H⟩,?_⟩
     .first|(rw[D y];go_num)|(congr 1;have:=D y;omega)
     .simp[intOf];omega
   have e4:((Aa ts i).k==4)=Vt:=Ju k4
   by_cases k5:(Aa ts i).k=5
   .have X:=S (show Av xs (Aj xs ts lo (n+1)) lo 0 JL=B by
     rw[D v]
     rcases D P with⟨k3,_⟩|⟨_,_,V⟩
     .omega
     .exact yU (yX V))
    have l:zh xs ts i=0:=by
     rcases D P with⟨k3,_⟩|⟨_,h0,_⟩
     .omega
     .exact h0
    rw[yS k4,yU k5]at hA;rw[k5]at c0;rw[l]at ur;have k:=S (I:op+0-1=op-1);clear k5 k4 c d C P l v e4;by_cases h0:op-1=0;focus have e0:(op-1 != 0)=Vt:=Ju h0
    rotate_left
    focus have e0:(op-1 != 0)=Vp:=Ju h0
    all_goals
     clear h0
     go_wp2
     refine⟨⟨n+1,I,?_,by rw[D X],by rw[D hA,D k],hG,H⟩,?_⟩
     .first|(rw[D y];go_num)|(congr 1;have:=D y;omega)
     .simp[intOf];omega
   have e5:((Aa ts i).k==5)=Vt:=Ju k5
   rw[yS k4,yS k5]at hA;have k:=S (I:op+0-0=op);rw[D k]at hA;by_cases h0:op=0;case neg=>
    have X:=S (show Av xs (Aj xs ts lo (n+1)) lo 0 JL=B by
     rw[D v]
     exact yU (yW (by rw[D hA];exact h0)))
    have e0:(op != 0)=Vp:=Ju h0
    clear h0 k4 k5 c d C v P;go_wp2;refine⟨⟨n+1,I,?_,by rw[D X],by rw[D hA],hG,H⟩,?_⟩
    .first|(rw[D y];go_num)|(congr 1;have:=D y;omega)
    .simp[intOf];omega
   subst h0;rcases D P with⟨k3,⟨hk,hp⟩,hf,j,hH,hj,hh⟩|⟨k3,hg,V⟩;case inr=>
    have X:=S (show Av xs (Aj xs ts lo (n+1)) lo 0 JL=B by
     rw[D v]
     exact yU (yX V))
    rw[hg]at ur;clear k3 k4 k5 c d C v P hg V;go_wp2;refine⟨⟨n+1,I,?_,by rw[D X],by rw[D hA],hG,H⟩,?_⟩
    .first|(rw[D y];go_num)|(congr 1;have:=D y;omega)
    .simp[intOf];omega
   have e0:(zh xs ts i==0)=Vt:=Jq;have A:=S (show Av xs (Aj xs ts lo (n+1)) lo 0 JL=C7 xs B (i,Aw xs ts i) by
    rw[D v]
    refine yS (λh=>?_)
    rcases h with h|h
    .exact h hA
    .apply h
     rw[hf]
     simp only
     omega)
   have HJ:=S (ED hH).1;have HX:=Xt b off cap gt ot ct gr cr i j xs ts us wr hm (hw.y H hB) (ym hB H.size) (ht.y H s) (ym s H.size) (hr.y H o).2 hit I (by rw[(D R) i hit];exact hH);have t:=S hj;have ha:=S hh;clear k3 k4 k5 c d C v P hk hp hf hj hh hH;go_wp2_with fail;refine HX.mono ?_;clear HX;rintro e w2 ⟨rfl,hb2⟩;have q:Hid (Qb w (w2.alloc (JM #[W (r xs j).s,G (r xs j).k,G (r xs j).l,G (r xs j).sd] 25)).drew):=((H.trans (hb2.mono H.size)).alloc (yy H.size hb2.size) _).drew;have Q:=S (show(w2.alloc (JM #[W (r xs j).s,G (r xs j).k,G (r xs j).l,G (r xs j).sd] 25)).drew.cell? (J (O w.1) 0)=E (Je b off (Z xs) cap)/\(w2.alloc (JM #[W (r xs j).s,G (r xs j).k,G (r xs j).l,G (r xs j).sd] 25)).drew.cell? (J (O w2.1) 0)=E (W (r xs j).s)/\(w2.alloc (JM #[W (r xs j).s,G (r xs j).k,G (r xs j).l,G (r xs j).sd] 25)).drew.cell? (J (O w2.1) 1)=E (G (r xs j).k)/\(w2.alloc (JM #[W (r xs j).s,G (r xs j).k,G (r xs j).l,G (r xs j).sd] 25)).drew.cell? (J (O w2.1) 2)=E (G (r xs j).l)/\(w2.alloc (JM #[W (r xs j).s,G (r xs j).k,G (r xs j).l,G (r xs j).sd] 25)).drew.cell? (J (O w2.1) 3)=E (G (r xs j).sd) from
    ⟨((@zC w2 (JM #[W (r xs j).s,G (r xs j).k,G (r xs j).l,G (r xs j).sd] 25)).drew.cell (p:=J (O w.1) 0) (ym (jl tc) hb2.size)).trans ((hb2.cell (p:=J (O w.1) 0) (jl tc)).trans tc),
     show(w2.alloc _).cell? _=_ by simp[go_sem],show(w2.alloc _).cell? _=_ by simp[go_sem],show(w2.alloc _).cell? _=_ by simp[go_sem],show(w2.alloc _).cell? _=_ by simp[go_sem]⟩)
   clear hb2 tc c0 ur hG H e0;cases hB':B with
   |none=>have X:=S (by rw[D A,hB'];rfl:Av xs (Aj xs ts lo (n+1)) lo 0 JL=E (i,Aw xs ts i));have eR:FO JL = -1:=F;rw[eR];clear A T hB';obtain⟨z0,z1,z2,z3,z4⟩:=D Q;go_wp2_with fail;go_quiet (fail);go_wp2;refine⟨⟨n+1,I,by first|(rw[D y];go_num)|(congr 1;have:=D y;omega),by rw[D X];rfl,by rw[D hA],S (show _=_ from Q.1),S (Pc q F rfl rfl rfl)⟩,Ji⟩
   |some x=>
    obtain⟨x1,x2⟩:=x;obtain⟨g1,g2,g3,g4⟩:=(D T) _ hB';simp only at g1 g2 g3 g4;have hC:x1<Z ts:=I;obtain⟨jb,hc,he⟩:∃jb,Ax xs (Aa ts x1).t (zh xs ts x1)=E jb/\Ao xs (Aw xs ts x1)=(r xs jb).l:=by
     rcases((HF) x1 hC).1 with⟨_,_,_,j,h1,h2,_⟩|⟨_,_,V⟩
     .exact⟨j,h1,h2⟩
     .rw[<-g3]at V;exact yV g4 V
    have L:Hid (∀hE,Qb w hE->_):=λhE hW=>Xt b off cap gt ot ct gr cr x1 jb xs ts us hE hm (hw.y hW hB) (ym hB hW.size) (ht.y hW s) (ym s hW.size) (hr.y hW o).2 hC I (by rw[(D R) x1 hC];exact hc)
    have h4:∀hE:JY,(Instr.field 25 (b9 #[W (r xs jb).s,G (r xs jb).k,G (r xs jb).l,G (r xs jb).sd]) 2).run Vb hE=.ok (G (r xs jb).l) hE:=λhE=>Vd hE _ _ _ _
    have eR:FO (E (x1,x2))=(x1:Int):=F;rw[eR];have eb:decide ((x1:Int)<0)=Vt:=by rw[yZ];omega
    rw[g3]at hB';have M:=S (by rw[D A,hB']:Av xs (Aj xs ts lo (n+1)) lo 0 JL=C7 xs (E (x1,Aw xs ts x1)) (i,Aw xs ts i));have z:=S he;clear A T hB' g3 g4 hc he;rcases(I:(r xs j).l<(r xs jb).l\/(r xs j).l=(r xs jb).l\/(r xs jb).l<(r xs j).l) with hl|hl|hl;focus
     have hd:decide ((r xs j).l<(r xs jb).l)=Vp:=Ju hl
     have X:=S (show Av xs (Aj xs ts lo (n+1)) lo 0 JL=E (i,Aw xs ts i) by rw[D M];exact Xn (yW (by simp only;rw[D t,D z];exact hl)))
     go_wp2_with fail
     refine wp_region_held_drew (S:=(λw'=>w'.cell? (J (O w.1) 0)=E (Je b off (Z xs) cap)/\w'.cell? (J (O w2.1) 0)=E (W (r xs j).s)/\w'.cell? (J (O w2.1) 1)=E (G (r xs j).k)/\w'.cell? (J (O w2.1) 2)=E (G (r xs j).l)/\w'.cell? (J (O w2.1) 3)=E (G (r xs j).sd))) Jk Q (λhHeld=>?_)
     refine Ap 0 hHeld ?_
     refine Ap 1 hHeld ?_
     refine Ap 2 hHeld ?_
     refine Ap 3 hHeld ?_
     refine Ap 4 hHeld ?_
     refine Ap 5 hHeld ?_
     refine Ap 6 hHeld ?_
     refine Ap 7 hHeld ?_
     refine Ap 8 hHeld ?_
     refine yR (rs:=[9]) Jk Js ?_
     refine yK F (λK hK=>?_) yL
     go_simp
     go_call L _ q as e w3 ⟨rfl,hb3⟩
     replace q:=S (q.trans (hb3.mono q.size))
     replace Q:=S (Ot hb3 Q)
     clear hb3 hHeld
     refine hK.out _ _ Q (λhHeld=>?_)
     clear hK
     try simp only[Act.put,ye,yg,yh]
     refine Ap 10 hHeld ?_
     refine Ap 11 hHeld ?_
     refine Ap 12 hHeld ?_
     refine Ap 13 hHeld ?_
     refine DE 14 hHeld ?_
     refine DE 15 hHeld ?_
     refine DE 16 hHeld ?_
     refine DE 17 hHeld ?_
     refine DE 18 hHeld ?_
     refine DE 19 hHeld ?_
     refine DE 20 hHeld ?_
     refine DE 21 hHeld ?_
     refine DE 22 hHeld ?_
     refine DE 23 hHeld ?_
     refine DE 24 hHeld ?_
     refine DE 25 hHeld ?_
     refine DE 26 hHeld ?_
     refine DE 27 hHeld ?_
    rotate_left
    .have u:¬ (r xs j).l<(r xs jb).l:=I;have hd:decide ((r xs j).l<(r xs jb).l)=Vt:=by rw[yZ];exact u
     have ho:((r xs j).l==(r xs jb).l)=Vp:=Ju hl
     by_cases f:AE (r xs j).k (r xs j).sd=2;focus
      have hq:(AE (r xs j).k (r xs j).sd != 2)=Vt:=Ju f
      have X:=S (show Av xs (Aj xs ts lo (n+1)) lo 0 JL=E (x1,Aw xs ts x1) by rw[D M];exact YR (by simp only;rw[D t,D z,D ha];rintro(h|⟨_,h⟩);exact u h;exact h f))
     rotate_left
     focus
      have hq:(AE (r xs j).k (r xs j).sd != 2)=Vp:=Ju f
      have X:=S (show Av xs (Aj xs ts lo (n+1)) lo 0 JL=E (i,Aw xs ts i) by rw[D M];exact Xn (yX (by simp only;rw[D t,D z,D ha];exact⟨hl,f⟩)))
     all_goals
      have h9:=S u
      clear f hl u
      go_wp2_with fail
      go_region_held (λw'=>w'.cell? (J (O w.1) 0)=E (Je b off (Z xs) cap)/\w'.cell? (J (O w2.1) 0)=E (W (r xs j).s)/\w'.cell? (J (O w2.1) 1)=E (G (r xs j).k)/\w'.cell? (J (O w2.1) 2)=E (G (r xs j).l)/\w'.cell? (J (O w2.1) 3)=E (G (r xs j).sd)) (first|(go_keep;done)|exact Q)
       (first|(go_at_call 190;refine(L _ q).mono ?_;rintro e w3 ⟨rfl,hb3⟩;replace q:=S (q.trans (hb3.mono q.size));replace Q:=S (Ot hb3 Q);clear hb3)|(go_at_call 24;refine(O7 _ _ _ _ _).mono ?_;rintro e w4 ⟨rfl,hb4⟩;replace q:=S (q.trans (hb4.mono q.size));replace Q:=S (Ot hb4 Q);clear hb4))
      all_goals go_wp2_with fail
      all_goals refine⟨⟨n+1,I,by first|(rw[D y];go_num)|(congr 1;have:=D y;omega),by rw[D X];rfl,by rw[D hA],S Q.1,q⟩,Ji⟩
    focus
     have u:¬ (r xs j).l<(r xs jb).l:=I
     have hd:decide ((r xs j).l<(r xs jb).l)=Vt:=by rw[yZ];exact u
     have ho:((r xs j).l==(r xs jb).l)=Vt:=Jq
     have X:=S (show Av xs (Aj xs ts lo (n+1)) lo 0 JL=E (x1,Aw xs ts x1) by rw[D M];exact YR (by simp only;rw[D t,D z];rintro(h|⟨h,_⟩);exact u h;omega))
     go_wp2_with fail
     refine wp_region_held_drew (S:=(λw'=>w'.cell? (J (O w.1) 0)=E (Je b off (Z xs) cap)/\w'.cell? (J (O w2.1) 0)=E (W (r xs j).s)/\w'.cell? (J (O w2.1) 1)=E (G (r xs j).k)/\w'.cell? (J (O w2.1) 2)=E (G (r xs j).l)/\w'.cell? (J (O w2.1) 3)=E (G (r xs j).sd))) Jk Q (λhHeld=>?_)
     refine Ap 0 hHeld ?_
     refine Ap 1 hHeld ?_
     refine Ap 2 hHeld ?_
     refine Ap 3 hHeld ?_
     refine Ap 4 hHeld ?_
     refine Ap 5 hHeld ?_
     refine Ap 6 hHeld ?_
     refine Ap 7 hHeld ?_
     refine Ap 8 hHeld ?_
     refine yR (rs:=[9]) Jk Js ?_
     refine yK F (λK hK=>?_) yL
     go_simp
     go_call L _ q as e w3 ⟨rfl,hb3⟩
     replace q:=S (q.trans (hb3.mono q.size))
     replace Q:=S (Ot hb3 Q)
     refine hK.out _ _ Q (λhHeld=>?_)
     try simp only[Act.put,ye,yg,yh]
     refine Ap 10 hHeld ?_
     refine Ap 11 hHeld ?_
     refine Ap 12 hHeld ?_
     refine Ap 13 hHeld ?_
     refine Ap 14 hHeld ?_
     refine Ap 15 hHeld ?_
     refine Ap 16 hHeld ?_
     refine Ap 17 hHeld ?_
     refine Ap 18 hHeld ?_
     refine Ap 19 hHeld ?_
     refine yR (rs:=[20]) Jk Js ?_
     refine yK F (λK hK=>?_) yL
     go_simp
     go_call L _ q as e w3 ⟨rfl,hb3⟩
     replace q:=S (q.trans (hb3.mono q.size))
     replace Q:=S (Ot hb3 Q)
     refine hK.out _ _ Q (λhHeld=>?_)
     try simp only[Act.put,ye,yg,yh]
     refine Ap 21 hHeld ?_
     refine Ap 22 hHeld ?_
     refine Ap 23 hHeld ?_
     refine DE 24 hHeld ?_
     refine DE 25 hHeld ?_
     refine DE 26 hHeld ?_
     refine Ap 27 hHeld ?_
    all_goals
     refine Ap 28 hHeld ?_
     refine wpAnyH_done Jk ?_ _
     all_goals go_wp2_with fail
     all_goals refine⟨⟨n+1,I,by first|(rw[D y];go_num)|(congr 1;have:=D y;omega),by rw[D X];rfl,by rw[D hA],S Q.1,q⟩,Ji⟩
  .have N:¬ ((lo+n:Nat):Int)<(hi:Int):=I;have e:n=hi-lo:=I;subst e;go_wp2;go_ret;exact⟨F,H⟩
def BE(w B b a c d gr g e f):=Au w b a g/\b<B/\Ci w c d e/\c<B/\OQ w gr f/\gr<B/\B<=O w.1
def BE.grown{g s gr:Nat}{row:Option Nat}(h:BE w B b off g s gr xs ts us)(d:w.grownBy w' row)(p:∀k,row=E k->B<=k):BE w' B b off g s gr xs ts us:=by
 obtain⟨x,j,y,a,l,m,n⟩:=h;have c:∀q,q<B->∀o,w'.cell? (J q o)=w.cell? (J q o):=λq z o=>zJ d (b:=q) I (λe=>Jy (p _ e)) o
 refine⟨Pq x d j n p,j,λi f=>?_,a,⟨ym l.1 d.size,λi f=>(c _ m _).trans (l.2 i f)⟩,m,yy n d.size⟩;obtain⟨t,u,v⟩:=y i f;exact⟨(c _ a _).trans t,(c _ a _).trans u,(c _ a _).trans v⟩
def BE.y{a c gr:Nat}(h:BE w B b off a c gr xs ts us)(d:Qb w w'):BE w' B b off a c gr xs ts us:=h.grown (zH d JL) (λk e=>by cases e)
structure TF(b:Jf)(a:JA)(us:JG):Prop where
 len:Z a<=100000
 us:us=CY b a (Z a)
 all:∀i,i<Z a->L8 b a i/\1<=(Aa a i).k/\(Aa a i).k<=7/\(Aa a i).k≠6
def FJ(w:JY)(B:Nat)(u:Value)(c:Jj)(a)(m:Nat)(x:Ending)(e:JY):=
 ∃b d ok,x=.returned (i5 #[b,i7 ok])/\Hid (Z5 e B b d)/\Hid (w.grownBy e u.ownBlock)/\Hid (b.ownBlock=u.ownBlock\/∃k,b.ownBlock=E k/\O w.1<=k)/\Z d<=Z c+m /\
  Hid ((∃T,a=E T/\ok=Vp/\d=c++nd T (Z c))\/(a=JL/\ok=Vt))
def Nx{cap d g ct gr cr a c:Nat}(n:Z xs<=1048576)(l:BE w B b off d g gr xs ts us)(f:TF xs ts us)(H:a<=c)(h:c<=Z ts){R:Int}(m:FO (Av xs (Aj xs ts a (c-a)) a 0 JL)=R):Calls Vb 138 #[b9 #[Je b off (Z xs) cap],Je d g (Z ts) ct,Ql gr (Z us) cr,G a,G c] (w.alloc (JM #[Je b off (Z xs) cap] 45)) λe w'=>e=.returned (G R)/\Below (O (w.alloc (JM #[Je b off (Z xs) cap] 45)).1) (w.alloc (JM #[Je b off (Z xs) cap] 45)) w':=by obtain⟨i,o,j,p,k,q,s⟩:=l.y (@zC w (JM #[Je b off (Z xs) cap] 45));rw[<-m];exact nR b off cap d g ct gr cr a c xs ts us _ n i I j I k f.us f.len H h f.all
def zZw(b off R gt ot ct gr cr t X xs z us B u L w)(hm:Z xs<=1048576)(hE:BE w B b off gt ot gr xs z us)(hF:TF xs z us)(g:t<X)(c:X<=Z z)(hR:FO (Av xs (Aj xs z t (X-t)) t 0 JL) = -1)(q:Z5 w B u L)(l:Z L<=90000)(N:(Aa z t).k=1\/(Aa z t).k=2){T}(hT:T=.node (Aa z t).k.toNat 0 (Aa z t).t .nil .nil)(o:1<=X-t):Calls Vb 80 #[b9 #[Je b off (Z xs) R],Je gt ot (Z z) ct,Ql gr (Z us) cr,G t,G X,u] w (FJ w B u L (E T) (X-t)):=by
 have HX:=Nx (cap:=R) (ct:=ct) (cr:=cr) hm hE hF I c hR;have m:(t:Int)<Z z:=I;have x:=S (show nd T (Z L)=[⟨(Aa z t).k,(Aa z t).t,0,0⟩] by
  rw[hT]
  rcases N with e|e<;>rw[e]<;>rfl)
 obtain⟨h1,h2,h3,h4,h5,h6,h7⟩:=hE;obtain⟨k0,k1,k2⟩:=h3 t I;have j:=@zC w (JM #[Je b off (Z xs) R] 45);have f:=S q.base;obtain⟨a0,c0,hu⟩:=Za q;have V:gt<O w.1:=I;subst hu;obtain⟨u,hu⟩:=Jx (i6 a0 (Z L) c0);have A:=S (by rw[hu]:FJ w B (i6 a0 (Z L) c0) L (E T) (X-t)=FJ w B u L (E T) (X-t));rw[D A];have P:=S hu;go_enter func80,ntmps80;go_wp2_with fail;go_call HX as e M ⟨rfl,hb1⟩;have H:=j.trans (hb1.mono j.size);have z1:O w.1+1<=O M.1:=Jz hb1.size
 replace k0:=Jc H V k0;replace k2:=Jc H V k2;have i:gt<O M.1:=I;have n:gt≠O M.1:=I;rcases N with N|N;focus
  have e4:((Aa z t).k==4)=Vt:=by rw[N];rfl
  have e2:((Aa z t).k==2)=Vt:=by rw[N];rfl
  have K:=S (q.y H)
  have s:Hid (Qb w ((M.alloc (JM #[G 1,W (Aa z t).t,G 0,G 0] 108)))):=H.alloc H.size _
  rw[N]at x
  go_wp2_with (at_builtin;refine As BB underlying38 (.tmp 65) (.tmp 67) F rfl B _ (Z L) (zO L) F ((K.y zC).y zC) (J (O M.1+1) 0) 1 1 (zO [⟨1,(Aa z t).t,0,0⟩]) F rfl (Ju (GH (M.alloc (JM #[G 1,W (Aa z t).t,G 0,G 0] 108)) (O M.1+1) ⟨1,(Aa z t).t,0,0⟩ Js)) (zf _) Jm I Jh ?_)
 rotate_left
 focus
  have e4:((Aa z t).k==4)=Vt:=by rw[N];rfl
  have e2:((Aa z t).k==2)=Vp:=by rw[N];rfl
  have K:=S (q.y H)
  have s:Hid (Qb w ((M.alloc (JM #[G 2,W (Aa z t).t,G 0,G 0] 108)))):=H.alloc H.size _
  rw[N]at x
  go_wp2_with (at_builtin;refine As BB underlying38 (.tmp 65) (.tmp 67) F rfl B _ (Z L) (zO L) F ((K.y zC).y zC) (J (O M.1+1) 0) 1 1 (zO [⟨2,(Aa z t).t,0,0⟩]) F rfl (Ju (GH (M.alloc (JM #[G 2,W (Aa z t).t,G 0,G 0] 108)) (O M.1+1) ⟨2,(Aa z t).t,0,0⟩ Js)) (zf _) Jm I Jh ?_)
 all_goals
  intro v4 w4 y Q d p
  have C:=S (show Z5 w4 B v4 (L++nd T (Z L)) by
   rw[D x]
   unfold Z5
   rw[Zp,yr]
   exact y)
  have U:=S (by rw[D P];exact ze (s.alloc s.size _) Q:w.grownBy w4 u.ownBlock)
  have a:=S (by rw[D P];exact p.imp id (λh=>⟨_,h,by have:=H.size;first|omega|(simp;omega)⟩):v4.ownBlock=u.ownBlock\/∃k,v4.ownBlock=E k/\O w.1<=k)
  go_wp2_with fail
  refine yQ (v:=i5 #[v4,i7 Vp]) (by simp[results,results80,go_sem]) F ⟨v4,L++nd T (Z L),Vp,F,C,U,a,?_,S (yW ⟨T,F,F,F⟩)⟩
  rw[D x,yr,List.length_singleton]
  omega
def bJ(c:zY (b:Int)=1)(t T a):a++nd (.node b 0 t T .nil) (Z a)=(a++nd T (Z a))++[⟨(b:Int),t,((a++nd T (Z a)).length:Int)-1,0⟩]:=by simp only[nd,tN,c,yr,ZN];simp
def zbV(t L R a):a++nd (.node 4 0 t L R) (Z a)=((a++nd L (Z a))++nd R (a++nd L (Z a)).length)++[⟨4,t,((a++nd L (Z a)).length:Int)-1,(((a++nd L (Z a))++nd R (a++nd L (Z a)).length).length:Int)-1⟩]:=by have b:zY ((4:Nat):Int)=2:=F;simp only[nd,tN,b,yr,ZN];simp
def uN(b o m R ot ct gr cr n t s p X B u L w)(hm:Z s<=1048576)(hE:BE w B b o R ot gr s p X)(hF:TF s p X)(C:n+2<=t)(i:t<=Z p)(hR:FO (Av s (Aj s p n (t-n)) n 0 JL) = -1)(q:Z5 w B u L)(a:Z L+(t-n)<=90000)(hk:(Aa p n).k=4)(r1)(hc:∀g,BE g B b o R ot gr s p X->Z5 g B u L->Calls Vb 80 #[b9 #[Je b o (Z s) m],Je R ot (Z p) ct,Ql gr (Z X) cr,G ((n:Int)+1),G ((t:Int)-1),u] g (FJ g B u L r1 (t-n-2))):Calls Vb 80 #[b9 #[Je b o (Z s) m],Je R ot (Z p) ct,Ql gr (Z X) cr,G n,G t,u] w (FJ w B u L (r1.map (λT=>.node 6 0 j6 T .nil)) (t-n)):=by
 have HX:=Nx (cap:=m) (ct:=ct) (cr:=cr) hm hE hF I i hR;have A:(n:Int)<Z p:=I;have c:=hF.len;have HE:=S hE;obtain⟨h1,h2,h3,h4,h5,h6,h7⟩:=hE;obtain⟨k0,k1,k2⟩:=h3 n I;have x:=@zC w (JM #[Je b o (Z s) m] 45);have d:=S q.base;have HC:=S hc;have f:R<O w.1:=I;have e4:((Aa p n).k==4)=Vp:=by rw[hk];rfl
 go_enter func80,ntmps80;go_wp2_with fail;go_call HX as e w1 ⟨rfl,z⟩;have H:=x.trans (z.mono x.size);have z1:O w.1+1<=O w1.1:=Jz z.size
 have t1:w1.cell? (J (O w.1) 0)=E (Je b o (Z s) m):=Jc z Jh Jg;replace k0:=Jc H f k0;have HX:=(D HC) w1 (HE.y H) (q.y H);go_wp2_with fail;go_call HX as e w2 ⟨u1,l,ok,rfl,N,M,HA2,hl2,HO2⟩;obtain⟨a1,c1,rfl⟩:=Za N;have HG:=S (ze H M);have HA:Hid ((i6 a1 (Z l) c1).ownBlock=u.ownBlock\/∃k,(i6 a1 (Z l) c1).ownBlock=E k/\O w.1<=k):=HA2.imp id (λ⟨k,h,h'⟩=>⟨k,h,I⟩);have z2:=M.size;go_wp2_with (at_builtin;refine As BB underlying38 (.tmp 44) (.tmp 49) F rfl B _ (Z l) (zO l) F (N.y zC) (J (O w2.1) 0) 1 1 (zO [⟨6,⟨#[]⟩,(Z l:Int)-1,0⟩]) F rfl (Ju (Zh w2 ⟨6,⟨#[]⟩,(Z l:Int)-1,0⟩)) (zf _) Jm I Jh ?_);intro v4 w4 Q K V y;have P:=S (show Z5 w4 B v4 (l++[⟨6,⟨#[]⟩,(Z l:Int)-1,0⟩]) by
  unfold Z5
  rw[Zp,yr]
  exact Q)
 have U:=S (zi HG (ze (@zC w2 _) K) HA);have j:=S (Ek HG HA v4.ownBlock (y.imp id (λh=>⟨_,h,by first|exact yk|simp⟩)));go_wp2_with fail;refine yQ (v:=i5 #[v4,i7 ok]) (by simp[results,results80,go_sem]) F ⟨v4,_,ok,F,P,U,j,?_,S ?_⟩
 .rw[yr,List.length_singleton];omega
 .rcases D HO2 with⟨T,rfl,rfl,rfl⟩|⟨rfl,rfl⟩
  .exact yW ⟨_,F,F,(bJ (b:=6) F j6 T L).symm⟩
  .exact yX ⟨F,F⟩
theorem zZx{a b i}(h:i<Z a):Y (a++b) i=Y a i:=by grind [Y]
theorem N9{a o b i}(h:i=Z a):Y (a++o::b) i=o:=by grind [Y]
def zZy(c b t l a s):AY c (tN b t l a s)=Ao c (b,t):=rfl
theorem Il{T}(f:ZF xs T)(d c)(j:V=d++nd T (Z d)):1<=Z V/\AY xs (Y (V++c) (Z V-1))=Ay xs T/\(3<=(Y (V++c) (Z V-1)).k->(Y (V++c) (Z V-1)).k<=5->Ax xs (Y (V++c) (Z V-1)).t ((Y (V++c) (Z V-1)).k-2)≠JL):=by
 cases T with
 |nil=>exact f.elim
 |node b o t l a=>
  have e:V=(d++nd l (Z d)++nd a (Z d+Ab l))++[tN b t l a (Z d)]:=by grind [nd]
  have m:Z V=(d++nd l (Z d)++nd a (Z d+Ab l)).length+1:=by grind
  have H:Y (V++c) (Z V-1)=tN b t l a (Z d):=by grind [zZx,nd,Ab,N9]
  rw[H];refine⟨I,zZy _ _ _ _ _ _,λg i=>?_⟩;have k:AC xs (b,t)=Vp:=by obtain⟨rfl,h⟩:=f;grind [tN]
  grind [AC,tN]
theorem SH{q:Nat}{j}(h:Ax xs t ((q:Int)-2)=E j)(b):GT xs j b=sH xs (q,t) b:=by grind [sH,zl,rt]
def zZz{T}{q:Nat}{j}(g:ZF xs T)(l:q=3\/q=5)(b:Ax xs t ((q:Int)-2)=E j)(a)(f:V=a++nd T (Z a)):GX xs (V++[⟨(q:Int),t,(Z V:Int)-1,0⟩]) (Z V)↔Cw xs q t T .nil=Vp:=by
 obtain⟨m,c,n⟩:=Il g a [⟨(q:Int),t,(Z V:Int)-1,0⟩] f;have h:Y (V++[(⟨(q:Int),t,(Z V:Int)-1,0⟩:zD)]) (Z V)=⟨(q:Int),t,(Z V:Int)-1,0⟩:=N9 F;have k:Zx (Y (V++[(⟨(q:Int),t,(Z V:Int)-1,0⟩:zD)]) (Z V)):=by rw[h];unfold Zx;simp only;omega
 rw[Sm k (by rw[h];exact b),h];simp only;have e:((Z V:Int)-1).toNat=Z V-1:=I;rw[e,c,SH b];unfold Cw;have i:zY (q:Int)=1:=by rcases l with rfl|rfl<;>rfl
 have d:q≠4:=I;simp[i,d]
def xD{L R j}(Q:ZF xs L)(x:ZF xs R)(i:Ax xs t 2=E j)(b){a}(g:V=b++nd L (Z b))(K:a=V++nd R (Z V)):GX xs (a++[⟨4,t,(Z V:Int)-1,(Z a:Int)-1⟩]) (Z a)↔Cw xs 4 t L R=Vp:=by
 obtain⟨o,c,p⟩:=Il Q b (nd R (Z V)++[⟨4,t,(Z V:Int)-1,(Z a:Int)-1⟩]) g;obtain⟨m,f,n⟩:=Il x V [⟨4,t,(Z V:Int)-1,(Z a:Int)-1⟩] K;rw[<-yD,<-K]at c;have h:Y (a++[(⟨4,t,(Z V:Int)-1,(Z a:Int)-1⟩:zD)]) (Z a)=⟨4,t,(Z V:Int)-1,(Z a:Int)-1⟩:=N9 F;have l:Zx (Y (a++[(⟨4,t,(Z V:Int)-1,(Z a:Int)-1⟩:zD)]) (Z a)):=by rw[h];unfold Zx;simp only;omega
 have H:Ax xs t ((4:Int)-2)=E j:=i;rw[Sm l (by rw[h];exact H),h];simp only;have e:((Z V:Int)-1).toNat=Z V-1:=I;have d:((Z a:Int)-1).toNat=Z a-1:=I;rw[e,d,c,f,SH (q:=4) H,SH (q:=4) H];unfold Cw;have k:zY (4:Int)=2:=F;simp[k]
def bK(b R z gt ot ct gr cr N T h L y us B u ns w)(hm:Z L<=1048576)(p:ZO L)(hE:BE w B b R gt ot gr L y us)(hF:TF L y us)(C:N<=h)(c:h<T)(V:T<=Z y)(hR:FO (Av L (Aj L y N (T-N)) N 0 JL)=(h:Int))(H:Z5 w B u ns)(a:Z ns+(T-N)<=90000)(q:zh L y h=1/\h≠N\/zh L y h=3/\h+1≠T):Calls Vb 80 #[b9 #[Je b R (Z L) z],Je gt ot (Z y) ct,Ql gr (Z us) cr,G N,G T,u] w (FJ w B u ns JL (T-N)):=by
 have HX:=Nx (cap:=z) (ct:=ct) (cr:=cr) hm hE hF I V hR;have f:(h:Int)<Z y:=I;have o:Z y<=100000:=hF.len;have s:Z us=Z y:=by rw[hF.us,IU]
 have d:(h:Int)<Z us:=I;have HE:=S hE;obtain⟨h1,h2,h3,h4,h5,h6,h7⟩:=hE;have k2:=(h3 h I).2.2;have kr:=h5.2 h I;rw[hF.us,Pp I]at kr;have X:=@zC w (JM #[Je b R (Z L) z] 45);have k:=S H.base;have Q:∀x,O w.1<=x->u.ownBlock≠E x:=λx hx e=>Jy (ji H _ e)
 have i:=S Q;have U:gt<O w.1:=I;have P:gr<O w.1:=I;have er:decide ((h:Int)<0)=Vt:=by rw[yZ];omega
 clear h1 h3 h5 hF hR Q s;rcases q with⟨q,t⟩|⟨q,t⟩;all_goals
  first|have eN:((h:Int)!=N)=Vp:=by simp;omega|have eN:((h:Int)!=T-1)=Vp:=Jq
  rw[q]at kr
  clear q t
  go_enter func80,ntmps80
  go_wp2_with fail
  refine HX.mono ?_
  clear HX
  rintro e w1 ⟨rfl,M⟩
  have K:Qb w w1:=X.trans (M.mono X.size)
  have z1:O w.1+1<=O w1.1:=Jz M.size
  have t1:w1.cell? (J (O w.1) 0)=E (Je b R (Z L) z):=Jc M Jh Jg
  replace k2:=Jc K U k2
  replace kr:=Jc K P kr
  have l:gt<O w1.1:=I
  have n:gt≠O w1.1:=I
  have g:gr<O w1.1:=I
  have A:gr≠O w1.1:=I
  have m:O w.1≠O w1.1:=I
  clear M X
  go_wp2_with fail
  first|go_region_held (λw'=>w'.cell? (J gt (ot+h*3+2))=E (W (Aa y h).t)/\w'.cell? (J gr h)=E (G 1)) (go_keep) (fail)|go_region_held (λw'=>w'.cell? (J gt (ot+h*3+2))=E (W (Aa y h).t)/\w'.cell? (J gr h)=E (G 3)) (go_keep) (fail)
  have j:=S (λob=>(K.alloc K.size ob).drew)
  go_wp2_with fail
  refine yQ (v:=i5 #[u,i7 Vt]) (by simp[results,results80,go_sem]) F ⟨u,ns,Vt,F,S (H.y (j _)),S (zH (j _) _),S (yW F),I,S (yX ⟨F,F⟩)⟩
theorem bL(b off cap gt ot ct gr cr lo hi H xs ts us B u ns w)(hm:Z xs<=1048576)(hb:ZO xs)(hE:BE w B b off gt ot gr xs ts us)(hF:TF xs ts us)(hV:lo<=H)(hU:H<hi)(hH:hi<=Z ts)(hR:FO (Av xs (Aj xs ts lo (hi-lo)) lo 0 JL)=(H:Int))(P:Z5 w B u ns)(hM:Z ns+(hi-lo)<=90000)(K:Nat)(A t)(hK:(K:Int)=3/\zh xs ts H=1/\H=lo/\(lo:Int)+1=A/\(hi:Int)=t\/(K:Int)=5/\zh xs ts H=3/\H+1=hi/\(lo:Int)=A/\(H:Int)=t)(r1)(ha:∀T,r1=E T->ZF xs T)(hc:∀qd,BE qd B b off gt ot gr xs ts us->Z5 qd B u ns->Calls Vb 80 #[.agg #[Je b off (Z xs) cap],Je gt ot (Z ts) ct,Ql gr (Z us) cr,G A,G t,u] qd (FJ qd B u ns r1 (hi-lo-1)))(res:Option ET)(l:res=(match r1 with
   |none=>JL
   |some T=>if Cw xs K (Aa ts H).t T .nil then E (.node K 0 (Aa ts H).t T .nil) else JL)):Calls Vb 80 #[b9 #[Je b off (Z xs) cap],Je gt ot (Z ts) ct,Ql gr (Z us) cr,G lo,G hi,u] w (FJ w B u ns res (hi-lo)):=by
 have HX:=Nx (cap:=cap) (ct:=ct) (cr:=cr) hm hE hF I hH hR;have hY:(H:Int)<Z ts:=I;have Ha:Z ts<=100000:=hF.len;have h9:Z us=Z ts:=by rw[hF.us,IU]
 have hN:(H:Int)<Z us:=I;have HE:=S hE;obtain⟨h1,h2,h3,h4,h5,h6,h7⟩:=hE;have k2:=(h3 H I).2.2;have kr:=h5.2 H I;rw[hF.us,Pp I]at kr;have s:=@zC w (JM #[Je b off (Z xs) cap] 45);have hp:=S P.base;have m:∀x,O w.1<=x->u.ownBlock≠E x:=λx hx e=>Jy (ji P _ e)
 have hB:=S m;have h8:gt<O w.1:=I;have hA:gr<O w.1:=I;have er:decide ((H:Int)<0)=Vt:=by rw[yZ];omega
 have HC:=S hc;have hh:=S ha;have p:=S l;have hq:K=3\/K=5:=I;have o:=S (by rcases hq with rfl|rfl<;>rfl:zY (K:Int)=1);rcases hK with⟨hK,z,hk,rfl,rfl⟩|⟨hK,z,hk,rfl,rfl⟩;all_goals
  first|have eN:((H:Int)!=lo)=Vt:=by simp;omega|have eN:((H:Int)!=hi-1)=Vt:=Jq
  rw[z]at kr
  obtain⟨j,hn⟩:∃j,Ax xs (Aa ts H).t ((K:Int)-2)=E j:=by
   rw[hK];rcases(hF.all H I).1 with⟨_,_,_,j,h,_⟩|⟨_,h0,_⟩
   .rw[z]at h;exact⟨j,h⟩
   .omega
  have hd:=S hn
  have hJ:=S hK
  have e4:((K:Int)==4)=Vt:=Jq
  first|(have e3:((K:Int)==3)=Vp:=Jq)|(have e3:((K:Int)==3)=Vt:=Jq)
  first|(have e5:((K:Int)==5)=Vp:=Jq)|(have e5:((K:Int)==5)=Vt:=Jq)
  clear h1 h3 h5 hF hR z m h9 hc ha l hn hk hK
  go_enter func80,ntmps80
  go_wp2_with fail
  refine HX.mono ?_
  clear HX
  rintro e w1 ⟨rfl,hb1⟩
  have V:Qb w w1:=s.trans (hb1.mono s.size)
  have z1:O w.1+1<=O w1.1:=Jz hb1.size
  have t1:w1.cell? (J (O w.1) 0)=E (Je b off (Z xs) cap):=Jc hb1 Jh Jg
  replace k2:=Jc V h8 k2
  replace kr:=Jc V hA kr
  have hQ:gt<O w1.1:=I
  have hZ:gt≠O w1.1:=I
  have hO:gr<O w1.1:=I
  have hS:gr≠O w1.1:=I
  have hX:O w.1≠O w1.1:=I
  clear hb1 s
  go_wp2_with fail
  first|go_region_held (λw'=>w'.cell? (J gt (ot+H*3+2))=E (W (Aa ts H).t)/\w'.cell? (J gr H)=E (G 1)) (go_keep) (fail)|go_region_held (λw'=>w'.cell? (J gt (ot+H*3+2))=E (W (Aa ts H).t)/\w'.cell? (J gr H)=E (G 3)) (go_keep) (fail)
  simp only[show IntKind.i64.wrap 3=3 from rfl,show IntKind.i64.wrap 5=5 from rfl]
  obtain⟨W2,a⟩:=Jx ((w1.alloc (JM #[G K,W (Aa ts H).t,G 0,G 0] 108)).drew)
  have qc:Qb w1 W2:=by rw[a];exact(zC).drew
  have C:Qb w W2:=V.trans (qc.mono V.size)
  have c:=S (show Zb W2 (O w1.1) ⟨K,(Aa ts H).t,0,0⟩ by
   rw[a]
   exact Zb.y (w:=w1.alloc (JM #[G K,W (Aa ts H).t,G 0,G 0] 108)) ⟨Jg,Jg,Jg,Jg,Jg,Jg⟩ (yN).drew)
  have t2:W2.cell? (J (O w.1) 0)=E (Je b off (Z xs) cap):=Jc qc Jh t1
  have z2:O w1.1+1<=O W2.1:=by rw[a];show _<=O (w1.alloc _).1;simp
  obtain⟨n0,n1,n2,n3,_,_⟩:=D c
  simp only at n0 n1 n2 n3
  have HX:=(D HC) W2 (HE.y C) (P.y C)
  rw[D hJ]at a
  rw[<-a]
  clear qc k2 kr t1 a HC P
  go_wp2_with fail
  refine HX.mono ?_
  clear HX n0 n1 n2 n3
  rintro e w3 ⟨u1,Q,ok,rfl,HR3,HG3,HA3,hl3,HO3⟩
  obtain⟨a1,c1,rfl⟩:=Za HR3
  have HG:=S (ze C HG3)
  have HA:Hid ((i6 a1 (Z Q) c1).ownBlock=u.ownBlock\/∃k,(i6 a1 (Z Q) c1).ownBlock=E k/\O w.1<=k):=HA3.imp id (λ⟨k,h,h'⟩=>⟨k,h,I⟩)
  have hI:=S (show(i6 a1 (Z Q) c1).ownBlock≠E (O w1.1) from λe=>by
   rcases D HA3 with h|⟨k,h,h'⟩
   .exact hB (O w1.1) I (h.symm.trans e)
   .rw[h]at e;injection e with e;omega)
  have hG:=S (show(i6 a1 (Z Q) c1).ownBlock≠E (O w.1) from λe=>by
   rcases D HA3 with h|⟨k,h,h'⟩
   .exact hB (O w.1) I (h.symm.trans e)
   .rw[h]at e;injection e with e;omega)
  replace c:=S (c.grown HG3 (hB _ I))
  have t3:w3.cell? (J (O w.1) 0)=E (Je b off (Z xs) cap):=(zJ HG3 (b:=O w.1) I (hB _ I) 0).trans t2
  have z3:=HG3.size
  obtain⟨n0,n1,n2,n3,n4,n5⟩:=D c
  simp only at n0 n1 n2 n3
  clear HG3 HA3 t2
  rcases D HO3 with⟨T,U,rfl,qg⟩|⟨U,rfl⟩
  case inr=>have hj:=S (by rw[D p,U]:res=JL);clear U HO3;go_wp2_with fail;refine yQ (v:=i5 #[.slice a1 (Z Q) c1,i7 Vt]) (by simp[results,results80,go_sem]) F ⟨_,Q,Vt,F,HR3,HG,HA,I,S (yX ⟨hj,F⟩)⟩
  have HT:=S (hh T U)
  have R:=S qg
  have hW:1<=Z Q:=(Il HT ns [] qg).1
  have ht:=S (by rw[D p,U]:res=if Cw xs K (Aa ts H).t T .nil then E (.node K 0 (Aa ts H).t T .nil) else JL)
  clear U qg HO3 p hh
  have HM:=S (c.set2 ((Z Q:Int)-1))
  have hf:=S (HR3.other (g:=O w1.1) (j:=2) (G ((Z Q:Int)-1)) hI)
  have t4:(w3.setCell (J (O w1.1) 2) (G ((Z Q:Int)-1))).cell? (J (O w.1) 0)=E (Je b off (Z xs) cap):=(yj w3 (J (O w1.1) 2) (J (O w.1) 0) (G ((Z Q:Int)-1)) (λx=>by injection x with x1;omega)).trans t3
  have L:=S (zi HG (⟨F,F,F,Jt,λi _ hi=>jh _ _ _ _ (λe=>hi (by rw[e]))⟩:w3.grownBy (w3.setCell (J (O w1.1) 2) (G ((Z Q:Int)-1))) (E (O w1.1))) (yX ⟨_,F,I⟩))
  obtain⟨m0,m1,m2,m3,_,_⟩:=D HM
  simp only at m0 m1 m2 m3
  clear HG HR3 n0 n1 n3 n5 c t3
  go_wp2_with (at_builtin;refine As BB underlying38 (.tmp 152) (.tmp 154) F rfl B _ (Z Q) (zO Q) F (hf.y zC) (J (O w3.1) 0) 1 1 (zO [⟨K,(Aa ts H).t,(Z Q:Int)-1,0⟩]) F rfl (Ju (GH (w3.setCell (J (O w1.1) 2) (G ((Z Q:Int)-1))) (O w3.1) ⟨K,(Aa ts H).t,(Z Q:Int)-1,0⟩ Jt)) (zf _) Jm I (by first|omega|(have:=L.size;simp at this ⊢;omega)) ?_)
  intro v4 w4 d qa qf M
  obtain⟨X,y⟩:=Jx (Q++[(⟨K,(Aa ts H).t,(Z Q:Int)-1,0⟩:zD)])
  have hw:Z X=Z Q+1:=by rw[y];simp
  have ho:=S (show Z5 w4 B v4 X by
   rw[y]
   unfold Z5
   rw[Zp,yr]
   exact d)
  have n:=S (ze (@zC (w3.setCell (J (O w1.1) 2) (G ((Z Q:Int)-1))) _) qa)
  have hg:=S (zi L n HA)
  have hr:=S (Ek L HA v4.ownBlock (M.imp id (λh=>⟨_,h,by first|exact yk|simp⟩)))
  have t5:w4.cell? (J (O w.1) 0)=E (Je b off (Z xs) cap):=(zJ n (b:=O w.1) (jl t4) hG 0).trans t4
  have hz:=S (HE.grown hg hp)
  obtain⟨g4,c4,rfl,hP,qb⟩:=Nm ho I
  have f:=D hz
  have qe:Y X (Z Q)=⟨K,(Aa ts H).t,(Z Q:Int)-1,0⟩:=by rw[y];exact N9 F
  have N:=Il HT ns [⟨K,(Aa ts H).t,(Z Q:Int)-1,0⟩] R
  rw[<-y]at N
  have HX:=VS b off cap g4 0 c4 (Z Q) xs X w4 hm I f.1 hb (by have:=f.2.2.2.2.2.2;have:=f.2.1;omega) qb.2.2 qb.1 I (by rw[qe];unfold Zx;simp only;omega) j (by rw[qe];exact hd) (Z Q-1) 0 (by rw[qe];simp only;omega) (by rw[qe];rfl) I I (by rw[qe];exact yW o) N.2.2 (λh=>by rw[qe]at h;have:=D o;simp only at h;omega)
  have hl:=zZz (q:=K) HT I hd ns R
  have e6:((Z Q:Nat):Int)=(Z X:Int)-1:=I
  have hy:=S (by rw[y];exact hl:GX xs X (Z Q)↔Cw xs K (Aa ts H).t T .nil=Vp)
  have hs:=S (by rw[y,bJ (b:=K) (D o),<-D R]:X=ns++nd (.node K 0 (Aa ts H).t T .nil) (Z ns))
  rw[e6]at HX
  have hu:Z X<=Z ns+(hi-lo):=I
  clear d qa qf M L n y qe N f qb m0 m1 m2 m3 HM hl e6 hw
  go_wp2_with fail
  refine HX.mono ?_
  clear HX
  rintro e w5 ⟨⟨v,rfl,hv⟩,hb5⟩
  have hD:=S (zi hg (zH hb5 u.ownBlock) (yW F))
  have hC:=S (ho.y hb5)
  have HV:=S hv
  clear hb5 hv
  go_wp2_with fail
  refine yQ (v:=i5 #[Ql g4 (Z X) c4,i7 v]) (by simp[results,results80,go_sem]) F ⟨_,X,v,F,hC,hD,hr,hu,S ?_⟩
  have he:v=Vp↔Cw xs K (Aa ts H).t T .nil=Vp:=HV.trans hy
  rw[D ht]
  cases v with
  |true=>rw[yU (he.1 rfl)];exact yW ⟨_,F,F,hs⟩
  |false=>rw[yS (λh=>jq (he.2 h))];exact yX ⟨F,F⟩
def cG(b:Jf)(t:JZ)(T:ET)(a:Option ET):Option ET:=match a with
 |none=>JL
 |some T2=>if Cw b 4 t T T2 then E (.node 4 0 t T T2) else JL
theorem zbW(b off cap gt ot ct gr cr lo hi H xs ts us B u ns w)(hm:Z xs<=1048576)(hw:ZO xs)(hE:BE w B b off gt ot gr xs ts us)(hF:TF xs ts us)(Hn:lo<=H)(Hm:H<hi)(Hb:hi<=Z ts)(hR:FO (Av xs (Aj xs ts lo (hi-lo)) lo 0 JL)=(H:Int))(qb:Z5 w B u ns)(Hd:Z ns+(hi-lo)<=90000)(qd:zh xs ts H=2)(r1 r2)(ht:∀T,r1=E T->ZF xs T)(o:∀T,r2=E T->ZF xs T)(hc:∀qe,BE qe B b off gt ot gr xs ts us->Z5 qe B u ns->Calls Vb 80 #[.agg #[Je b off (Z xs) cap],Je gt ot (Z ts) ct,Ql gr (Z us) cr,G lo,G H,u] qe (FJ qe B u ns r1 (H-lo)))(ho:∀qe u1 vs1,BE qe B b off gt ot gr xs ts us->Z5 qe B u1 vs1->Z vs1+(hi-H-1)<=90000->Calls Vb 80 #[.agg #[Je b off (Z xs) cap],Je gt ot (Z ts) ct,Ql gr (Z us) cr,G ((H:Int)+1),G hi,u1] qe (FJ qe B u1 vs1 r2 (hi-H-1)))(res:Option ET)(L:res=(match r1 with
   |none=>JL
   |some T=>cG xs (Aa ts H).t T r2)):Calls Vb 80 #[b9 #[Je b off (Z xs) cap],Je gt ot (Z ts) ct,Ql gr (Z us) cr,G lo,G hi,u] w (FJ w B u ns res (hi-lo)):=by
 have HX:=Nx (cap:=cap) (ct:=ct) (cr:=cr) hm hE hF I Hb hR;have Hq:(H:Int)<Z ts:=I;have Hs:=hF.len;have hY:Z us=Z ts:=by rw[hF.us,IU]
 have Hf:(H:Int)<Z us:=I;have HE:=S hE;obtain⟨h1,h2,h3,h4,h5,h6,h7⟩:=hE;have k2:=(h3 H I).2.2;have kr:=h5.2 H I;rw[hF.us,Pp I,qd]at kr;have hh:=@zC w (JM #[Je b off (Z xs) cap] 45);have hp:=S qb.base;have n:∀x,O w.1<=x->u.ownBlock≠E x:=λx hx e=>Jy (ji qb _ e)
 have l:=S n;have hV:gt<O w.1:=I;have hZ:gr<O w.1:=I;have er:decide ((H:Int)<0)=Vt:=by rw[yZ];omega
 have HC:=S hc;have h8:=S ho;have hA:=S ht;have M:=S o;have f:=S L;obtain⟨j,hG⟩:∃j,Ax xs (Aa ts H).t 2=E j:=by
  rcases(hF.all H I).1 with⟨_,_,_,j,h,_⟩|⟨_,h0,_⟩
  .rw[qd]at h;exact⟨j,h⟩
  .omega
 have hy:=S hG;clear h1 h3 h5 hF hR qd n hY hc ho ht o L hG;go_enter func80,ntmps80;go_wp2_with fail;refine HX.mono ?_;clear HX;rintro e w1 ⟨rfl,hb1⟩;have P:=hh.trans (hb1.mono hh.size);have z1:O w.1+1<=O w1.1:=Jz hb1.size
 have t1:w1.cell? (J (O w.1) 0)=E (Je b off (Z xs) cap):=Jc hb1 Jh Jg;replace k2:=Jc P hV k2;replace kr:=Jc P hZ kr;have Hj:gt<O w1.1:=I;have Hr:gt≠O w1.1:=I;have Hh:gr<O w1.1:=I;have Hl:gr≠O w1.1:=I;have Hp:O w.1≠O w1.1:=I;clear hb1 hh;go_wp2_with fail;go_region_held (λw'=>w'.cell? (J gt (ot+H*3+2))=E (W (Aa ts H).t)/\w'.cell? (J gr H)=E (G 2)) (go_keep) (fail);have hI:IntKind.i64.wrap 4=4:=by rfl
 rw[hI];clear hI;obtain⟨W2,C⟩:=Jx ((w1.alloc (JM #[G 4,W (Aa ts H).t,G 0,G 0] 108)).drew);have hj:Below (O w1.1) w1 W2:=by rw[C];exact(zC).drew
 have d:=P.trans (hj.mono P.size);have A:=S (show Zb W2 (O w1.1) ⟨4,(Aa ts H).t,0,0⟩ by
  rw[C]
  exact Zb.y (w:=w1.alloc (JM #[G 4,W (Aa ts H).t,G 0,G 0] 108)) ⟨Jg,Jg,Jg,Jg,Jg,Jg⟩ (yN).drew)
 have t2:W2.cell? (J (O w.1) 0)=E (Je b off (Z xs) cap):=Jc hj Jh t1;have z2:O w1.1+1<=O W2.1:=by rw[C];show _<=O (w1.alloc _).1;simp
 obtain⟨n0,n1,n2,n3,_,_⟩:=D A;simp only at n0 n1 n2 n3;have HX:=(D HC) W2 (HE.y d) (qb.y d);rw[<-C];clear hj k2 kr t1 C HC qb;go_wp2_with fail;refine HX.mono ?_;clear HX n0 n1 n2 n3;rintro e w3 ⟨u1,vs1,ok,rfl,HR3,HG3,HA3,hl3,HO3⟩;obtain⟨a1,c1,hq⟩:=Za HR3;have HG:=S (ze d HG3);have HA:Hid (u1.ownBlock=u.ownBlock\/∃k,u1.ownBlock=E k/\O w.1<=k):=HA3.imp id (λ⟨k,h,h'⟩=>⟨k,h,I⟩);have hk:=S (show u1.ownBlock≠E (O w1.1) from λe=>by
  rcases D HA3 with h|⟨k,h,h'⟩
  .exact l (O w1.1) I (h.symm.trans e)
  .rw[h]at e;injection e with e;omega)
 have hC:=S (show u1.ownBlock≠E (O w.1) from λe=>by
  rcases D HA3 with h|⟨k,h,h'⟩
  .exact l (O w.1) I (h.symm.trans e)
  .rw[h]at e;injection e with e;omega)
 have He:=S HR3.base;replace A:=S (A.grown HG3 (l _ I));have t3:=(zJ HG3 (b:=O w.1) I (l _ I) 0).trans t2;have z3:=HG3.size;obtain⟨n0,n1,n2,n3,n4,n5⟩:=D A;simp only at n0 n1 n2 n3;clear HG3 HA3 t2;rcases D HO3 with⟨T,U,rfl,he⟩|⟨U,rfl⟩;case inr=>
  have m:=S (by rw[D f,U]:res=JL);clear U HO3 hq;go_wp2_with fail;refine yQ (v:=i5 #[u1,i7 Vt]) (by simp[results,results80,go_sem]) F ⟨_,vs1,Vt,F,HR3,HG,HA,I,S (yX ⟨m,F⟩)⟩
 have HT:=S (hA T U);have hg:=S he;have Ho:=(Il HT ns [] he).1;have s:=S (by rw[D f,U]:res=cG xs (Aa ts H).t T r2);clear U he HO3 f hA;obtain⟨W3,y⟩:=Jx (w3.setCell (J (O w1.1) 2) (G ((Z vs1:Int)-1)));have HM:=S (by rw[y];exact A.set2 ((Z vs1:Int)-1):Zb W3 (O w1.1) ⟨4,(Aa ts H).t,(Z vs1:Int)-1,0⟩);have qc:=S (by rw[y];exact HR3.other (g:=O w1.1) (j:=2) (G ((Z vs1:Int)-1)) hk:Z5 W3 B u1 vs1);have t4:W3.cell? (J (O w.1) 0)=E (Je b off (Z xs) cap):=by rw[y];exact(yj w3 (J (O w1.1) 2) (J (O w.1) 0) (G ((Z vs1:Int)-1)) (λx=>by injection x with x1;omega)).trans t3
 have qa:=S (by rw[y];exact zi HG (⟨F,F,F,Jt,λi _ hi=>jh _ _ _ _ (λe=>hi (by rw[e]))⟩:w3.grownBy (w3.setCell (J (O w1.1) 2) (G ((Z vs1:Int)-1))) (E (O w1.1))) (yX ⟨_,F,I⟩):w.grownBy W3 u.ownBlock);have zW:O W3.1=O w3.1:=by rw[y];simp[World.setCell]
 have Hg:=S zW;have z3':O w1.1+1<=O W3.1:=I;clear zW;obtain⟨m0,m1,m2,m3,m4,m5⟩:=D HM;simp only at m0 m1 m2 m3;have HX:=(D h8) W3 u1 vs1 (HE.grown qa hp) qc I;subst hq;have hW:=S y;have Hc:Z vs1<=90000:=I;clear HG HR3 n1 n3 n5 A h8;clear y;go_wp2_with fail;rw[<-D hW];go_wp2_with fail;refine HX.mono ?_;clear HX n0 n2 n4 t3 m0 m1 m2 m3 m4 m5;rintro e w5 ⟨u2,K,ok2,rfl,HR5,HG5,HA5,hl5,HO5⟩;obtain⟨a2,c2,rfl⟩:=Za HR5;have qh:=S (zi qa HG5 HA);have hd:=S (Ek qa HA (i6 a2 (Z K) c2).ownBlock HA5);have hu:=S (show(i6 a2 (Z K) c2).ownBlock≠E (O w1.1) from λe=>by
  rcases D HA5 with h|⟨k,h,h'⟩
  .exact hk (h.symm.trans e)
  .rw[h]at e;injection e with e;omega)
 have hr:=S (show(i6 a2 (Z K) c2).ownBlock≠E (O w.1) from λe=>by
  rcases D HA5 with h|⟨k,h,h'⟩
  .exact hC (h.symm.trans e)
  .rw[h]at e;injection e with e;omega)
 have qg:=S (HM.grown HG5 hk);have t5:=(zJ HG5 (b:=O w.1) (jl t4) hC 0).trans t4;have z5:=HG5.size;obtain⟨n0,n1,n2,n3,n4,n5⟩:=D qg;simp only at n0 n1 n2 n3;clear HG5 HA5 t4 HM qa HA qc;rcases D HO5 with⟨T2,a,rfl,c⟩|⟨a,rfl⟩;case inr=>
  have m:=S (by rw[D s,a];rfl:res=JL);clear a HO5;go_wp2_with fail;refine yQ (v:=i5 #[.slice a2 (Z K) c2,i7 Vt]) (by simp[results,results80,go_sem]) F ⟨_,K,Vt,F,HR5,qh,hd,I,S (yX ⟨m,F⟩)⟩
 have hl:=S (M T2 a);have X:=S c;have Hk:=(Il hl vs1 [] c).1;have hO:=S (by rw[D s,a];rfl:res=if Cw xs 4 (Aa ts H).t T T2 then E (.node 4 0 (Aa ts H).t T T2) else JL);clear a c HO5 s M;have hB:=S (qg.set3 ((Z K:Int)-1));have hs:=S (HR5.other (g:=O w1.1) (j:=3) (G ((Z K:Int)-1)) hu);have t6:(w5.setCell (J (O w1.1) 3) (G ((Z K:Int)-1))).cell? (J (O w.1) 0)=E (Je b off (Z xs) cap):=(yj w5 (J (O w1.1) 3) (J (O w.1) 0) (G ((Z K:Int)-1)) (λx=>by injection x with x1;omega)).trans t5;have z:=S (zi qh (⟨F,F,F,Jt,λi _ hi=>jh _ _ _ _ (λe=>hi (by rw[e]))⟩:w5.grownBy (w5.setCell (J (O w1.1) 3) (G ((Z K:Int)-1))) (E (O w1.1))) (yX ⟨_,F,I⟩));obtain⟨m0,m1,m2,m3,_,_⟩:=D hB;simp only at m0 m1 m2 m3;clear qh HR5 n0 n1 n2 n4 qg t5;go_wp2_with (at_builtin;refine As BB underlying38 (.tmp 152) (.tmp 154) F rfl B _ (Z K) (zO K) F (hs.y zC) (J (O w5.1) 0) 1 1 (zO [⟨4,(Aa ts H).t,(Z vs1:Int)-1,(Z K:Int)-1⟩]) F rfl (Ju (GH (w5.setCell (J (O w1.1) 3) (G ((Z K:Int)-1))) (O w5.1) ⟨4,(Aa ts H).t,(Z vs1:Int)-1,(Z K:Int)-1⟩ Jt)) (zf _) Jm I (by first|omega|(have:=z.size;simp at this ⊢;omega)) ?_);intro v4 w6 p qf hn N;obtain⟨Q,q⟩:=Jx (K++[(⟨4,(Aa ts H).t,(Z vs1:Int)-1,(Z K:Int)-1⟩:zD)]);have hQ:Z Q=Z K+1:=by rw[q];simp
 have hJ:=S (show Z5 w6 B v4 Q by
  rw[q]
  unfold Z5
  rw[Zp,yr]
  exact p)
 have hf:=S (ze (@zC (w5.setCell (J (O w1.1) 3) (G ((Z K:Int)-1))) _) qf);have h9:=S (zi z hf hd);have hN:=S (Ek z hd v4.ownBlock (N.imp id (λh=>⟨_,h,by first|exact yk|simp⟩)));have t7:=(zJ hf (b:=O w.1) (jl t6) hr 0).trans t6;have hU:=S (HE.grown h9 hp);obtain⟨g4,c4,rfl,Hi,hb⟩:=Nm hJ I;have t:=D hU;have V:Y Q (Z K)=⟨4,(Aa ts H).t,(Z vs1:Int)-1,(Z K:Int)-1⟩:=by rw[q];exact N9 F
 have R:=Il HT ns (nd T2 (Z vs1)++[⟨4,(Aa ts H).t,(Z vs1:Int)-1,(Z K:Int)-1⟩]) hg;rw[<-yD,<-D X,<-q]at R;have ha:=Il hl vs1 [⟨4,(Aa ts H).t,(Z vs1:Int)-1,(Z K:Int)-1⟩] X;rw[<-q]at ha;have hK:Z vs1<=Z K:=by rw[D X,yr];omega
 have HX:=VS b off cap g4 0 c4 (Z K) xs Q w6 hm I t.1 hw (by have:=t.2.2.2.2.2.2;have:=t.2.1;omega) hb.2.2 hb.1 I (by rw[V];unfold Zx;simp only;omega) j (by rw[V];exact hy) (Z vs1-1) (Z K-1) (by rw[V];simp only;omega) (by rw[V];simp only;omega) I I (by rw[V];exact yX F) R.2.2 (λ_=>ha.2.2);have hD:=xD HT hl hy ns hg X;have e6:((Z K:Nat):Int)=(Z Q:Int)-1:=I;have hS:=S (by rw[q];exact hD:GX xs Q (Z K)↔Cw xs 4 (Aa ts H).t T T2=Vp);have hP:=S (by rw[q,zbV,<-D hg,<-D X]:Q=ns++nd (.node 4 0 (Aa ts H).t T T2) (Z ns));rw[e6]at HX;have hH:Z Q<=Z ns+(hi-lo):=I;clear p qf hn N z hf q V R ha t hb m0 m1 m2 m3 hB hD e6 hQ;go_wp2_with fail;refine HX.mono ?_;clear HX;rintro e w7 ⟨⟨v,rfl,hv⟩,hb7⟩;have hX:=S (zi h9 (zH hb7 u.ownBlock) (yW F));have hM:=S (hJ.y hb7);have HV:=S hv;clear hb7 hv;go_wp2_with fail;refine yQ (v:=i5 #[Ql g4 (Z Q) c4,i7 v]) (by simp[results,results80,go_sem]) F ⟨_,Q,v,F,hM,hX,hN,hH,S ?_⟩;have hz:=HV.trans hS;rw[D hO];cases v with
 |true=>rw[yU (hz.1 rfl)];exact yW ⟨_,F,F,hP⟩
 |false=>rw[yS (λh=>jq (hz.2 h))];exact yX ⟨F,F⟩
def SI{i}(h:L8 xs ts i)(l:1<=(Aa ts i).k/\(Aa ts i).k<=7/\(Aa ts i).k≠6):((Aw xs ts i).1=1\/(Aw xs ts i).1=2->((Aa ts i).k=1\/(Aa ts i).k=2)/\Aw xs ts i=((Aa ts i).k.toNat,(Aa ts i).t)) /\
  ((Aw xs ts i).1=6->(Aa ts i).k=4) /\
  (3<=(Aw xs ts i).1->(Aw xs ts i).1<=5->((Aw xs ts i).1:Int)=zh xs ts i+2/\(Aw xs ts i).2=(Aa ts i).t):=by
 rcases h with⟨d,m,e,_⟩|⟨d,k,j⟩
 .rw[e];simp only;exact⟨λh=>I,λh=>I,λ_ _=>⟨I,trivial⟩⟩
 .refine⟨λh=>?_,λh=>?_,λf g=>yV ⟨f,g⟩ j⟩
  .unfold Aw at h ⊢;rw[yS d]at h ⊢;by_cases a:(Aa ts i).k=4
   .rw[yU a]at h;exfalso;revert h;decide
   .rw[yS a]at h ⊢;by_cases b:(Aa ts i).k=5
    .rw[yU b]at h;exfalso;revert h;decide
    .rw[yS b]at h ⊢;by_cases c:(Aa ts i).k=7
     .rw[yU c]at h;exfalso;revert h;decide
     .rw[yS c];exact⟨I,F⟩
  .unfold Aw at h;rw[yS d]at h;by_cases a:(Aa ts i).k=4
   .exact a
   .rw[yS a]at h;by_cases b:(Aa ts i).k=5
    .rw[yU b]at h;exfalso;revert h;decide
    .rw[yS b]at h;by_cases c:(Aa ts i).k=7
     .rw[yU c]at h;exfalso;revert h;decide
     .rw[yS c]at h;simp only at h;omega
theorem Mo{b off cap gt ot ct gr cr N ts us B}(hv:zM N 0)(hm:Z N<=1048576)(K:ZO N)(hF:TF N ts us):∀(n M hi:Nat)(u:Value)(ns:Jj)(w:JY),M<=hi->hi<=Z ts->hi-M<=n->BW N (Aj N ts M (hi-M))->BE w B b off gt ot gr N ts us->Z5 w B u ns->Z ns+(hi-M)<=90000 ->
   Calls Vb 80 #[b9 #[Je b off (Z N) cap],Je gt ot (Z ts) ct,Ql gr (Z us) cr,G M,G hi,u] w (FJ w B u ns (A8 N n (Aj N ts M (hi-M))) (hi-M))
 |0,M,hi,u,ns,w,hlo,hhi,hn,hs,hE,hrow,hlen=>by have:hi-M=0:=I;rw[this]at hs;exact yV F (BW.ne hs)
 |n+1,M,hi,u,ns,w,hlo,hhi,hn,hs,hE,hrow,hlen=>by
  have ssl:=DI N ts M (hi-M);cases hrt:Av N (Aj N ts M (hi-M)) 0 0 JL with
  |none=>
   have hR:FO (Av N (Aj N ts M (hi-M)) M 0 JL) = -1:=by rw[aO,hrt];rfl
   rcases WJ hs hrt with⟨s,a,H⟩|⟨q,H,hq⟩
   .have h1:hi-M=1:=by rw[H]at ssl;simpa using ssl.symm
    have o:s=Aw N ts M:=by have:=H;rw[h1]at this;simp only[Aj,List.range'_one,jC,List.map_nil,List.cons.injEq,and_true]at this;exact this.symm
    rw[o]at a;obtain⟨hk,he⟩:=(SI (hF.all M I).1 (hF.all M I).2).1 a;have hb:A8 N (n+1) (Aj N ts M (hi-M))=E (.node (Aa ts M).k.toNat 0 (Aa ts M).t .nil .nil):=by simp only[A8];rw[hrt,H,o,he];simp only;rw[yS I]
    rw[hb];exact zZw b off cap gt ot ct gr cr M hi N ts us B u ns w hm hE hF I hhi hR hrow I hk F I
   .have l:hi-M=Z q+2:=by rw[H]at ssl;simp at ssl;omega
    have o:=H;rw[l,PH]at o;injection o with hsg1 hsg2;have U:=hsg2;rw[Lt]at U;have i:=(List.append_inj' U Js).1;have hk:=(SI (hF.all M I).1 (hF.all M I).2).2.1 (by rw[hsg1]);have e0:hi-1-(M+1)=Z q:=I;have hb:A8 N (n+1) (Aj N ts M (hi-M))=(A8 N n q).map (λT=>.node 6 0 j6 T .nil):=by simp only[A8];rw[hrt,H];simp
    rw[hb];refine uN b off cap gt ot ct gr cr M hi N ts us B u ns w hm hE hF I hhi hR hrow hlen hk (A8 N n q) (λt hW hr=>?_);have h:=Mo hv hm K hF n (M+1) (hi-1) u ns t (cap:=cap) (ct:=ct) (cr:=cr) I I I (by rw[e0,i];exact hq) hW hr I;rw[e0,i,(I:((M+1:Nat):Int)=(M:Int)+1),(I:((hi-1:Nat):Int)=(hi:Int)-1)]at h;rw[(I:hi-M-2=Z q)];exact h
  |some x=>
   obtain⟨L,R,H,P,m,z⟩:=WK hs hrt;obtain⟨g1,g2,g3,g4⟩:=Yw H;rw[<-P]at g1 g2 g3 g4;have hR:FO (Av N (Aj N ts M (hi-M)) M 0 JL)=((M+x.1:Nat):Int):=by rw[aO,hrt];show((x.1+M:Nat):Int)=_;rw[Nat.add_comm]
   have d:M+x.1<Z ts:=I;have C:3<=x.2.1/\x.2.1<=5:=by rcases z with⟨h,_⟩|⟨h,_⟩|⟨h,_⟩<;>omega
   obtain⟨c,v⟩:=(SI (hF.all (M+x.1) d).1 (hF.all (M+x.1) d).2).2.2 (by rw[<-g1];exact C.1) (by rw[<-g1];exact C.2);rw[<-g1]at c v;have p:A8 N (n+1) (Aj N ts M (hi-M))=(if(x.2.1=3/\x.1≠0)\/(x.2.1=5/\x.1+1≠hi-M) then JL
     else if x.2.1=3 then(match A8 N n ((Aj N ts M (hi-M)).drop 1) with
      |none=>JL
      |some T=>if Cw N 3 x.2.2 T .nil then E (.node 3 0 x.2.2 T .nil) else JL)
     else if x.2.1=5 then(match A8 N n ((Aj N ts M (hi-M)).take x.1) with
      |none=>JL
      |some T=>if Cw N 5 x.2.2 T .nil then E (.node 5 0 x.2.2 T .nil) else JL)
     else(match A8 N n ((Aj N ts M (hi-M)).take x.1) with
      |none=>JL
      |some T=>(match A8 N n ((Aj N ts M (hi-M)).drop (x.1+1)) with
       |none=>JL
       |some T2=>if Cw N 4 x.2.2 T T2 then E (.node 4 0 x.2.2 T T2) else JL))):=by
    conv=>lhs;unfold A8
    rw[hrt];simp only[ssl];rfl
   have y:(Aj N ts M (hi-M)).take x.1=Aj N ts M x.1:=by
    rw[H,P,List.take_left']
    .rw[<-P];exact g3
    .rfl
   have j:(Aj N ts M (hi-M)).drop (x.1+1)=Aj N ts (M+x.1+1) (hi-M-x.1-1):=by have e:L++x.2::R=(L++[x.2])++R:=Js;rw[H,<-g4,e];exact List.drop_left' (by simp[P])
   rcases z with⟨h3,X⟩|⟨h5,Q⟩|⟨h4,Q,X⟩
   .by_cases hz:x.1=0
    .have k:L=[]:=jg.1 I;have A:=X k;rw[g4,hz]at A;have e0:hi-(M+1)=hi-M-0-1:=I;rw[p,yS I,yU h3];have g:(Aj N ts M (hi-M)).drop 1=Aj N ts (M+1) (hi-(M+1)):=by have:=j;rw[hz]at this;rw[e0];exact this
     rw[g,v];have V:BW N (Aj N ts (M+1) (hi-(M+1))):=by rw[e0];exact A
     refine bL b off cap gt ot ct gr cr M hi (M+x.1) N ts us B u ns w hm K hE hF I I hhi hR hrow hlen 3 _ _ (yW ⟨F,I,I,F,F⟩) (A8 N n (Aj N ts (M+1) (hi-(M+1)))) (λT hT=>(Gd hv _ _ _ V hT).1) (λt hW hr=>?_) _ F;have h:=Mo hv hm K hF n (M+1) hi u ns t (cap:=cap) (ct:=ct) (cr:=cr) I I I V hW hr I;rw[(I:((M+1:Nat):Int)=(M:Int)+1)]at h;rw[(I:hi-M-1=hi-(M+1))];exact h
    .rw[p,yU (yW ⟨h3,hz⟩)];exact bK b off cap gt ot ct gr cr M hi (M+x.1) N ts us B u ns w hm K hE hF I I hhi hR hrow hlen I
   .by_cases hz:x.1+1=hi-M
    .rw[p,yS I,yS I,yU h5,y,v];rw[g3]at Q;have e0:M+x.1-M=x.1:=I;refine bL b off cap gt ot ct gr cr M hi (M+x.1) N ts us B u ns w hm K hE hF I I hhi hR hrow hlen 5 _ _ (yX ⟨F,I,I,F,F⟩) (A8 N n (Aj N ts M x.1)) (λT hT=>(Gd hv _ _ _ Q hT).1) (λt hW hr=>?_) _ F;have h:=Mo hv hm K hF n M (M+x.1) u ns t (cap:=cap) (ct:=ct) (cr:=cr) I I I (by rw[e0];exact Q) hW hr I;rw[e0]at h;rw[(I:hi-M-1=x.1)];exact h
    .rw[p,yU (yX ⟨h5,hz⟩)];exact bK b off cap gt ot ct gr cr M hi (M+x.1) N ts us B u ns w hm K hE hF I I hhi hR hrow hlen I
   .rw[p,yS I,yS I,yS I,y,j,v];rw[g3]at Q;rw[g4]at X;have e0:M+x.1-M=x.1:=I;have e1:hi-(M+x.1+1)=hi-M-x.1-1:=I;refine zbW b off cap gt ot ct gr cr M hi (M+x.1) N ts us B u ns w hm K hE hF I I hhi hR hrow hlen I (A8 N n (Aj N ts M x.1)) (A8 N n (Aj N ts (M+x.1+1) (hi-M-x.1-1))) (λT hT=>(Gd hv _ _ _ Q hT).1) (λT hT=>(Gd hv _ _ _ X hT).1) (λt hW hr=>?_) (λt u1 f hW hr hl=>?_) _ F
    .have h:=Mo hv hm K hF n M (M+x.1) u ns t (cap:=cap) (ct:=ct) (cr:=cr) I I I (by rw[e0];exact Q) hW hr I;rw[e0]at h;rw[e0];exact h
    .have h:=Mo hv hm K hF n (M+x.1+1) hi u1 f t (cap:=cap) (ct:=ct) (cr:=cr) I I I (by rw[e1];exact X) hW hr I;rw[e1,(I:((M+x.1+1:Nat):Int)=((M+x.1:Nat):Int)+1)]at h;rw[(I:hi-(M+x.1)-1=hi-M-x.1-1)];exact h
