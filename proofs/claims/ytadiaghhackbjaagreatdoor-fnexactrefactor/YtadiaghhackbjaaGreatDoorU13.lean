import Derived.Test.YtadiaghhackbjaaGreatDoorU06
import Derived.Test.YtadiaghhackbjaaGreatDoorU09
import Derived.Test.YtadiaghhackbjaaGreatDoorU12
namespace Go.Proofs.YtadiaghhackbjaaGreatDoor
set_option linter.all false
set_option maxHeartbeats 0
set_option maxRecDepth 100000
open Proofs.Tryz RowKit
variable{B b g i k n:Nat}{T:Nat -> List OpR}{U:List UnR}{a:Option Addr}{c:Int}{f:Nat -> Bool}{ms:List zH}{ns:List OpR}{out t:List (List zD)}{rs:List Nat}{s:ByteArray}{ta:List (Option Addr)}{ts:List zU}{tv:List Value}{u v:Value}{us:List zD}{w w':World}
def zDj(w:JY)(b n:Nat)(f:Nat->Bool):Prop:=b<w.heap.size/\∀j,j<n->w.cell? (Qa b j)=some (.bool (f j))/\w.frozen? (Qa b j)=false
theorem zDj.congr{g:Nat->Bool}(h:zDj w b n f)(he:∀j,j<n->f j=g j):zDj w b n g:=⟨h.1,fun j hj=>by rw[<-he j hj];exact h.2 j hj⟩
theorem zDj.grown{row:Option Nat}(h:zDj w b n f)(hg:w.grownBy w' row)(H:row≠some b):zDj w' b n f:=
 ⟨yl h.1 hg.size,fun j hj=>⟨(zK hg h.1 H j).trans (h.2 j hj).1,(ZW hg h.1 H j).trans (h.2 j hj).2⟩⟩
theorem zDj.below(h:zDj w b n f)(hb:Qb w w'):zDj w' b n f:=h.grown (row:=none) (zE hb none) Js
theorem zDj.set(h:zDj w b n f)(hk:k<n)(v:Bool):zDj (w.setCell (Qa b k) (.bool v)) b n (fun j=>if j=k then v else f j):=by
 refine⟨by simpa[World.setCell] using h.1,fun j hj=>⟨?_,(yv _ _ _ _).trans (h.2 j hj).2⟩⟩;by_cases e:j=k
 ·subst e;simp only[if_true];exact yt _ _ _ (h.2 j hj).1
 ·simp only[e,if_false];rw[yj _ _ _ _ (by simp;first|done|omega)];exact(h.2 j hj).1
theorem zLQ(w:JY)(n:Nat):zDj (w.alloc (.cells (madeCells #[.bool false] n) 4)) w.heap.size n (fun _=>false):=by
 refine⟨Js,fun j hj=>?_⟩;have hs:(madeCells #[.bool false] n).size=n:=by rw[size_madeCells];first|done|simp
 have h:=yC (w:=w.alloc (.cells (madeCells #[.bool false] n) 4)) (b:=w.heap.size) (heap_alloc_new w _) 0 n;have h1:=h j (.bool false) (by
  simp only[madeCells]
  simp[hj,Nat.mod_one])
 exact⟨Ju h1,Jg⟩
def atR(rs:List Nat)(i:Nat):Nat:=rs.getD i 0
def zBf(n:Nat)(rs:List Nat):List Value:=rs.map fun r=>Ql r n n
theorem zJr(n:Nat)(a b:List Nat):zBf n (a++b)=zBf n a++zBf n b:=by simp[zBf]
theorem zQ8(h:i<rs.length):(zBf n rs)[i]?=some (Ql (atR rs i) n n):=by
 simp[zBf,atR,yn,yr h]
theorem zNx(n:Nat)(rs:List Nat):∀u∈zBf n rs,u.oneCell'=true:=by
 intro u hu;simp only[zBf,List.mem_map] at hu;obtain⟨r,_,rfl⟩:=hu;rfl
theorem zWZ:(prog.info? 57).map (fun i=>(i.zero,i.size,i.bytes))=some (some (.slice none 0 0),1,24):=Jk
theorem zPG(w:JY)(v:Value):∀j u,([v]:List Value)[j]?=some u->(w.alloc (.cells #[v] 57)).cell? ((Qa w.heap.size 0).add j)=some u:=by
 intro j u hj;rw[Addr.add_mid];have:=yC (w:=w.alloc (.cells #[v] 57)) (b:=w.heap.size) (heap_alloc_new w _) 0 1;exact this j u (Ju hj)
def zFB(w:JY)(B n:Nat)(v:Value)(rs:List Nat):Prop:=w.ownsRow B 57 1 v rs.length (zBf n rs)
theorem zFB.grown{row:Option Nat}(h:zFB w B n u rs)(hg:w.grownBy w' row)(H:∀k,u.ownBlock=some k->row≠some k):zFB w' B n u rs:=
 World.ownsRow.kept h hg (by
  cases e:u.ownBlock with
  |none=>exact yS rfl
  |some k=>exact yU (fun x=>H k e x.symm))
theorem zFB.below(h:zFB w B n u rs)(hb:Qb w w'):zFB w' B n u rs:=h.grown (row:=none) (zE hb none) (fun k _ e=>by cases e)
theorem zFB.lt{w:JY}{B n:Nat}{u:Value}{rs:List Nat}(h:zFB w B n u rs):∀g,u.ownBlock=some g->B<=g/\g<w.heap.size:=fun g hg=>World.ownsRow.lt h g hg
theorem zFB.cell{c:Nat}(h:zFB w B n (Ql g rs.length c) rs)(hi:i<rs.length):w.cell? (Qa g i)=some (Ql (atR rs i) n n):=by
 rw[World.ownsRow.cellAt h i Jo];exact zQ8 hi
def zCi(w:JY)(B n:Nat)(v:Value)(rs:List Nat)(M:Nat->Nat->Bool):Prop:=(∀i,i<rs.length->zDj w (atR rs i) n (M i))/\(∀i j,i<rs.length->j<rs.length->atR rs i=atR rs j->i=j)/\(∀i,i<rs.length->v.ownBlock≠some (atR rs i)/\B<=atR rs i)
theorem zES{x:Nat}(h:i<rs.length):atR (rs++[x]) i=atR rs i:=by
 unfold atR;rw[yn,yn,yE h]
theorem zHF{x:Nat}:atR (rs++[x]) rs.length=x:=by
 unfold atR;rw[yn,List.getElem?_append_right (yk _)];simp
theorem zCi.congr{w:JY}{B n:Nat}{v:Value}{rs:List Nat}{M M':Nat->Nat->Bool}(h:zCi w B n v rs M)(he:∀i j,i<rs.length->j<n->M i j=M' i j):zCi w B n v rs M':=
 ⟨fun i hi=>(h.1 i hi).congr (fun j hj=>he i j hi hj),h.2.1,h.2.2⟩
theorem zCi.push{w1 w4:JY}{v4:Value}{M:Nat->Nat->Bool}(h:zCi w B n v rs M)(hb:Qb w w1)(hB:B<=w.heap.size)(hv:∀g,v.ownBlock=some g->g<w.heap.size)(hr:zDj w1 b n f)(x:w.heap.size<=b)(hg:w1.grownBy w4 v.ownBlock)(Q:v4.ownBlock=v.ownBlock\/∃k,v4.ownBlock=some k/\w1.heap.size<=k):zCi w4 B n v4 (rs++[b]) (fun i=>if i=rs.length then f else M i):=by
 have hz:=hb.size;have H:∀i,i<rs.length->atR rs i<w.heap.size:=fun i hi=>(h.1 i hi).1
 have K:∀g,g<w1.heap.size->v.ownBlock≠some g->v4.ownBlock≠some g:=fun g h1 h2 e=>by
  rcases Q with h|⟨k,h,hk⟩
  ·exact h2 (h.symm.trans e)
  ·rw[h] at e;injection e with e;omega
 have q:v.ownBlock≠some b:=fun e=>Jy (hv b e)
 refine⟨fun i hi=>?_,fun i j hi hj e=>?_,fun i hi=>?_⟩
 ·by_cases e:i<rs.length
  ·rw[zES e];simp only[(Jo:i≠rs.length),if_false];exact((h.1 i e).below hb).grown hg (h.2.2 i e).1
  ·have e1:i=rs.length:=by simp at hi;omega
   subst e1;rw[zHF];simp only[if_true];exact hr.grown hg q
 ·simp only[yq,yy,yZ] at hi hj;by_cases e1:i<rs.length<;>by_cases e2:j<rs.length
  ·rw[zES e1,zES e2] at e;exact h.2.1 i j e1 e2 e
  ·have e3:j=rs.length:=Jo;subst e3;rw[zES e1,zHF] at e;have:=H i e1;omega
  ·have e3:i=rs.length:=Jo;subst e3;rw[zES e2,zHF] at e;have:=H j e2;omega
  ·omega
 ·by_cases e:i<rs.length
  ·rw[zES e];exact⟨K _ (Jy (H i e)) (h.2.2 i e).1,(h.2.2 i e).2⟩
  ·have e1:i=rs.length:=by simp at hi;omega
   subst e1;rw[zHF];exact⟨K _ hr.1 q,Jo⟩
theorem zCi.set{w:JY}{B n:Nat}{v:Value}{rs:List Nat}{M:Nat->Nat->Bool}(h:zCi w B n v rs M){i j:Nat}(hi:i<rs.length)(hj:j<n):zCi (w.setCell (Qa (atR rs i) j) (.bool true)) B n v rs (fun i' j'=>if i'=i/\j'=j then true else M i' j'):=by
 refine⟨fun i' H=>?_,h.2.1,h.2.2⟩;by_cases e:i'=i
 ·subst e;refine((h.1 i' H).set hj true).congr (fun j' _=>?_);by_cases e2:j'=j<;>simp[e2]
 ·refine((h.1 i' H).grown (ZJ w (atR rs i) j _) (fun x=>e (h.2.1 i' i H hi (by injection x with x;exact x.symm)))).congr (fun j' _=>?_);simp[e]
def prt(M:Nat->Nat->Bool)(m i j:Nat):Nat->Nat->Bool:=fun i' j'=>M i' j'||(decide (i'<i\/(i'=i/\j'<j))&&(M i' m&&M m j'))
theorem zWa(M:Nat->Nat->Bool)(m i j i':Nat):prt M m i j i' m=M i' m:=by
 unfold prt;cases h:M i' m<;>simp
theorem zWb(M:Nat->Nat->Bool)(m i j j':Nat):prt M m i j m j'=M m j':=by
 unfold prt;cases h:M m j'<;>simp
theorem zQ9(M:Nat->Nat->Bool)(m:Nat)(i' j':Nat):prt M m 0 0 i' j'=M i' j':=by simp[prt]
theorem zUv(M:Nat->Nat->Bool)(m i n:Nat)(i' j':Nat)(hj:j'<n):prt M m i n i' j'=prt M m (i+1) 0 i' j':=by
 unfold prt;have:(i'<i\/(i'=i/\j'<n))↔(i'<i+1\/(i'=i+1/\j'<0)):=Jo;simp only[this]
theorem zUw(M:Nat->Nat->Bool)(m n:Nat)(i' j':Nat)(hi:i'<n):prt M m n 0 i' j'=wr1 M m i' j':=by
 unfold prt wr1;simp[hi]
theorem zUx(M:Nat->Nat->Bool)(m i j:Nat)(h1:M i m=true)(h2:M m j=true)(i' j':Nat):(if i'=i/\j'=j then true else prt M m i j i' j')=prt M m i (j+1) i' j':=by
 unfold prt;by_cases e:i'=i/\j'=j
 ·obtain⟨rfl,rfl⟩:=e;simp[h1,h2]
 ·rw[yP e];have:(i'<i\/(i'=i/\j'<j))↔(i'<i\/(i'=i/\j'<j+1)):=Jo;simp only[this]
theorem zSx(M:Nat->Nat->Bool)(m i j:Nat)(h:M i m=false\/M m j=false)(i' j':Nat):prt M m i j i' j'=prt M m i (j+1) i' j':=by
 unfold prt;by_cases e:i'=i/\j'=j
 ·obtain⟨rfl,rfl⟩:=e;rcases h with h|h<;>simp[h]
 ·have:(i'<i\/(i'=i/\j'<j))↔(i'<i\/(i'=i/\j'<j+1)):=Jo;simp only[this]
def zFb(ms:List zH)(U:List UnR)(i j:Nat):Bool:=decide (i<ms.length)&&(decide (j<ms.length)&&(atU U i).us.any (fun u=>nmF ms u==j))
theorem zLR:(prog.info? 4).map (fun i=>(i.zero,i.size,i.bytes))=some (some (.bool false),1,1):=Jk
def zUy(w:JY)(n:Nat)(W:Nat->Nat->Bool)(e:Ending)(w':JY):Prop:=∃(g c:Nat)(rs:List Nat),e=.returned (Ql g n c)/\w.heap.size<=g/\g<w'.heap.size/\Hid (∀i,i<n->w'.cell? (Qa g i)=some (Ql (atR rs i) n n))/\Hid (∀i,i<n->zDj w' (atR rs i) n (W i))/\Qb w w'
theorem zCu.uses{vs:List UvR}(h:zCu w B vs U)(hi:i<vs.length):ZO w (atV vs i).vu (atU U i).us:=(h.2 i hi).1.1
theorem zSy{j:Nat}(hi:i<ms.length)(hj:j<ms.length):zFb ms U i j=((atU U i).us.take (atU U i).us.length).any (fun u=>nmF ms u==j):=by
 rw[List.take_length];simp[zFb,hi,hj]
theorem zSz{us:List JZ}{u:JZ}(h:us[k]?=some u)(ms:List zH)(j:Nat):(us.take (k+1)).any (fun u=>nmF ms u==j)=(if j=nmF ms u then true else(us.take k).any (fun u=>nmF ms u==j)):=by
 rw[List.take_add_one,h,List.any_append];by_cases e:j=nmF ms u
 ·subst e;simp
 ·have:(nmF ms u==j)=false:=Jq;simp[e,this]
theorem zNy(a:Option Addr)(c0 gU cU:Nat)(ms:List zH)(vs:List UvR)(U:List UnR)(w:JY)(hn:ms.length<=100)(hM:zB3 w a ms)(ha:zNV w gU vs)(hR:gU<w.heap.size)(h3:zCu w w.heap.size vs U)(h0:Zo ms U)(hr:vs.length=ms.length)(h4:∀i,i<ms.length->¬ B4 ms U i):Calls prog 41 #[.slice a ms.length c0,Ql gU ms.length cU] w (zUy w ms.length (wrN (zFb ms U) ms.length)):=by
 obtain⟨i0,Z,h5,h6,hd⟩:=zS zWZ;have HI:=zB Z;have HZ:=zB (yK h5 (yK h6 hd));obtain⟨n,f⟩:=Jx ms.length;have hw:∀W:JY,(Instr.makeSlice 57 (Qi n) (Qi n)).run prog W=.ok (Ql W.heap.size n n) (W.alloc (.cells (madeCells #[.bool false] n) 4)):=by
  obtain⟨inf,hi,hz⟩:=Option.map_eq_some_iff.1 zLR;simp only[Prod.mk.injEq] at hz;obtain⟨hz,hN,hS⟩:=hz;intro W;have:=run_make (P:=prog) W 57 4 inf _ underlying57 hi hz .i64 .i64 n n Jo Jo (by rw[hS];omega) Jo;simpa[hN,Value.cells] using this
 have hC:=zB hw;have HM:=zB hM;have hG:=zB ha;have hK:=zB h3;have t:=zB hr;have hl:=zB (fun u=>zFT a c0 ms u);have s:=zB (show ∀i,i<ms.length->∀u∈(atU U i).us,nmF ms u<ms.length from fun i hi u hu=>by
  have Hi:=zHd ms u
  by_cases e:nmF ms u<ms.length
  ·exact e
  ·refine yR ⟨u,hu,fun j hj=>?_⟩ (h4 i hi)
   exact(zAx ms u).2 j Jo)
 have he:Hid (∀i,i<ms.length->(atU U i).us.length<=20001):=fun i hi=>(zEH (h0.2 i hi)).1
 have HE:=zB (show zFB (w.alloc (.cells #[] 57)) w.heap.size n (Ql w.heap.size 0 0) [] by
  have:=yG (base:=w.heap.size) (e:=57) (size:=1) w #[] 0 (yk _) (ym _) rfl
  simpa[zFB,zBf] using this)
 rw[<-f] at hl s he t hn ⊢;have L:=zB f;clear Z h5 h6 hd hM ha h3 h0 hr h4 hw f;go_enter func41,ntmps41;go_wp2;go_loopw [6,7] (fun out i wr=>∃(k g c:Nat)(rs:List Nat),k<=n/\i=Qi k/\out = Ql g rs.length c/\rs.length<=k/\Hid (rs.length=k)/\Hid (zFB wr w.heap.size n (Ql g rs.length c) rs)/\Hid (zCi wr w.heap.size n (Ql g rs.length c) rs (zFb ms U))/\Qb w wr) (fun _ i _=>n-(intOf i).toNat);case atStart=>exact⟨0,w.heap.size,0,[],ym _,rfl,rfl,yk _,zB rfl,HE,zB ⟨fun i hi=>yR hi (yx i),fun i j hi=>yR hi (yx i),fun i hi=>yR hi (yx i)⟩,zC _ _⟩
 case round=>
  clear HE;obtain⟨k,g,c,rs,hk,rfl,rfl,Hf,b,HR,K,H⟩:=hrel;obtain⟨wo,rfl⟩:=Jx wr;have C:=H.size;by_cases A:k<n
  ·have hX:(k:Int)<(n:Int):=Jo;have hh:=(zA hC) wo;obtain⟨us,B⟩:=Jx ((atU U k).us);have hf:=zB B;have hY:us.length<=20001:=by rw[B];exact he k A
   have hs:=zB (by rw[B];exact s k A:∀u∈us,nmF ms u<n);clear B;go_wp2_with fail;clear hh;obtain⟨W1,v⟩:=Jx (wo.alloc (.cells (madeCells #[.bool false] n) 4));have V:Qb wo W1:=by rw[v];exact zC _ _
   have E:=zB (show zDj W1 wo.heap.size n (fun _=>false) by rw[v];exact zLQ wo n);have hA:=zB (H.trans (V.mono C));have hB:=zB V;have zW1:wo.heap.size+1<=W1.heap.size:=by rw[v];simp
   rw[<-v];clear v V;go_loopw [9] (fun i wr=>∃q:Nat,q<=us.length/\i=Qi q/\Hid (zDj wr wo.heap.size n (fun j=>(us.take q).any (fun u=>nmF ms u==j)))/\Hid (zJ W1 wr wo.heap.size)) (fun i _=>us.length-(intOf i).toNat);case atStart=>exact⟨0,ym _,rfl,zB (E.congr (fun j _=>Js)),zB (zJ.refl _ _)⟩
   case round=>
    clear E;obtain⟨q,hq,rfl,HB,HK⟩:=hrel;have I:Qb w wr:=hA.trans (HK.below Jo C);have h9:k<vs.length:=by rw[zA t];exact A
    obtain⟨v0,_,_⟩:=(hG.below I hR) k h9;have G:ZO wr (atV vs k).vu us:=by
     have h:=(hK.belowB I (yk _)).uses h9;rw[<-zA hf] at h;exact h
    by_cases r:q<us.length
    ·have hZ:(q:Int)<(us.length:Int):=Jo;obtain⟨gw,cw,hv,Hc,hc⟩:=G.lt Jo;rw[hv] at v0;obtain⟨u,hu⟩:∃u,us[q]?=some u:=⟨_,yr r⟩;have k0:=hc q u hu;have ht:u∈us:=yB hu;obtain⟨m,hm⟩:=Jx (nmF ms u);have y:m<n:=by rw[hm];exact hs u ht
     have hH:(m:Int)<(n:Int):=Jo;have X:=zB (hl u wr Jo (HM.below I));have h7:nmI ms u=(m:Int):=by
      unfold nmI;rw[<-hm,<-zA L,yQ y]
     rw[h7] at X;obtain⟨b0,b1⟩:=HB.2 m y;have hP:Hid (zDj (wr.setCell (Qa wo.heap.size m) (.bool true)) wo.heap.size n (fun j=>(us.take (q+1)).any (fun u=>nmF ms u==j))):=(HB.set y true).congr (fun j _=>by rw[zSz hu ms j,<-hm]);have hI:Hid (zJ W1 (wr.setCell (Qa wo.heap.size m) (.bool true)) wo.heap.size):=HK.trans (zBH [.bool true] m wr);clear hc G hu ht hm h7 hv HB HK;go_wp2_with fail;go_call zA X as e w2 ⟨rfl,hx⟩;obtain rfl:=hx.symm;clear hx X;go_wp2_with fail;exact⟨⟨q+1,Jo,Jn,hP,hI⟩,Ji⟩
    ·obtain⟨aw,cw,hv,_⟩:=G;rw[hv] at v0;have R:q=us.length:=Jo;have hD:=zB (show zDj wr wo.heap.size n (zFb ms U k) by
      refine HB.congr (fun j hj=>?_)
      rw[zSy (by rw[<-zA L];exact A) (by rw[<-zA L];exact hj),R,zA hf])
     have d:Hid (Qb wo wr):=hB.trans (HK.below Jo (yk _));have hb:=d.size;have hg:=(HR.lt g rfl).2;clear hv R HB;go_wp2_with (at_builtin;refine yL _ rfl (.tmp 45) (.tmp 47) 94 rfl w.heap.size 57 i0 _ 1 24 underlying94 HI HZ.1 HZ.2.1 HZ.2.2 rfl Jd _ rs.length (zBf n rs) rfl ((HR.below d).below (zC _ _)) (Qa wr.heap.size 0) 1 1 (zBf n [wo.heap.size]) rfl rfl (fun j u hj=>zPG wr _ j u hj) (zNx _ _) ?b1 ?b2 ?b3 ?next);case b1=>exact Jm
     case b2=>omega
     case b3=>simp;omega
     case next=>
      intro v4 w4 J Q O D;have HO:=zB (show zFB w4 w.heap.size n v4 (rs++[wo.heap.size]) by
       unfold zFB
       rw[zJr,yq]
       exact J)
      have hp:=zB (show zCi w4 w.heap.size n v4 (rs++[wo.heap.size]) (zFb ms U) from
       (zCi.push K (d.alloc hb _) C (fun q e=>by have e':g=q:=(by simpa[Value.ownBlock] using e);omega) (hD.below (zC _ _)) (yk _) Q (D.imp id (fun h=>⟨_,h,Js⟩))).congr (fun i j _ _=>by
        by_cases e:i=rs.length
        ·rw[yQ e,e,zA b]
        ·rw[yP e]))
      have l:Qb w w4:=(H.trans ((d.alloc hb _).mono C)).grown Q Jq (fun q hq=>(HR.lt q hq).1);obtain⟨g4,c4,rfl⟩:∃g4 c4,v4 = Ql g4 (rs++[wo.heap.size]).length c4:=by
       obtain⟨_,⟨_,h2⟩|⟨g',cap,Hh,h1,_⟩⟩:=zA HO
       ·simp at h2
       ·exact⟨g',cap,h1⟩
      obtain⟨F,N⟩:∃F,Hid (F=rs++[wo.heap.size]):=⟨_,zB rfl⟩;have e4:=zA N;rw[<-e4] at HO hp;rw[<-e4];clear e4 J Q O D v0;go_wp2_with fail;refine⟨⟨k+1,g4,c4,F,Jo,Jn,rfl,?_,zB ?_,HO,hp,l⟩,Ji⟩
      ·rw[zA N];simp;omega
      ·have:=zA b;rw[zA N];simp;omega
  ·have hJ:k=n:=Jo;have h8:=zB (by have:=zA b;omega:rs.length=n);have hU:rs.length<=n:=Jo;have hV:n<=rs.length:=Jy (zA h8)
   clear hJ b;go_wp2_with fail;go_loopw [10] (fun im wr=>∃m:Nat,m<=n/\im=Qi m/\Hid (zFB wr w.heap.size n (Ql g rs.length c) rs)/\Hid (zCi wr w.heap.size n (Ql g rs.length c) rs (wrN (zFb ms U) m))/\Qb w wr) (fun im _=>n-(intOf im).toNat);case atStart=>exact⟨0,ym _,rfl,HR,K,H⟩
   case round=>
    clear HR K H;obtain⟨m,hm,rfl,HR,K,H⟩:=hrel;obtain⟨wm,rfl⟩:=Jx wr;by_cases ho:m<n
    ·have hH:(m:Int)<(n:Int):=Jo;have Ha:(m:Int)<(rs.length:Int):=Jo;obtain⟨M,hM⟩:=Jx (wrN (zFb ms U) m);rw[<-hM] at K;have hQ:=zB hM;clear hM;go_wp2_with fail;go_loopw [11] (fun ii wr=>∃i:Nat,i<=n/\ii=Qi i/\Hid (zFB wr w.heap.size n (Ql g rs.length c) rs)/\Hid (zCi wr w.heap.size n (Ql g rs.length c) rs (prt M m i 0))/\Qb w wr) (fun ii _=>n-(intOf ii).toNat);case atStart=>exact⟨0,ym _,rfl,HR,zB (K.congr (fun i j _ _=>(zQ9 M m i j).symm)),H⟩
     case round=>
      clear HR K H;obtain⟨i,hi,rfl,HR,K,H⟩:=hrel;obtain⟨wi,rfl⟩:=Jx wr;by_cases hW:i<n
      ·have Hb:(i:Int)<(n:Int):=Jo;have He:(i:Int)<(rs.length:Int):=Jo;go_wp2_with fail;go_loopw [12] (fun jj wr=>∃j:Nat,j<=n/\jj=Qi j/\Hid (zFB wr w.heap.size n (Ql g rs.length c) rs)/\Hid (zCi wr w.heap.size n (Ql g rs.length c) rs (prt M m i j))/\Qb w wr) (fun jj _=>n-(intOf jj).toNat);case atStart=>exact⟨0,ym _,rfl,HR,K,H⟩
       case round=>
        clear HR K H;obtain⟨j,hj,rfl,HR,K,H⟩:=hrel;by_cases Y:j<n
        ·have Hg:(j:Int)<(n:Int):=Jo;have c1:=HR.cell (i:=i) Jo;have c2:=HR.cell (i:=m) Jo;obtain⟨b1,_⟩:=(K.1 i Jo).2 m ho;obtain⟨b2,_⟩:=(K.1 m Jo).2 j Y;obtain⟨b3,f3⟩:=(K.1 i Jo).2 j Y;rw[zWa] at b1;rw[zWb] at b2;cases h1:M i m
         ·rw[h1] at b1;have HN:=zB (K.congr (fun i' j' _ _=>zSx M m i j (yS h1) i' j'));clear K h1;go_wp2_with fail;exact⟨⟨j+1,Jo,Jn,HR,HN,H⟩,Ji⟩
         ·rw[h1] at b1;cases h2:M m j
          ·rw[h2] at b2;have HN:=zB (K.congr (fun i' j' _ _=>zSx M m i j (yU h2) i' j'));clear K h1 h2;go_wp2_with fail;exact⟨⟨j+1,Jo,Jn,HR,HN,H⟩,Ji⟩
          ·rw[h2] at b2;have o:=K.2.2 i Jo;have HN:=zB ((K.set (i:=i) (j:=j) Jo Y).congr (fun i' j' _ _=>zUx M m i j h1 h2 i' j'));have S:=zB (HR.grown (ZJ wr (atR rs i) j (.bool true)) (fun k e x=>o.1 (e.trans x.symm)));have hF:Qb w (wr.setCell (Qa (atR rs i) j) (.bool true)):=H.setCell (p:=(Qa (atR rs i) j)) o.2 _;clear K HR h1 h2 o;go_wp2_with fail;exact⟨⟨j+1,Jo,Jn,S,HN,hF⟩,Ji⟩
        ·have hy:j=n:=Jo;have HN:Hid (zCi wr w.heap.size n (Ql g rs.length c) rs (prt M m (i+1) 0)):=K.congr (fun i' j' _ hO=>by rw[hy];exact zUv M m i n i' j' hO);clear K hy;go_wp2_with fail;exact⟨⟨i+1,Jo,Jn,HR,HN,H⟩,Ji⟩
      ·have T:i=n:=Jo;have HN:=zB (show zCi wi w.heap.size n (Ql g rs.length c) rs (wrN (zFb ms U) (m+1)) from K.congr (fun i' j' Hd _=>by
        show _=wr1 (wrN (zFb ms U) m) m i' j'
        rw[T,<-zA hQ]
        exact zUw M m n i' j' Jo))
       clear K T;go_wp2_with fail;exact⟨⟨m+1,Jo,Jn,HR,HN,H⟩,Ji⟩
    ·have y:m=n:=Jo;have HF:=zB (show ∀i,i<n->zDj wm (atR rs i) n (wrN (zFb ms U) n i) from fun i hi=>by
      have:=K.1 i Jo
      rw[y] at this
      exact this)
     have HC:Hid (∀i,i<n->wm.cell? (Qa g i)=some (Ql (atR rs i) n n)):=fun i hi=>HR.cell Jo
     have hg:=HR.lt g rfl;have hE:=zB (by rw[zA h8]:Value.slice (some (Qa g 0)) rs.length c=Value.slice (some (Qa g 0)) n c);clear K y HR;go_wp2_with fail;go_ret;exact⟨g,c,rs,yV Ending.returned hE,hg.1,hg.2,HC,HF,H⟩
def zRA(o:OpR):Prop:=o.s.size<=20000/\(1<=o.k/\o.k<=3)/\(0<=o.l/\o.l<1000000)/\(0<=o.sd/\o.sd<=3)
theorem OpW.small{ws:List JZ}{o:OpR}(h:OpW ws o)(hs:∀x∈ws,x.size<=20000):zRA o:=by
 obtain⟨k,t,l,hl,h⟩:=h;have hv:zAY l l.size<1000000:=by
  have h1:=zI0 l hl.2.2 l.size (yk _);have h2:10 ^ l.size<=10 ^ 6:=Nat.pow_le_pow_right Jd hl.2.1;omega
 rcases h with⟨rfl,h⟩|⟨sd,rfl,_,H,rfl⟩
 ·rcases h with⟨_,rfl⟩|⟨_,rfl⟩
  ·exact⟨hs t Js,⟨Js,Js⟩,⟨Js,Jq⟩,⟨Js,Js⟩⟩
  ·exact⟨hs t Js,⟨Js,Js⟩,⟨Js,Jq⟩,⟨Js,Js⟩⟩
 ·refine⟨hs t Js,⟨Js,Js⟩,⟨Js,Jq⟩,?_⟩;rcases zJN sd with e|e|e|e<;>simp[e]
theorem UnF.small{s:JZ}(hs:s.size<=20000):∀(ls:List (Nat×Nat))(n:Nat)(us:List JZ)(os:List OpR){u:List JZ}{o:List OpR}{b:JZ}{c l:Int},UnF s ls n us os u o b c l->(∀x∈os,zRA x)->∀x∈o,zRA x
 |[],n,us,os,_,_,_,_,_,h=>by
  obtain⟨rfl,rfl,rfl,rfl,rfl⟩:=h;exact fun _ x hx=>by cases hx
 |p::r,n,us,os,u,o,b,c,l,h=>by
  rcases h with⟨_,rfl,rfl,rfl,rfl,rfl⟩|⟨_,⟨us',os',hl,h⟩|⟨_,rfl,rfl,rfl,rfl,rfl⟩⟩
  ·exact fun h=>h
  ·intro h0;refine UnF.small hs r (n+1) us' os' h ?_;rcases hl with⟨_,rfl,rfl⟩|⟨x,hx,rfl,rfl⟩|⟨o',ho,rfl,rfl⟩
   ·exact h0
   ·exact h0
   ·intro x hx;rcases List.mem_append.1 hx with hx|hx
    ·exact h0 x hx
    ·simp at hx;subst hx;refine ho.small (fun z hz=>?_);unfold wds at hz;obtain⟨q,_,rfl⟩:=List.mem_map.1 hz;simp only[yz];omega
  ·exact fun _ x hx=>by cases hx
theorem zJs{u:List JZ}{o:List OpR}{b:JZ}{l:Int}(h:zy s u o b c l):∀x∈o,zRA x:=by
 rcases h with⟨_,rfl,rfl,rfl,rfl,rfl⟩|⟨h0,h⟩
 ·exact fun x hx=>by cases hx
 ·exact UnF.small h0 _ _ _ _ h (fun x hx=>by cases hx)
theorem Zo.small{U:List UnR}(h:Zo ms U):∀o∈Zm U,zRA o:=by
 intro o ho;obtain⟨u,hu,ho⟩:=List.mem_flatMap.1 ho;obtain⟨i,hi,rfl⟩:=zIn hu;exact zJs (h.2 i (by rw[<-h.1];exact hi)) o ho
theorem zNz{xs:List OpR}(h:∀o∈xs,zRA o):ZA xs:=fun i hi=>by
 have:=(h _ (zIk hi)).1;unfold maxLen;omega
theorem zS0(h3:∀i,i<ms.length->¬ B3 ms i)(i j:Nat):zFb ms U i j=true↔Edg ms U i j:=by
 unfold zFb Edg;simp only[Bool.and_eq_true,decide_eq_true_eq,List.any_eq_true,beq_iff_eq];constructor
 ·rintro⟨h1,h2,u,hu,rfl⟩;exact⟨h1,h2,by rw[(zAx ms u).1 h2];exact hu⟩
 ·rintro⟨h1,h2,h⟩;refine⟨h1,h2,_,h,?_⟩;exact zP2 h2 rfl (fun q hq e=>h3 j h2 ⟨q,hq,e⟩)
theorem zJt(h3:∀i,i<ms.length->¬ B3 ms i)(i j:Nat):wrN (zFb ms U) ms.length i j=true↔TC (Edg ms U) i j:=
 zWB (zS0 h3) (fun i j h=>⟨h.1,h.2.1⟩) i j
theorem zMH(hi:i<ms.length)(h4:¬ B4 ms U i){u:JZ}(hu:u∈(atU U i).us):nmF ms u<ms.length/\Edg ms U i (nmF ms u):=by
 have H:=zHd ms u;have h:nmF ms u<ms.length:=by
  by_cases e:nmF ms u<ms.length
  ·exact e
  ·exact yR ⟨u,hu,fun j hj=>(zAx ms u).2 j Jo⟩ h4
 exact⟨h,hi,h,by rw[(zAx ms u).1 h];exact hu⟩
theorem zS1{U:List UnR}(h3:∀i,i<ms.length->¬ B3 ms i)(h4:∀i,i<ms.length->¬ B4 ms U i)(h5:∀i,i<ms.length->¬ TC (Edg ms U) i i):∃rk:Nat->Nat,(∀i,i<ms.length->∀u∈(atU U i).us,rk (nmF ms u)<rk i)/\∀i,i<ms.length->rk i<ms.length:=by
 refine⟨rkW (wrN (zFb ms U) ms.length) ms.length,fun i hi u hu=>?_,fun i hi=>zW8 (zJt h3) hi (h5 i hi)⟩;obtain⟨h1,h2⟩:=zMH hi (h4 i hi) hu;exact zUC (zJt h3) h2 h1 (h5 _ h1)
def zz(out:List (List OpR))(i:Nat):List OpR:=out.getD i []
def zD4(w:JY)(v:Value)(out:List (List OpR)):Prop:=∃a c,v=.slice a out.length c/\(out.length=0\/∃g,a=some (Qa g 0)/\g<w.heap.size/\∀i,i<out.length->∃t,w.cell? (Qa g i)=some t/\ZS w t (zz out i))
theorem zD4.below{out:List (List OpR)}(h:zD4 w v out)(hb:Qb w w'):zD4 w' v out:=by
 obtain⟨a,c,rfl,h⟩:=h;refine⟨a,c,rfl,h.imp id ?_⟩;rintro⟨g,rfl,h1,h2⟩;refine⟨g,rfl,yl h1 hb.size,fun i hi=>?_⟩;obtain⟨t,h3,h4⟩:=h2 i hi;exact⟨t,Jc hb h1 h3,h4.grown (row:=none) (zE hb none) (fun g _ e=>by cases e)⟩
theorem zAy{S:Nat->List OpR}(h:i<n):zz ((List.range n).map S) i=S i:=by
 simp[zz,yn,h]
open Go.Maps
def zV1(ns:List OpR)(w:JY)(p g o n c bf bb:Nat)(res:Option (ET×List SyR))(x:Ending)(w':JY):Prop:=
 Hid (zJ w w' p)/\((res=none/\x=zMD)\/∃T r,res=some (T,r)/\x=.returned (.tuple #[exT ns T,.bool true])/\Hid (zn ns T)/\Hid (Z4 w' p g o n c (n-r.length) bf bb))
theorem zUz(e:Value)(t:JZ)(h:Int)(w:JY)(ba bp bh bs:Nat)(hk:knB ns (4,t)=true)(h1:OpC w ba (opA ns (rt 4 t)))(hl:sLv ns (4,t)<h):Calls prog 185 #[e,Qi h,Qp ba,Qp bp,Qp bh,Qp bs] w fun x w'=>x=.returned (.tuple #[.nilIface,.bool false])/\w'=w:=by
 obtain⟨a0,a1,a2,a3⟩:=h1;rw[zEz (ns:=ns) (b:=4) (t:=t) (yU (yS rfl)) hk] at hl;generalize opA ns (rt 4 t)=q at a0 a1 a2 a3 hl;go_enter func185,ntmps185;go_wp2_with fail;exact yN (v:=.tuple #[.nilIface,.bool false]) (by simp[results,results185,go_sem]) rfl ⟨rfl,rfl⟩
theorem zS2(e:Value)(t:JZ)(h:Int)(w:JY)(ba bp bh:Nat)(hk:knB ns (5,t)=true)(h1:OpC w ba (opA ns (rt 5 t)))(hl:sLv ns (5,t)<h):Calls prog 187 #[e,Qi h,Qp ba,Qp bp,Qp bh] w fun x w'=>x=.returned (.tuple #[.nilIface,.bool false])/\w'=w:=by
 obtain⟨a0,a1,a2,a3⟩:=h1;rw[zEz (ns:=ns) (b:=5) (t:=t) (yU (yU rfl)) hk] at hl;generalize opA ns (rt 5 t)=q at a0 a1 a2 a3 hl;go_enter func187,ntmps187;go_wp2_with fail;exact yN (v:=.tuple #[.nilIface,.bool false]) (by simp[results,results187,go_sem]) rfl ⟨rfl,rfl⟩
theorem zRB(p g o n c bf bb i:Nat)(t:JZ)(r:List SyR)(L:ET)(H:Int)(w:JY)(ba bp bh:Nat)(na:ba≠p)(nb:bp≠p)(nh:bh≠p)(hk:knB ns (5,t)=true)(hL:zn ns L)(hi:i+1+r.length=n)(hn:n<=100000)(hp:Z4 w p g o n c i bf bb)(h1:OpC w ba (opA ns (rt 5 t)))(h2:w.cell? (Qa bp 0)=some (Qp p))(h3:w.cell? (Qa bh 0)=some (Qi (sH ns (5,t) false)))(hl:H<=sLv ns (5,t))(res:Option (ET×List SyR))(k:res=(if lvT ns L<sH ns (5,t) false then none else some (.node 5 0 t L .nil,r)))(Q:∀T r,res=some (T,r)->zn ns T):Calls prog 187 #[exT ns L,Qi H,Qp ba,Qp bp,Qp bh] w (zV1 ns w p g o n c bf bb res):=by
 have HT:=zNq (zNo ns L hL) p g o n c i bf bb (sH ns (5,t) false) w hp Jo;have HO:=zB h1;obtain⟨a0,a1,a2,a3⟩:=h1;rw[zEz (ns:=ns) (b:=5) (t:=t) (yU (yU rfl)) hk] at hl;have h:=zB k;have X:=zB Q;clear k Q;have HE:=zB (show exT ns (.node 5 0 t L .nil)=zCv (opA ns (rt 5 t)) (exT ns L) from rfl);generalize opA ns (rt 5 t)=q at a0 a1 a2 a3 hl HE HO;generalize sH ns (5,t) false=hh at h3 HT h;obtain⟨Ty,v,he⟩:=zEO hL;rw[he] at HT HE ⊢;have HI:=zB hi;clear hp hi he;go_enter func187,ntmps187;go_wp2_with fail;go_call HT as x w1 ⟨HK,⟨h0,rfl⟩|⟨h0,rfl,HP⟩⟩
 ·exact⟨rfl,HK,yS ⟨by rw[zA h,yQ h0],rfl⟩⟩
 ·have K:=zB (by rw[zA h,yP Jo]:res=some (.node 5 0 t L .nil,r));obtain⟨b0,b1,b2,b3⟩:=HO.kept HK na;have HM:=zB (by have:=zA HI;omega:i+1=n-r.length);clear HT h h0 a0 a1 a2 a3;go_wp2_with fail;refine yN (v:=.tuple #[zCv q (.iface Ty v),.bool true]) (by simp[results,results187,go_sem,zCv]) rfl ?_;exact⟨HK,yU ⟨_,_,K,by rw[zA HE],zB (X _ _ K),by rw[<-zA HM];exact HP⟩⟩
theorem zS3(p g o n c bf bb i:Nat)(t:JZ)(r:List SyR)(L:ET)(H:Int)(w:JY)(ba bp bh bs:Nat)(na:ba≠p)(nb:bp≠p)(nh:bh≠p)(nq:bs≠p)(hk:knB ns (4,t)=true)(hL:zn ns L)(hi:i<=100000)(hr:zLI ns w p g o n c bf bb (i+1) (sH ns (4,t) true) r)(hp:Z4 w p g o n c i bf bb)(h1:OpC w ba (opA ns (rt 4 t)))(h2:w.cell? (Qa bp 0)=some (Qp p))(h3:w.cell? (Qa bh 0)=some (Qi (sH ns (4,t) false)))(h4:w.cell? (Qa bs 0)=some (Qi (sH ns (4,t) true)))(hl:H<=sLv ns (4,t))(res:Option (ET×List SyR))(K:res=(if lvT ns L<sH ns (4,t) false then none else(match RD ns (sH ns (4,t) true) none r with
   |none=>none
   |some x=>some (.node 4 0 t L x.1,x.2))))(u:∀T r,res=some (T,r)->zn ns T):Calls prog 185 #[exT ns L,Qi H,Qp ba,Qp bp,Qp bh,Qp bs] w (zV1 ns w p g o n c bf bb res):=by
 have HT:=zNq (zNo ns L hL) p g o n c i bf bb (sH ns (4,t) false) w hp Jo;have HO:=zB h1;obtain⟨a0,a1,a2,a3⟩:=h1;rw[zEz (ns:=ns) (b:=4) (t:=t) (yU (yS rfl)) hk] at hl;have h:=zB K;have U:=zB u;have y:=zB hr;clear K u hr;have HE:Hid (∀T,exT ns (.node 4 0 t L T)=zFU (opA ns (rt 4 t)) (exT ns L) (exT ns T)):=fun T=>rfl
 generalize opA ns (rt 4 t)=q at a0 a1 a2 a3 hl HE HO;generalize sH ns (4,t) false=hh at h3 HT h;generalize sH ns (4,t) true=hs at h4 y h;obtain⟨Ty,v,he⟩:=zEO hL;rw[he] at HT HE ⊢;clear hp he;go_enter func185,ntmps185;go_wp2_with fail;go_call HT as x w1 ⟨HK,⟨h0,rfl⟩|⟨h0,rfl,HP⟩⟩
 ·exact⟨rfl,HK,yS ⟨by rw[zA h,yQ h0],rfl⟩⟩
 ·have Q:=zJ.of_below (g:=p) ((yJ w1.heap.size w1).drew);have HX:=(zA y) w1.drew (HK.trans Q) (HP.below ((yJ w1.heap.size w1).drew));have Y:=zB (HK.trans Q);obtain⟨b0,b1,b2,b3⟩:=HO.kept HK na;have d2:=(HK.cell (block_lt_of_cell h2) nb 0).trans h2;have d4:=(HK.cell (block_lt_of_cell h4) nq 0).trans h4;have HN:=zB (Jo:¬ lvT ns L<hh);clear HT y h0 a0 a1 a2 a3 HP Q h2 h3 h4 HK HO;go_wp2_with fail;go_region_held (fun w'=>(w'.cell? (Qa ba 0)=some (Qs q.s)/\w'.cell? (Qa ba 1)=some (Qi q.k)/\w'.cell? (Qa ba 2)=some (Qi q.l)/\w'.cell? (Qa ba 3)=some (Qi q.sd))/\w'.cell? (Qa bp 0)=some (Qp p)/\w'.cell? (Qa bs 0)=some (Qi hs)) (first|(go_keep;done)|exact⟨(show OpC w1 ba q from⟨b0,b1,b2,b3⟩).kept X na,(X.cell (block_lt_of_cell d2) nb 0).trans d2,(X.cell (block_lt_of_cell d4) nq 0).trans d4⟩)
   (first|(go_at_call 145;refine HX.mono ?_;rintro x w2 ⟨HK2,⟨h0,rfl⟩|⟨T,r2,h1,rfl,HG,HP⟩⟩;(focus(have hn:res=none:=(by rw[zA h,h0];simp);exact⟨rfl,zB (Y.trans HK2),yS ⟨hn,rfl⟩⟩));have a:=zB (Y.trans HK2);have X:=zB ((zJ.of_below (g:=p) ((yJ w1.heap.size w1).drew)).trans HK2);have P:=zB h1;obtain⟨Ty2,v2,j⟩:=zEO HG;have V:=zB j;rw[j];clear h1 j HX HK2 Y))
  have A:=zB (by rw[zA HE,zA V]:exT ns (.node 4 0 t L T)=zFU q (.iface Ty v) (.iface Ty2 v2));have J:=zB (by have:=zA HN;rw[zA h,yP Jo,zA P]:res=some (.node 4 0 t L T,r2));clear HE V h P;go_wp2_with fail;refine yN (v:=.tuple #[zFU q (.iface Ty v) (.iface Ty2 v2),.bool true]) (by simp[results,results185,go_sem,zFU]) rfl ?_;exact⟨a,yU ⟨_,_,J,by rw[zA A],zB (U _ _ J),HP⟩⟩
def zS4(w:JY)(p:Nat)(ns:List OpR)(G:ByteArray->Option Value):Prop:=
 G opn=some (.func (.func 141) #[Qp p] #[]) /\
 ∀t,t≠opn->(ZF ns t 1=false->G t=none)/\(ZF ns t 1=true->∃ba bp bh,G t=some (.func (.func 184) #[] #[Qp ba,Qp bp,Qp bh]) /\
  ba≠p/\bp≠p/\bh≠p/\OpC w ba (opA ns (rt 3 t))/\w.cell? (Qa bp 0)=some (Qp p)/\w.cell? (Qa bh 0)=some (Qi (sH ns (3,t) false)))
def zS5(w:JY)(p:Nat)(ns:List OpR)(G:ByteArray->Option Value):Prop:=
 ∀t,(¬ opT ns t->G t=none) /\
 (ZF ns t 2=true->∃ba bp bh bs,G t=some (.func (.func 185) #[] #[Qp ba,Qp bp,Qp bh,Qp bs]) /\
  ba≠p/\bp≠p/\bh≠p/\bs≠p/\OpC w ba (opA ns (rt 4 t))/\w.cell? (Qa bp 0)=some (Qp p)/\w.cell? (Qa bh 0)=some (Qi (sH ns (4,t) false))/\w.cell? (Qa bs 0)=some (Qi (sH ns (4,t) true))) /\
 (ZF ns t 3=true->∃ba bp bh,G t=some (.func (.func 187) #[] #[Qp ba,Qp bp,Qp bh]) /\
  ba≠p/\bp≠p/\bh≠p/\OpC w ba (opA ns (rt 5 t))/\w.cell? (Qa bp 0)=some (Qp p)/\w.cell? (Qa bh 0)=some (Qi (sH ns (5,t) false)))
theorem zS4.kept{w w':JY}{p:Nat}{ns:List OpR}{G:ByteArray->Option Value}(h:zS4 w p ns G)(hk:zJ w w' p):zS4 w' p ns G:=by
 refine⟨h.1,fun t ht=>⟨(h.2 t ht).1,fun hb=>?_⟩⟩;obtain⟨ba,bp,bh,h0,n1,n2,n3,h1,h2,h3⟩:=(h.2 t ht).2 hb;exact⟨ba,bp,bh,h0,n1,n2,n3,h1.kept hk n1,(hk.cell (block_lt_of_cell h2) n2 0).trans h2,(hk.cell (block_lt_of_cell h3) n3 0).trans h3⟩
theorem zS5.kept{w w':JY}{p:Nat}{ns:List OpR}{G:ByteArray->Option Value}(h:zS5 w p ns G)(hk:zJ w w' p):zS5 w' p ns G:=by
 refine fun t=>⟨(h t).1,fun hb=>?_,fun hb=>?_⟩
 ·obtain⟨ba,bp,bh,bs,h0,n1,n2,n3,n4,h1,h2,h3,h4⟩:=(h t).2.1 hb;exact⟨ba,bp,bh,bs,h0,n1,n2,n3,n4,h1.kept hk n1,(hk.cell (block_lt_of_cell h2) n2 0).trans h2,(hk.cell (block_lt_of_cell h3) n3 0).trans h3,(hk.cell (block_lt_of_cell h4) n4 0).trans h4⟩
 ·obtain⟨ba,bp,bh,h0,n1,n2,n3,h1,h2,h3⟩:=(h t).2.2 hb;exact⟨ba,bp,bh,h0,n1,n2,n3,h1.kept hk n1,(hk.cell (block_lt_of_cell h2) n2 0).trans h2,(hk.cell (block_lt_of_cell h3) n3 0).trans h3⟩
theorem zJ.grown{p:Nat}(h:zJ w w' p):w.grownBy w' (some p):=⟨h.os,h.tape,h.output,h.size,fun i hi H=>h.block i hi (fun e=>H (by rw[e]))⟩
def PC(w:JY)(p g o bf bb:Nat)(ns:List OpR)(ts:List zU):Prop:=
 g≠p/\bf≠p/\bb≠p/\zDf w g o ts/\(∃m G,Zx w bf m G/\zS4 w p ns G)/\(∃m G,Zx w bb m G/\zS5 w p ns G)
theorem PC.kept{w w':JY}{p g o bf bb:Nat}{ns:List OpR}{ts:List zU}(h:PC w p g o bf bb ns ts)(hk:zJ w w' p):PC w' p g o bf bb ns ts:=by
 obtain⟨n1,n2,n3,ht,⟨m,G,hG,hB⟩,⟨m',G',k,H⟩⟩:=h;refine⟨n1,n2,n3,fun i hi=>?_,⟨m,G,hG.kept hk.grown (fun e=>n2 (by injection e)),hB.kept hk⟩,⟨m',G',k.kept hk.grown (fun e=>n3 (by injection e)),H.kept hk⟩⟩;obtain⟨c0,c1,c2⟩:=ht i hi;exact⟨(hk.cell (block_lt_of_cell c0) n1 _).trans c0,(hk.cell (block_lt_of_cell c1) n1 _).trans c1,(hk.cell (block_lt_of_cell c2) n1 _).trans c2⟩
theorem zPH(p g o c bf bb i:Nat)(x:Int)(w:JY)(v:PC w p g o bf bb ns ts)(hp:Z4 w p g o ts.length c i bf bb)(hi:i<ts.length)(hn:ts.length<=100000)(hz:(atT ts i).t.size<=maxLen)(hk:(atT ts i).k=1\/(atT ts i).k=2)(Y:¬ opT ns (atT ts i).t)(y:(atT ts i).t≠opn):Calls prog 188 #[Qp p,Qi x] w (zHC ns w p g o ts.length c bf bb (some (.node (atT ts i).k.toNat 0 (atT ts i).t .nil .nil,sgs ns ts (i+1) (ts.length-(i+1))))):=by
 obtain⟨n1,n2,n3,ht,⟨m,G,hG,hB⟩,_⟩:=v;obtain⟨t0,t1,t2⟩:=ht i hi;have HG:=zB hG;have HP:=zB hp;obtain⟨q0,q1,q2,q3,q4⟩:=hp;have V:=block_lt_of_cell q0;have P:=block_lt_of_cell t0;simp only at V P;have u:p≠w.heap.size:=Jo;have U:g≠w.heap.size:=Jo;have J:=zB (show G (atT ts i).t=none from(hB.2 _ y).1 (by
  cases h:ZF ns (atT ts i).t 1 with
  |false=>rfl
  |true=>
   obtain⟨j,hj,e1,_⟩:=(Zl _ _ _).1 h
   exact yR ⟨j,hj,e1⟩ Y))
 clear hG hB;go_enter func188,ntmps188;go_wp2_with fail;go_region;go_wp2_with fail;have Q:Hid (zJ w (((w.setCell (Qa p 1) (Qi ((i:Int)+1))).alloc (.cells #[Qi (atT ts i).k,Qs (atT ts i).g,Qs (atT ts i).t] 135)).drew).drew p):=(zJ.setP _).trans (zJ.of_below (((zC _ _).drew).drew));have e1:((i+1:Nat):Int)=(i:Int)+1:=Jo;have K:=HP.set (i+1);rw[e1] at K;replace K:=zB (K.below (((zC _ (.cells #[Qi (atT ts i).k,Qs (atT ts i).g,Qs (atT ts i).t] 135)).drew).drew));have X:=(HG.kept Q.grown (fun e=>n2 (by injection e))).look (ty:=203) (e:=208) (z:=.nilFunc) underlying203 Jk hz;rw[zA J] at X;simp only[Option.getD,Option.isSome] at X;clear HG HP q0 q1 q2 q3 q4 ht t0 t1 t2;obtain⟨w0,w1,w2,w3,w4⟩:=zA K;have q:=zB (by rw[zAq];omega:ts.length-(sgs ns ts (i+1) (ts.length-(i+1))).length=i+1);rcases hk with H|H
 ·have hb:((atT ts i).k==1)=true:=by rw[H];rfl
  have HN:=zB (by rw[H];rfl:(atT ts i).k.toNat=1);clear H;go_region;go_wp2_with fail;go_ret;refine⟨Q,yU ⟨_,_,rfl,?_,?_,?_⟩⟩
  ·rw[zA HN];rfl
  ·rw[zA HN];exact zB ⟨rfl,yS ⟨yS rfl,rfl,rfl⟩⟩
  ·rw[zA q];exact K
 ·have hb:((atT ts i).k==1)=false:=by rw[H];rfl
  have HN:=zB (by rw[H];rfl:(atT ts i).k.toNat=2);clear H;go_region;go_wp2_with fail;go_ret;refine⟨Q,yU ⟨_,_,rfl,?_,?_,?_⟩⟩
  ·rw[zA HN];rfl
  ·rw[zA HN];exact zB ⟨rfl,yS ⟨yU rfl,rfl,rfl⟩⟩
  ·rw[zA q];exact K
theorem zPI(hv:zO ns 0)(p g o c bf bb i d:Nat)(h:Int)(w:JY)(U:PC w p g o bf bb ns ts)(hp:Z4 w p g o ts.length c i bf bb)(hi:i<ts.length)(hn:ts.length<=100000)(hz:(atT ts i).t.size<=maxLen)(Y:(atT ts i).t=opn)(hf:zAJ ns (false,d+1) (sgs ns ts (i+1) (ts.length-(i+1))))(hr:zLI ns w p g o ts.length c bf bb (i+1) 0 (sgs ns ts (i+1) (ts.length-(i+1))))(res:Option (ET×List SyR))(q:res=(match RD ns 0 none (sgs ns ts (i+1) (ts.length-(i+1))) with
   |none=>none
   |some x=>some (.node 6 0 ByteArray.empty x.1 .nil,x.2.tail))):Calls prog 188 #[Qp p,Qi h] w (zHC ns w p g o ts.length c bf bb res):=by
 obtain⟨n1,n2,n3,ht,⟨m,G,hG,hB⟩,_⟩:=U;obtain⟨t0,t1,t2⟩:=ht i hi;have HG:=zB hG;have HP:=zB hp;obtain⟨q0,q1,q2,q3,q4⟩:=hp;have a:=block_lt_of_cell q0;have u:=block_lt_of_cell t0;simp only at a u;have A:p≠w.heap.size:=Jo;have b:g≠w.heap.size:=Jo;have V:=zB (by rw[Y];exact hB.1:G (atT ts i).t=some (.func (.func 141) #[Qp p] #[]));have HF:=zB hf;have y:=zB hr;have Q:=zB q;clear hf hr q Y;clear hG hB;go_enter func188,ntmps188;go_wp2_with fail;go_region;go_wp2_with fail;have K:Hid (zJ w (((w.setCell (Qa p 1) (Qi ((i:Int)+1))).alloc (.cells #[Qi (atT ts i).k,Qs (atT ts i).g,Qs (atT ts i).t] 135)).drew).drew p):=(zJ.setP _).trans (zJ.of_below (((zC _ _).drew).drew));have e1:((i+1:Nat):Int)=(i:Int)+1:=Jo;have H:=HP.set (i+1);rw[e1] at H;replace H:=zB (H.below (((zC _ (.cells #[Qi (atT ts i).k,Qs (atT ts i).g,Qs (atT ts i).t] 135)).drew).drew));have X:=(HG.kept K.grown (fun e=>n2 (by injection e))).look (ty:=203) (e:=208) (z:=.nilFunc) underlying203 Jk hz;rw[zA V] at X;simp only[Option.getD,Option.isSome] at X;clear HG HP q0 q1 q2 q3 q4 ht t0 t1 t2;obtain⟨w0,w1,w2,w3,w4⟩:=zA H;have HX:=zPB hv p g o ts.length c bf bb (i+1) d (sgs ns ts (i+1) (ts.length-(i+1))) h _ (fun w' j v=>y w' (K.trans j) v) H hn (by rw[zAq];omega) HF res Q;go_region;go_wp2_with fail;go_call HX as x w5 ⟨HK5,⟨h0,rfl⟩|⟨T,r,h1,rfl,HG5,HP5⟩⟩
 ·exact⟨rfl,zB (K.trans HK5),yS ⟨h0,rfl⟩⟩
 ·have P:=zB h1;have J:=zB (K.trans HK5);clear h1 HX Q y HF;go_wp2_with fail;go_ret;exact⟨J,yU ⟨_,_,P,rfl,HG5,HP5⟩⟩
theorem zRC(p g o c bf bb i:Nat)(H:Int)(w:JY)(A:PC w p g o bf bb ns ts)(hp:Z4 w p g o ts.length c i bf bb)(hi:i<ts.length)(hn:ts.length<=100000)(hz:(atT ts i).t.size<=maxLen)(P:ZF ns (atT ts i).t 1=true)(U:(atT ts i).t≠opn)(hr:zLI ns w p g o ts.length c bf bb (i+1) (sH ns (3,(atT ts i).t) false) (sgs ns ts (i+1) (ts.length-(i+1))))(res:Option (ET×List SyR))(Q:res=(if sLv ns (3,(atT ts i).t)<H then none else(match RD ns (sH ns (3,(atT ts i).t) false) none (sgs ns ts (i+1) (ts.length-(i+1))) with
   |none=>none
   |some x=>some (.node 3 0 (atT ts i).t x.1 .nil,x.2))))(j:∀T r,res=some (T,r)->zn ns T):Calls prog 188 #[Qp p,Qi H] w (zHC ns w p g o ts.length c bf bb res):=by
 obtain⟨n1,n2,n3,ht,⟨m,G,hG,hB⟩,_⟩:=A;obtain⟨t0,t1,t2⟩:=ht i hi;have HG:=zB hG;have HP:=zB hp;obtain⟨q0,q1,q2,q3,q4⟩:=hp;have b:=block_lt_of_cell q0;have C:=block_lt_of_cell t0;simp only at b C;have D:p≠w.heap.size:=Jo;have E:g≠w.heap.size:=Jo;obtain⟨ba,bp,bh,J,m1,m2,m3,k1,k2,k3⟩:=(hB.2 _ U).2 P;have a:=zB J;have K:=zB (yK k1 (yK k2 k3));have y:=zB hr;have X:=zB Q;have Y:=zB j;clear hr Q j k1 k2 k3 J;clear hG hB;go_enter func188,ntmps188;go_wp2_with fail;go_region;go_wp2_with fail;have h:Hid (zJ w (((w.setCell (Qa p 1) (Qi ((i:Int)+1))).alloc (.cells #[Qi (atT ts i).k,Qs (atT ts i).g,Qs (atT ts i).t] 135)).drew).drew p):=(zJ.setP _).trans (zJ.of_below (((zC _ _).drew).drew));have e1:((i+1:Nat):Int)=(i:Int)+1:=Jo;have q:=HP.set (i+1);rw[e1] at q;replace q:=zB (q.below (((zC _ (.cells #[Qi (atT ts i).k,Qs (atT ts i).g,Qs (atT ts i).t] 135)).drew).drew));have v:=(HG.kept h.grown (fun e=>n2 (by injection e))).look (ty:=203) (e:=208) (z:=.nilFunc) underlying203 Jk hz;rw[zA a] at v;simp only[Option.getD,Option.isSome] at v;clear HG HP q0 q1 q2 q3 q4 ht t0 t1 t2;obtain⟨w0,w1,w2,w3,w4⟩:=zA q;have HX:=zSj p g o ts.length c bf bb (i+1) (atT ts i).t (sgs ns ts (i+1) (ts.length-(i+1))) H _ ba bp bh m1 m2 m3 (zEy P Jd) (fun w' V u=>y w' (h.trans V) u) q (K.1.kept h m1) ((h.cell (block_lt_of_cell K.2.1) m2 0).trans K.2.1) ((h.cell (block_lt_of_cell K.2.2) m3 0).trans K.2.2) res X Y;go_region;go_wp2_with fail;go_call HX as x w5 ⟨HK5,⟨h0,rfl⟩|⟨T,r,h1,rfl,HG5,HP5⟩⟩
 ·exact⟨rfl,zB (h.trans HK5),yS ⟨h0,rfl⟩⟩
 ·have B:=zB h1;have d:=zB (h.trans HK5);clear h1 HX X y Y K;go_wp2_with fail;go_ret;exact⟨d,yU ⟨_,_,B,rfl,HG5,HP5⟩⟩
structure zS6(ns:List OpR)(ts:List zU):Prop where
 code:zO ns 0
 all:∀i,i<ts.length->zAJ ns (zCm ns ts i,zCn ts i) (sgs ns ts i (ts.length-i))
 role:∀i,i<ts.length->0<=zZ ns ts i
 tok:∀i,i<ts.length->zLF ns (atT ts i)
 size:∀i,i<ts.length->(atT ts i).t.size<=maxLen
 len:ts.length<=100000
theorem zFc(hi:i<ts.length):sgs ns ts i (ts.length-i)=sgT ns ts i::sgs ns ts (i+1) (ts.length-(i+1)):=by
 have e:ts.length-i=ts.length-(i+1)+1:=Jo;rw[e,zFW]
theorem zMI{st:Bool×Nat}(h:zAJ ns st (sgs ns ts i (ts.length-i))):i<ts.length:=by
 by_cases hi:i<ts.length
 ·exact hi
 ·have e:ts.length-i=0:=Jo;rw[e] at h;exact(zDU h).elim
def zMJ(ns:List OpR)(ts:List zU)(p g o c bf bb:Nat)(m:Nat):Prop:=
 ∀(i d:Nat)(h:Int)(w:JY),ts.length-i<m->h<=1001->zAJ ns (false,d) (sgs ns ts i (ts.length-i))->PC w p g o bf bb ns ts->Z4 w p g o ts.length c i bf bb ->
  Calls prog 145 #[Qp p,Qi h] w (zHC ns w p g o ts.length c bf bb (RD ns h none (sgs ns ts i (ts.length-i))))
theorem zRD(hF:zS6 ns ts){p o c bf bb:Nat}(i d:Nat)(H:Int)(w:JY)(hs:zMJ ns ts p g o c bf bb (ts.length-i))(hl:H<=1001)(hf:zAJ ns (false,d) (sgs ns ts i (ts.length-i)))(Q:PC w p g o bf bb ns ts)(hp:Z4 w p g o ts.length c i bf bb):Calls prog 188 #[Qp p,Qi H] w (zHC ns w p g o ts.length c bf bb (zHl ns H (sgT ns ts i) (sgs ns ts (i+1) (ts.length-(i+1))))):=by
 have hi:=zMI hf;have hb:zCm ns ts i=false:=zQO (hF.all i hi) hf;have q:=hf;rw[zFc hi] at q;have Y:∀(d':Nat)(l':Int),l'<=1001->zAJ ns (false,d') (sgs ns ts (i+1) (ts.length-(i+1)))->zLI ns w p g o ts.length c bf bb (i+1) l' (sgs ns ts (i+1) (ts.length-(i+1))):=
  fun d' l' u y w' P v=>hs (i+1) d' l' w' Jo u y (Q.kept P) v
 have U:∀T r,zHl ns H (sgT ns ts i) (sgs ns ts (i+1) (ts.length-(i+1)))=some (T,r)->zn ns T:=fun T r h=>(zLH hF.code hl q h).2.1
 rcases zQ3 (hF.role i hi) hb (hF.tok i hi) with⟨hk,V,X,K⟩|⟨hk,J,X,K⟩|⟨hk,A,K⟩
 ·have:=zPH p g o c bf bb i H w Q hp hi hF.len (hF.size i hi) hk V X;have e:zHl ns H (sgT ns ts i) (sgs ns ts (i+1) (ts.length-(i+1)))=some (.node (atT ts i).k.toNat 0 (atT ts i).t .nil .nil,sgs ns ts (i+1) (ts.length-(i+1))):=by
   rw[K];unfold zHl;rw[yP Jr,yP Jr]
  rw[e];exact this
 ·have a:knB ns (3,(atT ts i).t)=true:=zEy J Jd;refine zRC p g o c bf bb i H w Q hp hi hF.len (hF.size i hi) J X (Y d _ ?_ ?_) _ ?_ U
  ·exact(zHB hF.code (s:=(3,(atT ts i).t)) (yS rfl) a).1
  ·rw[K] at q;rcases zDV q with⟨x,_⟩|⟨_,_,x⟩|⟨x,_⟩
   ·simp at x
   ·exact x
   ·simp at x
  ·rw[K];unfold zHl;rw[yQ rfl];rfl
 ·have j:zAJ ns (false,d+1) (sgs ns ts (i+1) (ts.length-(i+1))):=by
   rw[K] at q;rcases zDV q with⟨x,_⟩|⟨x,_,_⟩|⟨_,x⟩
   ·simp at x
   ·simp at x
   ·exact x
  refine zPI hF.code p g o c bf bb i d H w Q hp hi hF.len (hF.size i hi) A j (Y (d+1) 0 Jo j) _ ?_;rw[K];unfold zHl;rw[yP Jd,yQ rfl];rfl
theorem zCT{ns:List OpR}{s:JZ}:∀(ts:List zU)(i:Nat),zAA ns s i ts->0<ts.length/\(atT ts (ts.length-1)).k=7
 |[],_,h=>h.elim
 |t::out,i,h=>by
  rcases h with⟨rfl,_,_,rfl⟩|⟨p,n,k,_,_,_,_,_,rfl,hr⟩
  ·exact⟨Js,rfl⟩
  ·obtain⟨h1,h2⟩:=zCT out _ hr;refine⟨Js,?_⟩;have e:(⟨(k:Int),s.extract i p,s.extract p (p+n)⟩::out:List zU).length-1=(out.length-1)+1:=Jq;rw[e];exact h2
theorem zDY{ns:List OpR}{s:JZ}:∀(ts:List zU)(i:Nat),zAA ns s i ts->∀j,j<ts.length->(atT ts j).g.size<=s.size/\(atT ts j).t.size<=s.size
 |[],_,h,_,_=>h.elim
 |t::out,i,h,j,hj=>by
  rcases h with⟨rfl,_,_,rfl⟩|⟨p,n,k,_,_,_,_,_,rfl,hr⟩
  ·have:j=0:=by simp at hj;omega
   subst this;refine⟨?_,?_⟩
   ·simp[atT,yz]
   ·simp[atT];exact ym _
  ·cases j with
   |zero=>exact⟨by simp[atT,yz];omega,by simp[atT,yz];omega⟩
   |succ j=>exact zDY out _ hr j (Ju hj)
theorem zQT(hf:zCL ns ts ts.length)(hl:0<ts.length/\(atT ts (ts.length-1)).k=7):∀i,i<ts.length->zAJ ns (zCm ns ts i,zCn ts i) (sgs ns ts i (ts.length-i)):=by
 intro i hi;obtain⟨h,H⟩:=zMB hf hl.1 hl.2;have e1:ts.length-1=i+(ts.length-1-i):=Jo;have h1:sgs ns ts 0 (ts.length-1)=sgs ns ts 0 i++sgs ns ts i (ts.length-1-i):=by
  have:=zHA ns ts 0 i (ts.length-1-i);rw[<-e1,yY] at this;exact this
 have h2:sgs ns ts i (ts.length-i)=sgs ns ts i (ts.length-1-i)++[eoS]:=by
  have e2:ts.length=i+(ts.length-i):=Jo;have h3:=zHA ns ts 0 i (ts.length-i);rw[<-e2,yY,H,h1,yA] at h3;exact(List.append_cancel_left h3).symm
 refine⟨sgs ns ts i (ts.length-1-i),h2,?_⟩;unfold Seg at h;rw[h1,zDt,zMA i hi (fun j hj=>hf j Jo)] at h;exact h
theorem zU0(hv:zO ns 0)(h:zBi ns ns.length)(hs:s.size<=20000)(hx:zAA ns s 0 ts)(hf:zCL ns ts ts.length):zS6 ns ts where
 code:=hv
 all:=zQT hf (zCT ts 0 hx)
 role:=hf
 tok:=zL9 (zB5 h) ts 0 hx
 size:=fun i hi=>by have:=(zDY ts 0 hx i hi).2;unfold maxLen;omega
 len:=Jy (zAA.len ts 0 hx)
def zMK(ns:List OpR)(ts:List zU)(us:List zD)(c p:Int):Prop:=
 (RD ns 0 none (sgs ns ts 0 ts.length)=none/\us=[]/\c=5/\p=0) \/
 ∃T r,RD ns 0 none (sgs ns ts 0 ts.length)=some (T,r)/\((1000<hT T/\us=[]/\c=6/\p=0)\/(hT T<=1000/\us=nd T 0/\c=0/\p=0))
def zML(ns:List OpR)(ts:List zU)(us:List zD)(c p:Int):Prop:=
 (∃i,i<ts.length/\(atT ts i).k=6/\(∀j,j<i->(atT ts j).k≠6)/\us=[]/\c=3/\p=(zIY ts i:Int)) \/
 ((∀j,j<ts.length->(atT ts j).k≠6) /\
  ((∃i,i<ts.length/\zCL ns ts i/\zZ ns ts i<0/\us=[]/\c=4/\p=(zIY ts i:Int))\/(zCL ns ts ts.length/\zMK ns ts us c p)))
def zAs(ns:List OpR)(s:JZ)(us:List zD)(c p:Int):Prop:=
 (¬ zO ns 0/\us=[]/\c=1/\p=0) \/
 (zO ns 0/\((20000<s.size/\us=[]/\c=2/\p=0)\/(s.size<=20000/\∃ts,zAA ns s 0 ts/\zML ns ts us c p)))
theorem zMK.one{us':List zD}{c' p p':Int}(h:zMK ns ts us c p)(h':zMK ns ts us' c' p'):us=us'/\c=c'/\p=p':=by
 rcases h with⟨h1,rfl,rfl,rfl⟩|⟨T,r,h1,h⟩
 ·rcases h' with⟨h2,rfl,rfl,rfl⟩|⟨T',r',h2,h'⟩
  ·exact⟨rfl,rfl,rfl⟩
  ·rw[h1] at h2;cases h2
 ·rcases h' with⟨h2,rfl,rfl,rfl⟩|⟨T',r',h2,h'⟩
  ·rw[h1] at h2;cases h2
  ·rw[h1] at h2;injection h2 with h2;injection h2 with h2 _;subst h2;rcases h with⟨a,rfl,rfl,rfl⟩|⟨a,rfl,rfl,rfl⟩<;>rcases h' with⟨b,rfl,rfl,rfl⟩|⟨b,rfl,rfl,rfl⟩
   ·exact⟨rfl,rfl,rfl⟩
   ·omega
   ·omega
   ·exact⟨rfl,rfl,rfl⟩
theorem zML.one{ns:List OpR}{ts:List zU}{us us':List zD}{c c' p p':Int}(h:zML ns ts us c p)(h':zML ns ts us' c' p'):us=us'/\c=c'/\p=p':=by
 rcases h with⟨i,hi,a1,a2,rfl,rfl,rfl⟩|⟨a,h⟩
 ·rcases h' with⟨j,hj,b1,b2,rfl,rfl,rfl⟩|⟨b,h'⟩
  ·rcases(Jo:i=j\/i<j\/j<i) with e|e|e
   ·subst e;exact⟨rfl,rfl,rfl⟩
   ·exact yR a1 (b2 i e)
   ·exact yR b1 (a2 j e)
  ·exact yR a1 (b i hi)
 ·rcases h' with⟨j,hj,b1,b2,rfl,rfl,rfl⟩|⟨b,h'⟩
  ·exact yR b1 (a j hj)
  ·rcases h with⟨i,hi,f,n,rfl,rfl,rfl⟩|⟨f,h⟩
   ·rcases h' with⟨j,hj,f',n',rfl,rfl,rfl⟩|⟨f',h'⟩
    ·rcases(Jo:i=j\/i<j\/j<i) with e|e|e
     ·subst e;exact⟨rfl,rfl,rfl⟩
     ·have:=f' i e;omega
     ·have:=f j e;omega
    ·have:=f' i hi;omega
   ·rcases h' with⟨j,hj,f',n',rfl,rfl,rfl⟩|⟨f',h'⟩
    ·have:=f j hj;omega
    ·exact h.one h'
theorem zAs.one{ns:List OpR}{s:JZ}{us us':List zD}{c c' p p':Int}(h:zAs ns s us c p)(h':zAs ns s us' c' p'):us=us'/\c=c'/\p=p':=by
 rcases h with⟨n,rfl,rfl,rfl⟩|⟨n,h⟩
 ·rcases h' with⟨n',rfl,rfl,rfl⟩|⟨n',h'⟩
  ·exact⟨rfl,rfl,rfl⟩
  ·exact yR n' n
 ·rcases h' with⟨n',rfl,rfl,rfl⟩|⟨n',h'⟩
  ·exact yR n n'
  ·rcases h with⟨b,rfl,rfl,rfl⟩|⟨b,ts,hx,h⟩
   ·rcases h' with⟨b',rfl,rfl,rfl⟩|⟨b',ts',H,h'⟩
    ·exact⟨rfl,rfl,rfl⟩
    ·omega
   ·rcases h' with⟨b',rfl,rfl,rfl⟩|⟨b',ts',H,h'⟩
    ·omega
    ·have e:=zAA.one _ _ _ hx H;subst e;exact h.one h'
def zCK(out:List (List zD))(i:Nat):List zD:=out.getD i []
theorem zLS(h:i<out.length):zCK (out++[us]) i=zCK out i:=by
 simp[zCK,yn,yE h]
theorem zLT:zCK (out++[us]) out.length=us:=by
 simp[zCK,yn]
def PsI(T:Nat->List OpR)(b:Nat->ByteArray)(i:Nat)(us:List zD)(c:Int):Prop:=∃p,zAs (T i) (b i) us c p
theorem PsI.one{T:Nat->List OpR}{b:Nat->ByteArray}{i:Nat}{us us':List zD}{c c':Int}(h:PsI T b i us c)(h':PsI T b i us' c'):us=us'/\c=c':=by
 obtain⟨p,h⟩:=h;obtain⟨p',h'⟩:=h';obtain⟨h1,h2,_⟩:=h.one h';exact⟨h1,h2⟩
def zFd(T:Nat->List OpR)(b:Nat->ByteArray)(k:Nat)(out:List (List zD)):Prop:=out.length=k/\∀i,i<k->PsI T b i (zCK out i) 0
theorem zFd.nil(T:Nat->List OpR)(b:Nat->ByteArray):zFd T b 0 []:=⟨rfl,fun i hi=>yR hi (yx i)⟩
theorem zFd.step{b:Nat->ByteArray}(h:zFd T b k out)(h':PsI T b k us 0):zFd T b (k+1) (out++[us]):=by
 refine⟨by simp[h.1],fun i hi=>?_⟩;by_cases e:i<k
 ·rw[zLS (by rw[h.1];exact e)];exact h.2 i e
 ·obtain rfl:i=k:=Jo;have e:zCK (out++[us]) i=us:=by rw[<-h.1];exact zLT
  rw[e];exact h'
def zIa(T:Nat->List OpR)(b:Nat->ByteArray)(n:Nat)(out:List (List zD))(c who:Int):Prop:=
 (∃k us cd t,k<n/\zFd T b k t/\PsI T b k us cd/\cd≠0/\out=[]/\c=10+cd/\who=(k:Int))\/(zFd T b n out/\c=0/\who=0)
theorem zIa.hit{b:Nat->ByteArray}{who cd:Int}(h:zIa T b n out c who)(hk:k<n)(ht:zFd T b k t)(hp:PsI T b k us cd)(hc:cd≠0):out=[]/\c=10+cd/\who=(k:Int):=by
 rcases h with⟨k',us',cd',t',h1,h2,h3,h4,rfl,rfl,rfl⟩|⟨h1,_⟩
 ·have e:k'=k:=by
   rcases Nat.lt_trichotomy k' k with e|e|e
   ·exact yR (((ht.2 k' e).one h3).2).symm h4
   ·exact e
   ·exact yR (((h2.2 k e).one hp).2).symm hc
  subst e;exact⟨rfl,by rw[(h3.one hp).2],rfl⟩
 ·exact yR (((h1.2 k hk).one hp).2).symm hc
theorem zIa.miss{b:Nat->ByteArray}{who:Int}(h:zIa T b n out c who)(ht:zFd T b n t):out=t/\c=0/\who=0:=by
 rcases h with⟨k',us',cd',t',h1,h2,h3,h4,_⟩|⟨h1,rfl,rfl⟩
 ·exact yR (((ht.2 k' h1).one h3).2).symm h4
 ·refine⟨List.ext_getElem (by rw[h1.1,ht.1]) fun i hi H=>?_,rfl,rfl⟩;have:=(h1.2 i (by rw[<-h1.1];exact hi)).one (ht.2 i (by rw[<-h1.1];exact hi));simpa[zCK,yn,hi,H] using this.1
def zAe(ms:List zH)(out:List (List zD))(c who:Int):Prop:=∃tabs c0 w0,zAF ms tabs c0 w0/\((c0≠0/\out=[]/\c=c0/\who=w0)\/(c0=0/\∃U,Zo ms U/\zIa (zz tabs) (fun i=>(atU U i).b) ms.length out c who))
theorem zN0:(prog.info? 70).map (fun i=>(i.zero,i.size,i.bytes))=some (some (.agg #[.slice none 0 0]),1,24):=Jk
def zFe(w:JY)(B:Nat)(v:Value)(tv:List Value):Prop:=w.ownsRow B 70 1 v tv.length tv
theorem zBx{e s:Nat}{xs:List Value}(h:w.ownsRow B e s v n xs)(hs:∀g,v.ownBlock=some g->w'.heap[g]?=w.heap[g]?):w'.ownsRow B e s v n xs:=by
 obtain⟨a,h1|⟨g,cap,H,h1,h2,h3,h4⟩⟩:=h
 ·exact⟨a,yS h1⟩
 ·exact⟨a,yU ⟨g,cap,H,h1,h2,(hs g (by rw[h1];rfl)).trans h3,h4⟩⟩
theorem Zi.same(h:Zi w n a us)(hz:w.heap.size<=w'.heap.size)(hs:∀q,a.map (·.block)=some q->w'.heap[q]?=w.heap[q]?):Zi w' n a us:=by
 rcases h with h|⟨g,rfl,hn,h1,h2,h3⟩
 ·exact yS h
 ·have hb:=hs g rfl;have e:∀o,w'.cell? (Qa g o)=w.cell? (Qa g o):=fun o=>yu (w:=w) hb
  have f:∀o,w'.frozen? (Qa g o)=w.frozen? (Qa g o):=fun o=>yD (w:=w) hb
  refine yU ⟨g,rfl,hn,yl h1 hz,fun j hj=>⟨by rw[e];exact(h2 j hj).1,by rw[f];exact(h2 j hj).2⟩,fun i hi=>?_⟩;obtain⟨a0,a1,a2,a3⟩:=h3 i hi;exact⟨(e _).trans a0,(e _).trans a1,(e _).trans a2,(e _).trans a3⟩
theorem Zi.base{n':Nat}(h:Zi w n a us)(hn:n'<=n):Zi w n' a us:=by
 rcases h with h|⟨g,h1,h2,h3⟩
 ·exact yS h
 ·exact yU ⟨g,h1,Jo,h3⟩
structure TrI(w:JY)(B:Nat)(v:Value)(tv:List Value)(ta:List (Option Addr))(out:List (List zD)):Prop where
 row:zFe w B v tv
 len:tv.length=out.length/\ta.length=out.length
 el:∀j,j<out.length->∃a c,tv[j]?=some (.slice a (zCK out j).length c)/\ta[j]?=some a/\Zi w B a (zCK out j)/\∀q,a.map (·.block)=some q->v.ownBlock≠some q
 ap:∀i j:Nat,i<j->∀a a':Option Addr,ta[i]?=some a->ta[j]?=some a'->∀q,a.map (·.block)=some q->a'.map (·.block)≠some q
theorem TrI.nil(w:JY)(B:Nat):TrI w B (.slice none 0 0) [] [] []:=⟨World.ownsRow_nil _ _ _ _,⟨rfl,rfl⟩,fun j hj=>yR hj (yx j),fun i j _ a a' h=>by simp at h⟩
theorem TrI.keep(h:TrI w B v tv ta out)(hz:w.heap.size<=w'.heap.size)(hs:∀q,B<=q->q<w.heap.size->w'.heap[q]?=w.heap[q]?):TrI w' B v tv ta out:=by
 refine⟨zBx h.row (fun g e=>hs g (World.ownsRow.lt h.row g e).1 (World.ownsRow.lt h.row g e).2),h.len,fun j hj=>?_,h.ap⟩;obtain⟨a,c,h1,h2,h3,h4⟩:=h.el j hj;exact⟨a,c,h1,h2,h3.same hz (fun q e=>hs q (h3.lt q e).1 (h3.lt q e).2),h4⟩
theorem TrI.step{w2 w4:JY}{cc:Nat}{v4:Value}(h:TrI w B v tv ta out)(hB:B<=w.heap.size)(hz:w.heap.size<=w2.heap.size)(hs:∀q,B<=q->q<w.heap.size->w2.heap[q]?=w.heap[q]?)(ho:Zi w2 w.heap.size a us)(hg:w2.grownBy w4 v.ownBlock)(hr:zFe w4 B v4 (tv++[.slice a us.length cc]))(K:v4.ownBlock=v.ownBlock\/∃q,v4.ownBlock=some q/\w2.heap.size<=q):TrI w4 B v4 (tv++[.slice a us.length cc]) (ta++[a]) (out++[us]):=by
 have z4:=hg.size;have hl:=h.len;have vl:∀g,v.ownBlock=some g->B<=g/\g<w.heap.size:=fun g e=>World.ownsRow.lt h.row g e
 have n4:∀g,g<w2.heap.size->v.ownBlock≠some g->v4.ownBlock≠some g:=fun g h1 h2 e=>by
  rcases K with h3|⟨q,h3,h4⟩
  ·exact h2 (h3.symm.trans e)
  ·rw[h3] at e;injection e with e;omega
 have na:∀q,a.map (·.block)=some q->v.ownBlock≠some q:=fun q e e2=>by have:=(ho.lt q e).1;have:=(vl q e2).2;omega
 refine⟨hr,Jq,fun j hj=>?_,fun i j k x y hx hy q e=>?_⟩
 ·by_cases e:j<out.length
  ·obtain⟨x,c,h1,h2,h3,h4⟩:=h.el j e;rw[zLS e];refine⟨x,c,by rw[yE Jo];exact h1,by rw[yE Jo];exact h2,h3.same Jo (fun q eq=>(hg.block q (Jy ((h3.lt q eq).2)) (fun e=>h4 q eq e.symm)).trans (hs q (h3.lt q eq).1 (h3.lt q eq).2)),fun q eq=>n4 q (Jy ((h3.lt q eq).2)) (h4 q eq)⟩
  ·obtain rfl:j=out.length:=by simp at hj;omega
   rw[zLT];refine⟨a,cc,by rw[<-hl.1,List.getElem?_concat_length],by rw[<-hl.2,List.getElem?_concat_length],(ho.same Jo (fun q eq=>hg.block q (ho.lt q eq).2 (fun e=>na q eq e.symm))).base hB,fun q eq=>n4 q (ho.lt q eq).2 (na q eq)⟩
 ·have hj:j<out.length+1:=by
   have:=(jc.1 hy).1;simp at this;omega
  have H:ta[i]?=some x:=by rw[yE Jo] at hx;exact hx
  by_cases e3:j<out.length
  ·exact h.ap i j k x y H (by rw[yE Jo] at hy;exact hy) q e
  ·obtain rfl:j=ta.length:=Jo;rw[List.getElem?_concat_length] at hy;injection hy with hy;subst hy;intro e2;obtain⟨x',c,_,h2,h3,_⟩:=h.el i Jo;have:x=x':=by rw[H] at h2;injection h2
   subst this;have:=(h3.lt q e).2;have:=(ho.lt q e2).1;omega
structure zXW(w:JY)(B g:Nat)(ta:Nat->Option Addr)(tc:Nat->Nat)(out:List (List zD)):Prop where
 hg:g<w.heap.size
 ce:∀i,i<out.length->w.cell? (Qa g i)=some (.slice (ta i) (zCK out i).length (tc i))
 ro:∀i,i<out.length->Zi w B (ta i) (zCK out i)
 ng:∀i,i<out.length->(ta i).map (·.block)≠some g
 ap:∀i j,i<out.length->j<out.length->i≠j->∀q,(ta i).map (·.block)=some q->(ta j).map (·.block)≠some q
def zJu(w:JY)(B:Nat)(v:Value)(out:List (List zD)):Prop:=(∃a c,v=.slice a out.length c)/\(out.length=0\/∃g c ta tc,B<=g/\v = Ql g out.length c/\zXW w B g ta tc out)
theorem zJu.grown{w w':JY}{B:Nat}{v:Value}{out:List (List zD)}{row:Option Nat}(h:zJu w B v out)(hg:w.grownBy w' row)(hr:∀q,row=some q->q<B):zJu w' B v out:=by
 obtain⟨h1,h2⟩:=h;refine⟨h1,h2.imp id ?_⟩;rintro⟨g,c,ta,tc,hB,e,h⟩;have hz:=hg.size;have H:=h.hg;exact⟨g,c,ta,tc,hB,e,⟨Jo,fun i hi=>(zK hg (b:=g) H (fun x=>Jy (hr g x)) i).trans (h.ce i hi),fun i hi=>(h.ro i hi).grown hg hr,h.ng,h.ap⟩⟩
theorem zJu.low{B':Nat}(h:zJu w B v out)(hB:B'<=B):zJu w B' v out:=by
 obtain⟨h1,h2⟩:=h;refine⟨h1,h2.imp id ?_⟩;rintro⟨g,c,ta,tc,h3,e,h⟩;exact⟨g,c,ta,tc,Jo,e,⟨h.hg,h.ce,fun i hi=>(h.ro i hi).base hB,h.ng,h.ap⟩⟩
theorem TrI.res(h:TrI w B v tv ta out):zJu w B v out:=by
 have hl:=h.len;have H:=h.row;obtain⟨a,c,rfl⟩:∃a c,v=.slice a tv.length c:=zR h.row;refine⟨⟨a,c,by rw[hl.1]⟩,?_⟩;by_cases h0:out.length=0
 ·exact yS h0
 obtain⟨_,⟨h1,h2⟩|⟨g,cap,Q,h1,h2,h3,h4⟩⟩:=id h.row
 ·exfalso;have K:tv.length=0:=by first|exact h2|(simp at h2;omega)|(simp at h2;simp[h2])|exact h1
  omega
 ·have ha:a=some (Qa g 0):=by injection h1
  subst ha;have get:∀i,i<out.length->∃x c,tv[i]?=some (.slice x (zCK out i).length c)/\ta[i]?=some x/\Zi w B x (zCK out i)/\(∀q,x.map (·.block)=some q->g≠q)/\ta.getD i none=x:=fun i hi=>by
   obtain⟨x,c,e1,e2,e3,e4⟩:=h.el i hi;exact⟨x,c,e1,e2,e3,fun q e x=>e4 q e (by rw[<-x];rfl),by simp[yn,e2]⟩
  refine yU ⟨g,c,fun i=>ta.getD i none,fun i=>match tv[i]? with|some (.slice _ _ c)=>c|_=>0,(World.ownsRow.lt H g rfl).1,by rw[hl.1],⟨(World.ownsRow.lt H g rfl).2,fun i hi=>?_,fun i hi=>?_,fun i hi=>?_,fun i j hi hj k q e=>?_⟩⟩
  ·obtain⟨x,c',e1,e2,e3,_,e4⟩:=get i hi;have:=World.ownsRow.cellAt H i Jo;simp only[e4];rw[e1] at this ⊢;simpa using this
  ·obtain⟨x,c',e1,e2,e3,_,e4⟩:=get i hi;simp only[e4];exact e3
  ·obtain⟨x,c',e1,e2,e3,e5,e4⟩:=get i hi;simp only[e4];exact fun e=>e5 g e rfl
  ·obtain⟨x,c',e1,e2,e3,_,e4⟩:=get i hi;obtain⟨y,d',f1,f2,f3,_,f4⟩:=get j hj;simp only[e4] at e;simp only[f4];rcases Nat.lt_trichotomy i j with h'|h'|h'
   ·exact h.ap i j h' x y e2 f2 q e
   ·exact yR h' k
   ·exact fun e'=>h.ap j i h' y x f2 e2 q e' e
theorem UnF.body{s:JZ}:∀(ls:List (Nat×Nat))(n:Nat)(us:List JZ)(os:List OpR){u:List JZ}{o:List OpR}{b:JZ}{c l:Int},UnF s ls n us os u o b c l->b.size<=s.size
 |[],n,us,os,_,_,_,_,_,h=>by
  obtain⟨rfl,rfl,rfl,rfl,rfl⟩:=h;exact ym _
 |p::r,n,us,os,u,o,b,c,l,h=>by
  rcases h with⟨_,rfl,rfl,rfl,rfl,rfl⟩|⟨_,⟨us',os',hl,h⟩|⟨_,rfl,rfl,rfl,rfl,rfl⟩⟩
  ·unfold zBa;split
   ·rw[yz];omega
   ·exact ym _
  ·exact UnF.body r _ _ _ h
  ·exact ym _
theorem zLU{u:List JZ}{o:List OpR}{b:JZ}{l:Int}(h:zy s u o b c l):b.size<=20000:=by
 rcases h with⟨_,rfl,rfl,rfl,rfl,rfl⟩|⟨h0,h⟩
 ·exact ym _
 ·exact yw (UnF.body _ _ _ _ h) h0
theorem zAF.good{out:List (List OpR)}{who:Int}(h:zAF ms out 0 who):ms.length<=100/\(∀i,i<ms.length->¬ B2 ms i)/\out.length=ms.length:=by
 rcases h with⟨_,_,h,_⟩|⟨hn,⟨_,_,_,_,_,h,_⟩|⟨h2,h⟩⟩
 ·cases h
 ·cases h
 refine⟨hn,h2,?_⟩;rcases h with⟨_,_,_,_,_,h,_⟩|⟨_,h⟩
 ·cases h
 obtain⟨U,_,h⟩:=h;rcases h with⟨_,_,_,_,_,h,_⟩|⟨_,h⟩
 ·cases h
 rcases h with⟨_,_,_,_,_,h,_⟩|⟨_,h⟩
 ·cases h
 obtain⟨S,_,h⟩:=h;rcases h with⟨_,_,_,_,_,h,_⟩|⟨hs,h⟩
 ·cases h
 obtain⟨rfl,_⟩:=h;simp
theorem zBI.two{B P P':Nat->Prop}{R R':Prop}(h:zBI n B P R)(h':zBI n B P' R'):(∃i,i<n/\P i/\P' i)\/((∀i,i<n->¬ B i)/\R/\R'):=by
 rcases h with⟨i,hi,hB,hb,hP⟩|⟨hb,hR⟩<;>rcases h' with⟨j,hj,k,H,q⟩|⟨H,K⟩
 ·rcases Nat.lt_trichotomy i j with e|e|e
  ·exact yR hB (H i e)
  ·subst e;exact yS ⟨i,hi,hP,q⟩
  ·exact yR k (hb j e)
 ·exact yR hB (H i hi)
 ·exact yR k (hb j hj)
 ·exact yU ⟨hb,hR,K⟩
theorem Zo.eq{U':List UnR}(h:Zo ms U)(h':Zo ms U'):U=U':=by
 refine List.ext_getElem (h.1.trans h'.1.symm) fun i h1 h2=>?_
 have:=h.one h' i (by rw[<-h.1];exact h1);simpa[atU,yn,h1,h2] using this
theorem ScE.one{ms:List zH}{U:List UnR}{S T:Nat->List OpR}{rk:Nat->Nat}(hS:ScE ms U S)(hT:ScE ms U T)(hr:∀i,i<ms.length->∀u∈(atU U i).us,nmF ms u<ms.length/\rk (nmF ms u)<rk i):∀r i,i<ms.length->rk i<r->S i=T i
 |0,i,_,h=>Jo
 |r+1,i,hi,h=>by
  rw[hS i hi,hT i hi];refine zFK _ _ fun u hu=>?_
  obtain⟨h1,h2⟩:=hr i hi u hu;exact ScE.one hS hT hr r _ h1 Jo
theorem zAF.one{ms:List zH}{out out':List (List OpR)}{c c' who who':Int}(h:zAF ms out c who)(h':zAF ms out' c' who'):out=out'/\c=c'/\who=who':=by
 have tri:∀{x:Nat}{k:Int},(out=[]/\c=k/\who=(x:Int))->(out'=[]/\c'=k/\who'=(x:Int))->out=out'/\c=c'/\who=who':=fun a b=>⟨a.1.trans b.1.symm,a.2.1.trans b.2.1.symm,a.2.2.trans b.2.2.symm⟩
 rcases h with⟨a,h⟩|⟨a,h⟩<;>rcases h' with⟨a',h'⟩|⟨a',h'⟩
 ·exact⟨h.1.trans h'.1.symm,h.2.1.trans h'.2.1.symm,h.2.2.trans h'.2.2.symm⟩
 ·omega
 ·omega
 rcases h.two h' with⟨i,_,h,h'⟩|⟨h2,h,h'⟩
 ·exact tri h h'
 rcases zBI.two h h' with⟨i,_,h,h'⟩|⟨h3,⟨U,hU,h⟩,⟨U',H,h'⟩⟩
 ·exact tri h h'
 obtain rfl:=hU.eq H;rcases h.two h' with⟨i,_,h,h'⟩|⟨h4,h,h'⟩
 ·exact tri h h'
 rcases zBI.two h h' with⟨i,_,h,h'⟩|⟨h5,⟨S,hS,h⟩,⟨T,hT,h'⟩⟩
 ·exact tri h h'
 obtain⟨rk,hr,q⟩:=zS1 h3 h4 h5;have e:∀i,i<ms.length->S i=T i:=fun i hi=>hS.one hT (rk:=rk) (fun i hi u hu=>⟨(zMH hi (h4 i hi) hu).1,hr i hi u hu⟩) (rk i+1) i hi Jo
 have hB:∀i,i<ms.length->(B6 S i↔B6 T i):=fun i hi=>by unfold B6;rw[e i hi]
 have K:zBI ms.length (B6 S) (fun i=>out'=[]/\c'=6/\who'=(i:Int)) (out'=(List.range ms.length).map T/\c'=0/\who'=0):=by
  rcases h' with⟨i,hi,b,hb,hp⟩|⟨hb,hp⟩
  ·exact yS ⟨i,hi,(hB i hi).2 b,fun j hj x=>hb j hj ((hB j Jo).1 x),hp⟩
  ·exact yU ⟨fun i hi x=>hb i hi ((hB i hi).1 x),hp⟩
 rcases h.two K with⟨i,_,h,h'⟩|⟨_,⟨e1,e2,e3⟩,⟨f1,f2,f3⟩⟩
 ·exact tri h h'
 ·refine⟨?_,e2.trans f2.symm,e3.trans f3.symm⟩;rw[e1,f1];exact List.map_congr_left fun i hi=>e i (List.mem_range.1 hi)
def zQU(w0 w:JY)(K:FuncId)(p:Nat)(q:OpR)(x:Value):Prop:=
 ∃ba bp bh,x=.func (.func K) #[] #[Qp ba,Qp bp,Qp bh]/\w0.heap.size<=ba/\w0.heap.size<=bp/\w0.heap.size<=bh /\
  OpC w ba q/\w.cell? (Qa bp 0)=some (Qp p)/\w.cell? (Qa bh 0)=some (Qi (ZU q.s q.k q.l q.sd false))
theorem zJv(p:Nat)(q:OpR)(w:JY)(hs:q.s.size<=maxLen):Calls prog 142 #[Qp p,.agg #[Qs q.s,Qi q.k,Qi q.l,Qi q.sd]] w fun x w'=>(∃v,x=.returned v/\Hid (zQU w w' 184 p q v))/\Below w.heap.size w w':=by
 obtain⟨W,hW⟩:=Jx ((w.alloc (.cells #[Qp p] 166)).alloc (.cells #[Qs q.s,Qi q.k,Qi q.l,Qi q.sd] 33));have Q:W.heap.size=w.heap.size+2:=by rw[hW];simp
 have h:Below w.heap.size w W:=by rw[hW];exact(zC _ _).alloc Js _
 have g0:W.cell? (Qa w.heap.size 0)=some (Qp p):=by rw[hW];simp[go_sem]
 have g1:OpC W (w.heap.size+1) q:=by rw[hW];exact⟨Jg,Jg,Jg,Jg⟩
 have HX:=zAn q.s q.k q.l q.sd false W hs;have HG:=zB (yK g0 g1);have HZ:=zB Q;have HB:=zB h;rw[hW] at HX;have HW:=zB hW;clear g0 g1 Q h hW;go_enter func142,ntmps142;go_wp2_with fail;refine HX.mono ?_;rw[<-zA HW];rintro x w1 ⟨rfl,hb1⟩;have X:w.heap.size+2<=w1.heap.size:=by have:=hb1.size;rw[zA HZ] at this;exact this
 have H:Below w.heap.size w (w1.alloc (.cells #[Qi (ZU q.s q.k q.l q.sd false)] 3)):=(HB.trans (hb1.mono HB.size)).alloc Jo _;have l0:w.heap.size<W.heap.size:=by rw[zA HZ];omega
 have l1:w.heap.size+1<W.heap.size:=by rw[zA HZ];omega
 have r0:(w1.alloc (.cells #[Qi (ZU q.s q.k q.l q.sd false)] 3)).cell? (Qa w.heap.size 0)=some (Qp p):=Jc (zC _ _) Jh (Jc hb1 l0 HG.1);have r1:OpC (w1.alloc (.cells #[Qi (ZU q.s q.k q.l q.sd false)] 3)) (w.heap.size+1) q:=(HG.2.kept (zJ.of_below (g:=W.heap.size) hb1) Jo).kept (zJ.of_below (g:=W.heap.size) (zC _ _)) Jo;have r2:(w1.alloc (.cells #[Qi (ZU q.s q.k q.l q.sd false)] 3)).cell? (Qa w1.heap.size 0)=some (Qi (ZU q.s q.k q.l q.sd false)):=Jg;have K:=zB (show zQU w (w1.alloc (.cells #[Qi (ZU q.s q.k q.l q.sd false)] 3)) 184 p q (.func (.func 184) #[] #[Qp (w.heap.size+1),Qp w.heap.size,Qp w1.heap.size]) from⟨_,_,_,rfl,Jo,Jo,Jo,r1,r0,r2⟩);clear r0 r1 r2 l0 l1 HX HG HZ HB hb1 X;go_wp2_with fail;go_ret;exact⟨⟨_,rfl,K⟩,H⟩
theorem zIb(p:Nat)(q:OpR)(w:JY)(hs:q.s.size<=maxLen):Calls prog 144 #[Qp p,.agg #[Qs q.s,Qi q.k,Qi q.l,Qi q.sd]] w fun x w'=>(∃v,x=.returned v/\Hid (zQU w w' 187 p q v))/\Below w.heap.size w w':=by
 obtain⟨W,hW⟩:=Jx ((w.alloc (.cells #[Qp p] 166)).alloc (.cells #[Qs q.s,Qi q.k,Qi q.l,Qi q.sd] 33));have Q:W.heap.size=w.heap.size+2:=by rw[hW];simp
 have h:Below w.heap.size w W:=by rw[hW];exact(zC _ _).alloc Js _
 have g0:W.cell? (Qa w.heap.size 0)=some (Qp p):=by rw[hW];simp[go_sem]
 have g1:OpC W (w.heap.size+1) q:=by rw[hW];exact⟨Jg,Jg,Jg,Jg⟩
 have HX:=zAn q.s q.k q.l q.sd false W hs;have HG:=zB (yK g0 g1);have HZ:=zB Q;have HB:=zB h;rw[hW] at HX;have HW:=zB hW;clear g0 g1 Q h hW;go_enter func144,ntmps144;go_wp2_with fail;refine HX.mono ?_;rw[<-zA HW];rintro x w1 ⟨rfl,hb1⟩;have X:w.heap.size+2<=w1.heap.size:=by have:=hb1.size;rw[zA HZ] at this;exact this
 have H:Below w.heap.size w (w1.alloc (.cells #[Qi (ZU q.s q.k q.l q.sd false)] 3)):=(HB.trans (hb1.mono HB.size)).alloc Jo _;have l0:w.heap.size<W.heap.size:=by rw[zA HZ];omega
 have l1:w.heap.size+1<W.heap.size:=by rw[zA HZ];omega
 have r0:(w1.alloc (.cells #[Qi (ZU q.s q.k q.l q.sd false)] 3)).cell? (Qa w.heap.size 0)=some (Qp p):=Jc (zC _ _) Jh (Jc hb1 l0 HG.1);have r1:OpC (w1.alloc (.cells #[Qi (ZU q.s q.k q.l q.sd false)] 3)) (w.heap.size+1) q:=(HG.2.kept (zJ.of_below (g:=W.heap.size) hb1) Jo).kept (zJ.of_below (g:=W.heap.size) (zC _ _)) Jo;have r2:(w1.alloc (.cells #[Qi (ZU q.s q.k q.l q.sd false)] 3)).cell? (Qa w1.heap.size 0)=some (Qi (ZU q.s q.k q.l q.sd false)):=Jg;have K:=zB (show zQU w (w1.alloc (.cells #[Qi (ZU q.s q.k q.l q.sd false)] 3)) 187 p q (.func (.func 187) #[] #[Qp (w.heap.size+1),Qp w.heap.size,Qp w1.heap.size]) from⟨_,_,_,rfl,Jo,Jo,Jo,r1,r0,r2⟩);clear r0 r1 r2 l0 l1 HX HG HZ HB hb1 X;go_wp2_with fail;go_ret;exact⟨⟨_,rfl,K⟩,H⟩
theorem zRE{c:Value}{l:List Lit}{d:Nat}(h:prog.keyLits (d+1) 9 [c]=some l):∃s,c=.string s/\s.size<=maxLen:=by
 unfold Program.keyLits at h;rw[underlying9] at h;cases c with
 |string s=>
  simp only at h;split at h
  ·rename_i hs;exact⟨s,rfl,hs⟩
  ·cases h
 |_=>simp at h
theorem zRF{c:Value}{l:List Lit}{d:Nat}(h:prog.keyLits (d+1) 3 [c]=some l):∃n,c=.int .i64 n/\(Lit.int .i64 n).wf=true:=by
 unfold Program.keyLits at h;rw[underlying3] at h;cases c with
 |int q n=>
  simp only at h;split at h
  ·rename_i hs;obtain⟨rfl,hw⟩:=hs;exact⟨n,rfl,hw⟩
  ·cases h
 |_=>simp at h
theorem zRG{c0 c1:Value}{ls:List Lit}{d:Nat}(h:prog.keyLits (d+1+1) 210 [c0,c1]=some ls):∃s kd,c0=.string s/\c1=.int .i64 kd/\s.size<=maxLen/\(Lit.int .i64 kd).wf=true:=by
 have e:prog.keyLits (d+1+1) 210 [c0,c1]=(prog.keyLits (d+1) 9 [c0]).bind fun a=>(prog.keyLits (d+1) 3 [c1]).map fun b=>a++b:=by
  conv=>lhs;unfold Program.keyLits
  rw[underlying210];cases h0:prog.keyLits (d+1) 9 [c0] with
  |none=>simp[zHf,cells9,cells3,h0]
  |some l0=>
   cases h1:prog.keyLits (d+1) 3 [c1] with
   |none=>simp[zHf,cells9,cells3,h0,h1]
   |some l1=>simp[zHf,cells9,cells3,h0,h1]
 rw[e] at h;cases h0:prog.keyLits (d+1) 9 [c0] with
 |none=>rw[h0] at h;cases h
 |some l0=>
  cases h1:prog.keyLits (d+1) 3 [c1] with
  |none=>rw[h0,h1] at h;cases h
  |some l1=>
   obtain⟨s,rfl,hs⟩:=zRE h0;obtain⟨kd,rfl,hw⟩:=zRF h1;exact⟨s,kd,rfl,rfl,hs,hw⟩
theorem zJw{key:Value}{kl:Lit}(h:keyOf prog 210 key=some kl):∃s kd,key=.agg #[.string s,.int .i64 kd]/\s.size<=maxLen/\(Lit.int .i64 kd).wf=true:=by
 unfold keyOf at h;rw[underlying210] at h;simp only[zSE,Bool.true_and] at h;split at h
 ·rename_i hf;cases key with
  |agg cs=>
   simp only[Value.formed,underlying210,zHf,beq_iff_eq] at hf;obtain⟨l⟩:=cs;match l,hf with
   |[c0,c1],_=>
    obtain⟨ls,hl,_⟩:=Option.map_eq_some_iff.1 h;have H:prog.keyLits (prog.types.size+1) 210 [c0,c1]=some ls:=hl;rw[zHe] at H;obtain⟨s,kd,rfl,rfl,hs,hw⟩:=zRG H;exact⟨s,kd,rfl,hs,hw⟩
  |_=>simp[Value.formed,underlying210] at hf
 ·cases h
theorem zHG{y:DataW Unit×List MemPlace}(h:zAU v=some y):∃c:ByteArray×Int×Int×Int,v=.agg #[.string c.1,.int .i64 c.2.1,.int .i64 c.2.2.1,.int .i64 c.2.2.2]:=by
 obtain⟨s,k,l,sd,rfl⟩:=zEr h;exact⟨(s,k,l,sd),rfl⟩
theorem zJx{key:Value}{kl:Lit}(h:keyOf prog 210 key=some kl):∃x:ByteArray×Int,key=.agg #[.string x.1,.int .i64 x.2]:=by
 obtain⟨s,kd,rfl,_⟩:=zJw h;exact⟨(s,kd),rfl⟩
theorem zIc(bo bs:Nat)(xs:List OpR)(w:JY)(hi:Idx w bo bs xs xs.length)(hv:zA0 xs)(P:ZA xs)(C:zBi xs xs.length):Calls prog 137 #[.agg #[.map (some bo),.map (some bs)]] w fun e w'=>(∃L:Nat,e=.returned (.int .i64 (L:Int))/\L<=16/\∀j,j<xs.length->(atO xs j).s.size<=L)/\Below w.heap.size w w':=by
 obtain⟨⟨D,X,hD⟩,_,_⟩:=hi;have HD:=zB hD;have HV:=zB hv;have HZ:=zB P;have a:=zB C;have N:=X.lt;clear hD hv P C;have e1:(w.alloc (.cells #[.map (some bo),.map (some bs)] 161)).heap.size=w.heap.size+1:=Js;go_enter func137,ntmps137;go_wp2_with (at_range;refine wpList_range_own _ rfl _ 158 rfl 210 33 zKV underlying158 zAU bo xs.length D rfl (X.alloc _) ?_;intro w0 Q F I);go_frame;rw[e1] at Q I ⊢;have f:Below w.heap.size w w0:=(zC _ _).grown F Js (fun j hj=>by cases hj);go_loopw [3] (fun lv wr=>∃(L:Nat)(left:Lit->Bool)(cnt:Nat),lv=.int .i64 (L:Int)/\L<=16/\Hid (wr.ranges prog 210 zAU bo (w.heap.size+1) xs.length D left cnt)/\Hid (∀j,j<xs.length->left (klO (atO xs j).s (atO xs j).k)=false->(atO xs j).s.size<=L)/\Hid (∀kl,left kl=true->Maps.has D kl=true)/\w.heap.size+1<wr.heap.size/\Hid (Below w.heap.size w wr)) (fun _ wr=>wr.rangeLeft bo (w.heap.size+1));case atStart=>
  refine⟨0,_,_,rfl,Jo,zB Q,zB (fun j hj h=>?_),zB (fun kl h=>h),Jo,zB f⟩;have:=((HD (atO xs j).s (atO xs j).k (HZ j hj) (zHg (a j hj))).1).2 ⟨j,hj,rfl,rfl⟩;rw[this] at h;cases h
 case round=>
  obtain⟨L,left,cnt,rfl,hL,B,J,q,hz,K⟩:=hrel;go_wp2_with (at_next;refine wpList_next_ranges _ rfl _ rfl 210 zKV zAU (fun x:ByteArray×Int=>.agg #[.string x.1,.int .i64 x.2]) (fun c:ByteArray×Int×Int×Int=>.agg #[.string c.1,.int .i64 c.2.1,.int .i64 c.2.2.1,.int .i64 c.2.2.2]) (fun key kl h=>zJx h) (fun v y h=>zHG h) bo (w.heap.size+1) xs.length D left cnt rfl B ?_ ?_)
  ·intro o G;go_wp2;go_ret;exact⟨⟨L,rfl,hL,fun j hj=>J j hj (G _)⟩,K⟩
  ·intro s kd s2 k2 l2 sd2 kl yd yp w1 cnt1 H A M l d i U S O;obtain⟨s',kd',he,Y,p⟩:=zJw H;simp only[Value.agg.injEq,Array.mk.injEq,List.cons.injEq,Value.string.injEq,Value.int.injEq,true_and,and_true] at he;obtain⟨rfl,rfl⟩:=he;have E:kl=klO s kd:=by
    have:=zLu Y p;rw[this] at H;injection H with H;exact H.symm
   subst E;have n:s.size<=16:=by
    obtain⟨j,hj,e,_⟩:=((HD s kd Y p).1).1 (q _ A);rw[<-e];exact(HV j hj).2.1
   obtain⟨L',R⟩:∃L':Nat,L'=max L s.size:=⟨_,rfl⟩;have r:max (L:Int) (s.size:Int)=(L':Int):=Jo;have g:=zB (show ∀j,j<xs.length->((fun z=>left z&&!z.sameKey (klO s kd)) (klO (atO xs j).s (atO xs j).k))=false->(atO xs j).s.size<=L' from fun j hj h=>by
    simp only[Bool.and_eq_false_iff,Bool.not_eq_false'] at h
    rcases h with h|h
    ·have:=(zA J) j hj h;omega
    ·have e:klO (atO xs j).s (atO xs j).k=klO s kd:=by simpa[Lit.sameKey,klO] using h
     have e':=(zLv (HZ j hj) Y (zHg (a j hj)) p e).1
     rw[e'];omega)
   have u:=zB (show ∀z,((fun z=>left z&&!z.sameKey (klO s kd)) z)=true->Maps.has D z=true from fun z h=>by
    simp only[Bool.and_eq_true] at h
    exact q z h.1)
   have b:=zB (K.grown U K.size (fun j hj=>by injection hj with hj;omega));have V:=zB (d.alloc (.cells #[.string s,.int .i64 kd] 210));have m:Hid (cnt1<cnt):=i;clear H A M l J q K U;go_wp2;refine⟨⟨L',_,cnt1,?_,Jo,V,g,u,Jq,zB (b.alloc b.size _)⟩,?_⟩
   ·first|rfl|(congr 1;omega)
   ·rw[(zA V).left_eq,(zA B).left_eq];exact m
def ZR(zs:List ZG):List Value:=zs.flatMap fun x=>[Qs x.t,.bool x.o,.bool x.i]
theorem Z5(xs ys:List ZG):ZR (xs++ys)=ZR xs++ZR ys:=by simp[ZR]
theorem zLV:∀(zs:List ZG)(i:Nat),i<zs.length->(ZR zs)[i*3]?=some (Qs (atW zs i).t)/\(ZR zs)[i*3+1]?=some (.bool (atW zs i).o)/\(ZR zs)[i*3+2]?=some (.bool (atW zs i).i)
 |[],i,h=>yR h (yx i)
 |o::r,0,_=>⟨rfl,rfl,rfl⟩
 |o::r,i+1,h=>by
  have ih:=zLV r i (Ju h);have e:∀j,(ZR (o::r))[(i+1)*3+j]?=(ZR r)[i*3+j]?:=fun j=>by
   have:(i+1)*3+j=(i*3+j)+3:=Jo;rw[this];rfl
  exact⟨(e 0).trans ih.1,(e 1).trans ih.2.1,(e 2).trans ih.2.2⟩
theorem zAk(zs:List ZG):∀u∈ZR zs,u.oneCell'=true:=by
 intro u hu;simp only[ZR,List.mem_flatMap] at hu;obtain⟨o,_,ho⟩:=hu;simp at ho;rcases ho with rfl|rfl|rfl<;>rfl
theorem zXM:(prog.info? 104).map (fun i=>(i.zero,i.size,i.bytes))=some (some (.agg #[Qs ⟨#[]⟩,.bool false,.bool false]),3,24):=Jk
theorem zDB(w:JY)(x:ZG):∀j u,(ZR [x])[j]?=some u->(w.alloc (.cells #[Qs x.t,.bool x.o,.bool x.i] 104)).cell? ((Qa w.heap.size 0).add j)=some u:=by
 intro j u hj;rw[Addr.add_mid];have:=yC (w:=w.alloc (.cells #[Qs x.t,.bool x.o,.bool x.i] 104)) (b:=w.heap.size) (heap_alloc_new w _) 0 3;exact this j u (by simpa[ZR] using hj)
def zCC(w:JY)(B:Nat)(u:Value)(us:List ZG):Prop:=w.ownsRow B 104 3 u us.length (ZR us)
theorem zCU{us:List ZG}(h:zCC w B u us):∃a c,u=.slice a us.length c:=by
 obtain⟨_,⟨h1,h2⟩|⟨g,cap,H,h1,_⟩⟩:=h
 ·exact⟨none,0,by rw[h2];exact h1⟩
 ·exact⟨_,_,h1⟩
theorem zCC.below{us:List ZG}(h:zCC w B u us)(hb:Qb w w'):zCC w' B u us:=
 World.ownsRow.kept h (zE hb none) (by cases u.ownBlock with
 |none=>exact yS rfl
 |some k=>exact yU Js)
theorem zCC.lt{w:JY}{B:Nat}{u:Value}{us:List ZG}(h:zCC w B u us):∀g,u.ownBlock=some g->B<=g/\g<w.heap.size:=fun g hg=>World.ownsRow.lt h g hg
def zU1(w:JY)(g:Nat)(ws:List ZG):Prop:=∀i,i<ws.length->w.cell? (Qa g (i*3))=some (Qs (atW ws i).t)/\w.cell? (Qa g (i*3+1))=some (.bool (atW ws i).o)/\w.cell? (Qa g (i*3+2))=some (.bool (atW ws i).i)
theorem zU1.below{ws:List ZG}(h:zU1 w g ws)(hb:Below B w w')(hB:g<B):zU1 w' g ws:=fun i hi=>by
 obtain⟨h0,h1,h2⟩:=h i hi;exact⟨Jc hb hB h0,Jc hb hB h1,Jc hb hB h2⟩
theorem zCC.ops{c:Nat}{us:List ZG}(h:zCC w B (Ql g us.length c) us):zU1 w g us:=fun i hi=>by
 obtain⟨c0,c1,c2⟩:=zLV us i hi;have e:=fun j (hj:j<3)=>World.ownsRow.cellAt h (i*3+j) Jo
 exact⟨Ju ((e 0 Jo).trans c0),Ju ((e 1 Jo).trans c1),Ju ((e 2 Jo).trans c2)⟩
def zN1(w:JY)(B:Nat)(u:Value)(vs:List ZG)(x:Ending)(w':JY):Prop:=
 ∃u',x=.returned u'/\Hid (zCC w' B u' vs)/\Hid (w.grownBy w' u.ownBlock)/\Hid (u'.ownBlock=u.ownBlock\/∃k,u'.ownBlock=some k/\w.heap.size<=k)
theorem zN1.join{w1:JY}{u1:Value}{vs:List ZG}(h2:w.grownBy w1 u.ownBlock)(h3:u1.ownBlock=u.ownBlock\/∃k,u1.ownBlock=some k/\w.heap.size<=k){x:Ending}(hp:zN1 w1 B u1 vs x w'):zN1 w B u vs x w':=by
 obtain⟨u',rfl,p1,p2,p3⟩:=hp;exact⟨u',rfl,p1,zB (zX h2 p2 h3),zB (ZZ h2 h3 _ p3)⟩
theorem zPJ{us ks:List OpR}(h:k<us.length):za ks (us.take (k+1))=zDz (za ks (us.take k)) (atO us k):=by
 rw[List.take_add_one,yr h,zD0];unfold za atO;simp[h]
theorem zGC:∀(xs H:List OpR),(za H xs).length<=H.length+xs.length
 |[],H=>by simp[za]
 |x::r,H=>by
  show(za (zDz H x) r).length<=_;have h1:=zGC r (zDz H x);have h2:(zDz H x).length<=H.length+1:=by
   by_cases h:x∈H
   ·rw[zDI h];omega
   ·rw[zEi h];simp
  simp;omega
theorem zIL(b o B:Nat)(kv:Value)(pv:Option Nat)(ks:List OpR)(v:Value)(us:List OpR)(w:JY)(h:zD3 w b o B kv pv ks)(hs:∀x∈us,zEs x)(hl:ks.length+us.length<=1048576)(hB:B<=w.heap.size)(hr:ZS w v us)(ha:Apt v b kv pv):Calls prog 98 #[.pointer (some (Qa b o)),v] w fun e w'=>e=.returned (.tuple #[])/\ZT w b o B kv pv (za ks us) w':=by
 have u:=h.lt;have HP:=zB (show ZT w b o B kv pv (za ks (us.take 0)) w from⟨kv,pv,by simpa[za] using h,Eff.refl _ _ _ _ _,yS rfl,yS rfl⟩);have HA:=zB ha;have HS:=zB hs;have HR:=zB hr;obtain⟨a,c,rfl,_⟩:=hr;clear h ha hs;go_enter func98,ntmps98;go_wp2;go_loopw [8] (fun i wr=>∃(k:Nat),k<=us.length/\i=Qi k/\Hid (ZT w b o B kv pv (za ks (us.take k)) wr)) (fun i _=>us.length-(intOf i).toNat);case atStart=>exact⟨0,ym _,rfl,HP⟩
 case round=>
  obtain⟨k,hk,rfl,HQ⟩:=hrel;by_cases H:k<us.length
  ·have V:(k:Int)<(us.length:Int):=Jo;obtain⟨kv1,pv1,h1,h2,h3,h4⟩:=zA HQ;obtain⟨a',c',Q,h5⟩:=zA HR;obtain⟨rfl,rfl⟩:a=a'/\c=c':=by injection Q with x _ y;exact⟨x,y⟩
   rcases h5 with⟨h5,_⟩|⟨g,rfl,P,J⟩
   ·omega
   obtain⟨a1,a2,a3⟩:=(zA HA) g rfl;have ec:=fun j=>h2.cell P a1 a2 a3 j
   obtain⟨q0,q1,q2,q3⟩:=J k H;have e0:=(ec _).trans q0;have e1:=(ec _).trans q1;have e2:=(ec _).trans q2;have e3:=(ec _).trans q3;simp only[yY] at e0 e1 e2 e3;have q:=zGC (us.take k) ks;rw[List.length_take] at q;have hz:=h2.size;obtain⟨t,ht⟩:=Jx (atO us k);have HT:=zB (zPJ (ks:=ks) H);rw[<-ht] at e0 e1 e2 e3 HT;have Y:zEs t:=(zA HS) t (by rw[ht];unfold atO;simp[H]);obtain⟨W,hW⟩:=Jx (wr.alloc (.cells #[Qs t.s,Qi t.k,Qi t.l,Qi t.sd] 33));have K:Qb wr W:=by rw[hW];exact zC _ _
   have p:wr.heap.size+1<=W.heap.size:=by rw[hW];simp
   have HX:=zB (zSw b o B kv1 pv1 _ t W (h1.below K) Y Jo Jo);have HF:=zB (fun w2 (hh:ZT W b o B kv1 pv1 (zDz (za ks (us.take k)) t) w2)=>show ZT w b o B kv pv (za ks (us.take (k+1))) w2 from(by rw[zA HT];exact ZT.step (h2.trans (Eff.of_below K h1.lt _ kv1 pv1) h3 h4) h3 h4 hh));have X:=zB hW;clear Q h1 h2 h3 h4 q HQ ec q0 q1 q2 q3 ht HT hW K p;go_wp2_with (first|(go_at_call 146;rw[<-zA X];(with_reducible refine(zA HX).mono ?_);rintro e w1 ⟨⟨y,rfl,_⟩,hpo⟩;have HN:=zB (HF w1 hpo);clear hpo));exact⟨⟨k+1,Jo,Jn,HN⟩,Ji⟩
  ·have HN:=zB (by have:=zA HQ;rwa[List.take_of_length_le Jo] at this:ZT w b o B kv pv (za ks us) wr);go_wp2;go_end0;exact⟨rfl,HN⟩
end Go.Proofs.YtadiaghhackbjaaGreatDoor
