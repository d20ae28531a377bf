import Derived.Test.YtadiaghhackbjaaGreatDoorU13
namespace Go.Proofs.YtadiaghhackbjaaGreatDoor
set_option linter.all false
set_option maxHeartbeats 0
set_option maxRecDepth 100000
open Proofs.Tryz RowKit
variable{B i k n:Nat}{T:Nat -> List OpR}{d:Nat -> Bool}{ms us:List zH}{os:List OpR}{rk:Nat -> Nat}{v:Value}{w:World}
def upB(d:Nat->Bool)(i:Nat):Nat->Bool:=fun j=>if j=i then true else d j
def upT(T:Nat->List OpR)(i:Nat)(x:List OpR):Nat->List OpR:=fun j=>if j=i then x else T j
def zD5(w:JY)(v:Value)(os:List OpR):Prop:=∃g c,v = Ql g os.length c/\g<w.heap.size/\Ops w g 0 os
theorem zD5.at'(h:zD5 w v os):ZS w v os:=by
 obtain⟨g,c,rfl,h1,h2⟩:=h;exact⟨_,c,rfl,yU ⟨g,rfl,h1,h2⟩⟩
theorem zD5.of(h:ZS w v os)(hq:∃q,v.ownBlock=some q):zD5 w v os:=by
 obtain⟨a,c,rfl,⟨_,rfl,_⟩|⟨g,rfl,h1,h2⟩⟩:=h
 ·obtain⟨q,hq⟩:=hq;cases hq
 ·exact⟨g,c,rfl,h1,h2⟩
theorem zD5.blk(h:zD5 w v os):∃q,v.ownBlock=some q:=by
 obtain⟨g,c,rfl,_⟩:=h;exact⟨g,rfl⟩
theorem zD5.below{w w':JY}{v:Value}{os:List OpR}(h:zD5 w v os)(hb:Qb w w'):zD5 w' v os:=zD5.of (h.at'.below hb) h.blk
structure zMN(w:JY)(n O D:Nat)(d:Nat->Bool)(T:Nat->List OpR)(wr:JY):Prop where
 dn:zDj wr D n d
 cs:∀i,i<n->∃v,wr.cell? (Qa O i)=some v/\wr.frozen? (Qa O i)=false/\(d i=true->zD5 wr v (T i)/\∀g,v.ownBlock=some g->g≠O/\g≠D/\w.heap.size<=g)
 bel:Qb w wr
 hO:w.heap.size<=O
 hD:w.heap.size<=D
 hOl:O<wr.heap.size
 hOD:O≠D
theorem zMN.below{w wr wr':JY}{n O D:Nat}{d:Nat->Bool}{T:Nat->List OpR}(h:zMN w n O D d T wr)(hb:Qb wr wr'):zMN w n O D d T wr':=
 ⟨h.dn.below hb,fun i hi=>by
  obtain⟨v,h1,h2,h3⟩:=h.cs i hi
  exact⟨v,Jc hb h.hOl h1,(hb.frozen (p:=Qa O i) h.hOl).trans h2,fun e=>⟨(h3 e).1.below hb,(h3 e).2⟩⟩,h.bel.trans (hb.mono h.bel.size),h.hO,h.hD,yl h.hOl hb.size,h.hOD⟩
theorem zD5.set(h:zD5 w v os)(p o:Nat)(x:Value)(H:∀g,v.ownBlock=some g->g≠p):zD5 (w.setCell (Qa p o) x) v os:=
 zD5.of (h.at'.grown (ZJ w p o x) (fun g e x=>by injection x with x;exact H g e x.symm)) h.blk
theorem ZS.set(h:ZS w v os)(p o:Nat)(x:Value)(H:∀g,v.ownBlock=some g->g≠p):ZS (w.setCell (Qa p o) x) v os:=
 h.grown (ZJ w p o x) (fun g e x=>by injection x with x;exact H g e x.symm)
theorem zMN.done{wr:JY}{O D:Nat}{X:List OpR}(h:zMN w n O D d T wr)(hi:i<n)(hv:zD5 wr v X)(k:∀g,v.ownBlock=some g->g≠O/\g≠D/\w.heap.size<=g):zMN w n O D (upB d i) (upT T i X) ((wr.setCell (Qa O i) v).setCell (Qa D i) (.bool true)):=by
 have H:=h.hOD;refine⟨?_,fun j hj=>?_,(h.bel.setCell (p:=Qa O i) h.hO _).setCell (p:=Qa D i) h.hD _,h.hO,h.hD,by simpa[World.setCell] using h.hOl,H⟩
 ·exact((h.dn.grown (ZJ wr O i v) (fun x=>H (by injection x))).set hi true).congr (fun j _=>rfl)
 ·obtain⟨u,h1,h2,h3⟩:=h.cs j hj;have hc:∀(W:JY),(W.setCell (Qa D i) (.bool true)).cell? (Qa O j)=W.cell? (Qa O j):=fun W=>yj _ _ _ _ (by first|(simp;done)|(simp;intro e;exact yR e.symm H)|(intro x;injection x with x;exact H x.symm))
  have hf:((wr.setCell (Qa O i) v).setCell (Qa D i) (.bool true)).frozen? (Qa O j)=false:=by
   rw[yv,yv];exact h2
  by_cases e:j=i
  ·subst e;refine⟨v,by rw[hc];exact yt _ _ _ h1,hf,fun _=>⟨?_,k⟩⟩;simp only[upT,if_true];exact(hv.set O j v (fun g e=>(k g e).1)).set D j _ (fun g e=>(k g e).2.1)
  ·refine⟨u,by rw[hc,yj _ _ _ _ (by first|(simp;done)|(simp;omega)|(intro x;injection x with _ x;omega))];exact h1,hf,fun hd=>?_⟩;simp only[upB,e,if_false] at hd;simp only[upT,e,if_false];obtain⟨h4,h5⟩:=h3 hd;exact⟨(h4.set O i v (fun g e=>(h5 g e).1)).set D i _ (fun g e=>(h5 g e).2.1),h5⟩
def zJy(ms:List zH)(U:List UnR)(d:Nat->Bool)(T:Nat->List OpR):Prop:=∀i,i<ms.length->d i=true->(∀u∈(atU U i).us,d (nmF ms u)=true)/\T i=zAB (nmF ms) T (za [] (atU U i).os) (atU U i).us/\(T i).Nodup/\∀o∈T i,o∈Zm U
theorem zJy.step{U:List UnR}{i:Nat}{X:List OpR}(h:zJy ms U d T)(hU:U.length=ms.length)(hi:i<ms.length)(hn:d i=false)(Q:∀u∈(atU U i).us,nmF ms u<ms.length)(hu:∀u∈(atU U i).us,d (nmF ms u)=true)(hX:X=zAB (nmF ms) T (za [] (atU U i).os) (atU U i).us):zJy ms U (upB d i) (upT T i X):=by
 have q:∀k,d k=true->k≠i:=fun k hk e=>by rw[e,hn] at hk;cases hk
 have hT:∀(us:List JZ)(K:List OpR),(∀u∈us,d (nmF ms u)=true)->zAB (nmF ms) T K us=zAB (nmF ms) (upT T i X) K us:=fun us K hd=>zFK us K (fun u hu=>by
  simp only[upT,q _ (hd u hu),if_false])
 intro j hj hd;by_cases e:j=i
 ·subst e;refine⟨fun u H=>by simp only[upB];rw[hu u H];split<;>rfl,?_,?_,?_⟩
  ·simp only[upT,if_true];rw[hX];exact(hT _ _ hu).trans (by rw[<-hX])
  ·simp only[upT,if_true];rw[hX];exact zFJ _ _ _ _ (zA2 _ _ Js)
  ·simp only[upT,if_true];intro o ho;rw[hX,zFs,Zu] at ho;rcases ho with(ho|ho)|⟨u,H,ho⟩
   ·cases ho
   ·exact List.mem_flatMap.2 ⟨atU U j,zGs Jo,ho⟩
   ·exact(h _ (Q u H) (hu u H)).2.2.2 o ho
 ·simp only[upB,e,if_false] at hd;obtain⟨h1,h2,h3,h4⟩:=h j hj hd;have eT:upT T i X j=T j:=by simp only[upT,e,if_false]
  rw[eT];refine⟨fun u H=>by simp only[upB];rw[h1 u H];split<;>rfl,?_,h3,h4⟩;rw[<-hT _ _ h1];exact h2
def rdy(ms:List zH)(d:Nat->Bool)(i:Nat)(us:List JZ)(k:Nat):Bool:=!d i&&(us.take k).all (fun u=>d (nmF ms u))
theorem zS9{us:List JZ}{u:JZ}(h:us[k]?=some u):rdy ms d i us (k+1)=(rdy ms d i us k&&d (nmF ms u)):=by
 unfold rdy;rw[List.take_add_one,h,List.all_append];simp[Bool.and_assoc]
theorem zPK{nm:ByteArray->Nat}{H:List OpR}{us:List JZ}{u:JZ}(h:us[k]?=some u):zAB nm T H (us.take (k+1))=za (zAB nm T H (us.take k)) (T (nm u)):=by
 rw[List.take_add_one,h];exact zI9 nm T H (us.take k) u
def zCD(n:Nat)(rk:Nat->Nat)(d:Nat->Bool)(r i:Nat):Prop:=∀j,j<n->(rk j<r\/(rk j=r/\j<i))->d j=true
theorem zCD.up{r:Nat}(h:zCD n rk d r i):zCD n rk (upB d k) r i:=fun j hj hr=>by
 simp only[upB];rw[h j hj hr];split<;>rfl
theorem zCD.next{r:Nat}(h:zCD n rk d r i)(hi:rk i=r->d i=true):zCD n rk d r (i+1):=fun j hj hr=>by
 by_cases e:j=i
 ·subst e;rcases hr with hr|⟨hr,_⟩
  ·exact h j hj (yS hr)
  ·exact hi hr
 ·exact h j hj Jo
theorem zCD.round{r:Nat}(h:zCD n rk d r n):zCD n rk d (r+1) 0:=fun j hj hr=>h j hj Jo
theorem zQW:(prog.info? 63).map (fun i=>(i.zero,i.size,i.bytes))=some (some (.agg #[.slice none 0 0]),1,24):=Jk
def zU4(w:JY)(ms:List zH)(U:List UnR)(e:Ending)(w':JY):Prop:=∃(g:Nat)(S:Nat->List OpR),e=.returned (Ql g ms.length ms.length)/\w.heap.size<=g/\g<w'.heap.size/\Hid (ScE ms U S)/\Hid (∀i,i<ms.length->(∀o∈S i,o∈Zm U)/\∃v,w'.cell? (Qa g i)=some v/\zD5 w' v (S i)/\∀q,v.ownBlock=some q->w.heap.size<=q)/\Qb w w'
theorem zTA(w:JY)(n:Nat)(j:Nat)(hj:j<n):(w.alloc (.cells (madeCells #[.slice none 0 0] n) 63)).cell? (Qa w.heap.size j)=some (.slice none 0 0):=by
 have h:=yC (w:=w.alloc (.cells (madeCells #[.slice none 0 0] n) 63)) (b:=w.heap.size) (heap_alloc_new w _) 0 n;have h1:=h j (.slice none 0 0) (by
  simp only[madeCells]
  simp[hj,Nat.mod_one])
 simpa using h1
theorem zMO(a:Option Addr)(c0 gU cU:Nat)(ms:List zH)(vs:List UvR)(U:List UnR)(w:JY)(rk:Nat->Nat)(hn:ms.length<=100)(hM:zB3 w a ms)(Hh:zNV w gU vs)(H9:gU<w.heap.size)(He:zCu w w.heap.size vs U)(Z:Zo ms U)(hY:vs.length=ms.length)(h4:∀i,i<ms.length->¬ B4 ms U i)(h2:∀i,i<ms.length->∀u∈(atU U i).us,rk (nmF ms u)<rk i)(h7:∀i,i<ms.length->rk i<ms.length):Calls prog 42 #[.slice a ms.length c0,Ql gU ms.length cU] w (zU4 w ms U):=by
 obtain⟨n,hC⟩:=Jx ms.length;have h5:∀W:JY,(Instr.makeSlice 54 (Qi n) (Qi n)).run prog W=.ok (Ql W.heap.size n n) (W.alloc (.cells (madeCells #[.slice none 0 0] n) 63)):=by
  obtain⟨inf,hi,hz⟩:=Option.map_eq_some_iff.1 zQW;simp only[Prod.mk.injEq] at hz;obtain⟨hz,hB,hQ⟩:=hz;intro W;have:=run_make (P:=prog) W 54 63 inf _ underlying54 hi hz .i64 .i64 n n Jo Jo (by rw[hQ];omega) Jo;simpa[hB,Value.cells] using this
 have h6:∀W:JY,(Instr.makeSlice 57 (Qi n) (Qi n)).run prog W=.ok (Ql W.heap.size n n) (W.alloc (.cells (madeCells #[.bool false] n) 4)):=by
  obtain⟨inf,hi,hz⟩:=Option.map_eq_some_iff.1 zLR;simp only[Prod.mk.injEq] at hz;obtain⟨hz,hB,hQ⟩:=hz;intro W;have:=run_make (P:=prog) W 57 4 inf _ underlying57 hi hz .i64 .i64 n n Jo Jo (by rw[hQ];omega) Jo;simpa[hB,Value.cells] using this
 have h8:Hid ((Zm U).length<=400000):=Z.all hn;have HM:=zB hM;have H7:=zB Hh;have Hs:=zB He;have Hb:=zB hY;have hV:=zB (fun u=>zFT a c0 ms u);have hX:=zB (show ∀i,i<ms.length->∀u∈(atU U i).us,nmF ms u<ms.length from fun i hi u hu=>by
  have HY:=zHd ms u
  by_cases e:nmF ms u<ms.length
  ·exact e
  ·refine yR ⟨u,hu,fun j hj=>?_⟩ (h4 i hi)
   exact(zAx ms u).2 j Jo)
 have hN:Hid (∀i,i<ms.length->(atU U i).us.length<=20001/\(atU U i).os.length<=4000):=fun i hi=>⟨(zEH (Z.2 i hi)).1,(zEG (Z.2 i hi)).1⟩
 have Hl:=zB h2;have Hd:=zB h7;have hg:=zB Z.1;rw[<-hC] at hV hX hN Hb Hl Hd hg hn ⊢;have Y:=zB hC;clear hM Hh He Z hY h4 hC h2 h7;have HB:=h5 w;have HD:=h6 (w.alloc (.cells (madeCells #[.slice none 0 0] n) 63));clear h5 h6;go_enter func42,ntmps42;go_wp2_with fail;clear HB HD;obtain⟨W0,hE⟩:=Jx ((w.alloc (.cells (madeCells #[.slice none 0 0] n) 63)).alloc (.cells (madeCells #[.bool false] n) 4));obtain⟨O,hO⟩:=Jx w.heap.size;obtain⟨D,hD⟩:=Jx (w.heap.size+1);have Hf:=zB (show zMN w n O D (fun _=>false) (fun _=>[]) W0 by
  rw[hE,hO,hD]
  refine⟨?_,fun i hi=>⟨.slice none 0 0,?_,?_,fun e=>by cases e⟩,(zC _ _).alloc Js _,yk _,Jo,Jq,Jo⟩
  ·have:=zLQ (w.alloc (.cells (madeCells #[.slice none 0 0] n) 63)) n
   simpa using this
  ·exact((zC (w.alloc (.cells (madeCells #[.slice none 0 0] n) 63)) _).cell (p:=Qa w.heap.size i) Js).trans (zTA w n i hi)
  ·simp[go_sem])
 rw[<-hE,<-hD,<-hO];clear hE;have H5:w.heap.size<=O:=Jo;have Hx:O≠D:=Jo;clear hO hD;go_loopw [8] (fun ir wr=>∃(r:Nat)(d:Nat->Bool)(T:Nat->List OpR),r<=n/\ir=Qi r/\Hid (zMN w n O D d T wr)/\Hid (zJy ms U d T)/\Hid (zCD n rk d r 0)) (fun ir _=>n-(intOf ir).toNat);case atStart=>exact⟨0,fun _=>false,fun _=>[],ym _,rfl,Hf,zB (fun i hi e=>by cases e),zB (fun j hj h=>Jo)⟩
 case round=>
  clear Hf;obtain⟨r,d0,T0,hr,rfl,HS,HE,y⟩:=hrel;obtain⟨wo,rfl⟩:=Jx wr;by_cases HL:r<n
  ·have HV:(r:Int)<(n:Int):=Jo;go_wp2_with fail;go_loopw [9] (fun ii wr=>∃(k:Nat)(d:Nat->Bool)(T:Nat->List OpR),k<=n/\ii=Qi k/\Hid (zMN w n O D d T wr)/\Hid (zJy ms U d T)/\Hid (zCD n rk d r k)) (fun ii _=>n-(intOf ii).toNat);case atStart=>exact⟨0,d0,T0,ym _,rfl,HS,HE,y⟩
   case round=>
    clear HS HE y;obtain⟨k,d,T,hk,rfl,HS,HE,y⟩:=hrel;obtain⟨wi,rfl⟩:=Jx wr;by_cases K:k<n
    ·have HR:(k:Int)<(n:Int):=Jo;have Ho:=HS.bel.size;have hS:=HS.hOl;have HN:=HS.dn.1;obtain⟨us,he⟩:=Jx ((atU U k).us);obtain⟨os,hP⟩:=Jx ((atU U k).os);have HP:us.length<=20001:=by rw[he];exact(hN k K).1
     have HT:os.length<=4000:=by rw[hP];exact(hN k K).2
     have b:=zB (by rw[he];exact hX k K:∀u∈us,nmF ms u<n);have Hc:=zB (by rw[he];exact Hl k K:∀u∈us,rk (nmF ms u)<rk k);have hy:=zB he;have hR:=zB hP;clear he hP;have Hp:k<vs.length:=by rw[zA Hb];exact K
     have hf:=zB (show ∀W:JY,Below w.heap.size w W->W.cell? (Qa gU (k*3))=some (atV vs k).vu/\W.cell? (Qa gU (k*3+1))=some (atV vs k).vo/\ZO W (atV vs k).vu us/\ZS W (atV vs k).vo os/\(∀g,(atV vs k).vu.ownBlock=some g->g<w.heap.size) from fun W hb=>by
      obtain⟨v0,v1,_⟩:=(H7.below hb H9) k Hp
      have hx:=Hs.belowB hb (yk _)
      obtain⟨⟨q1,q2,_⟩,q3,_⟩:=hx.2 k Hp
      rw[<-zA hy] at q1
      rw[<-zA hR] at q2
      exact⟨v0,v1,q1,q2,q3⟩)
     obtain⟨b0,f0⟩:=HS.dn.2 k K;obtain⟨R0,HA⟩:∃R0:Bool,R0=!d k:=⟨_,rfl⟩;have H2:=zB (by simp[rdy]:rdy ms d k us 0=!d k);clear HA R0;go_wp2_with fail;go_loopw [10,11] (fun rv ik wr=>∃q:Nat,q<=us.length/\ik=Qi q/\rv=.bool (rdy ms d k us q)/\wr=wi) (fun _ ik _=>us.length-(intOf ik).toNat);case atStart=>exact⟨0,ym _,rfl,by rw[zA H2],rfl⟩
     case round=>
      obtain⟨q,hq,rfl,rfl,rfl⟩:=hrel;obtain⟨v0,v1,C,hI,B⟩:=(zA hf) wr HS.bel;by_cases s:q<us.length
      ·have H0:(q:Int)<(us.length:Int):=Jo;obtain⟨gw,cw,hv,HH,hc⟩:=C.lt Jo;rw[hv] at v0;obtain⟨u,hu⟩:∃u,us[q]?=some u:=⟨_,yr s⟩;have k0:=hc q u hu;have f:u∈us:=yB hu;have X:=zB (zS9 (ms:=ms) (d:=d) (i:=k) hu);obtain⟨m,hm⟩:=Jx (nmF ms u);rw[<-hm] at X;have N:m<n:=by rw[hm];exact b u f
       have H8:(m:Int)<(n:Int):=Jo;obtain⟨m0,_⟩:=HS.dn.2 m N;cases hrd:rdy ms d k us q
       ·rw[hrd] at X;have HX:=zB (by rw[zA X];rfl:rdy ms d k us (q+1)=false);clear hc C hu f hm hv v1 hI B;go_wp2_with fail;exact⟨⟨q+1,Jo,Jn,by rw[zA HX],trivial⟩,Ji⟩
       ·rw[hrd] at X;have HX:=zB (by rw[zA X];simp:rdy ms d k us (q+1)=d m);have x:=zB (hV u wr Jo (HM.below HS.bel));have hd:nmI ms u=(m:Int):=by
         unfold nmI;rw[<-hm,<-zA Y,yQ N]
        rw[hd] at x;clear hc C hu f hm hv v1 hI B hd;go_wp2_with (first|(go_at_call 40;(with_reducible refine(zA x).mono ?_);rintro e w2 ⟨rfl,hx⟩;obtain rfl:=hx.symm;clear hx));exact⟨⟨q+1,Jo,Jn,by rw[zA HX],trivial⟩,Ji⟩
      ·obtain⟨aw,cw,hv,_⟩:=C;rw[hv] at v0;have E:q=us.length:=Jo;obtain⟨ao,co,hl,_⟩:=hI;rw[hl] at v1;have hJ:=zB (show ZS wr (.slice ao os.length co) os from hl ▸ ((zA hf) wr (zA HS).bel).2.2.2.1);cases hrd:rdy ms d k us q
       ·have Hg:=zB (show zCD n rk d r (k+1) from y.next (fun HU=>by
         rw[E] at hrd
         unfold rdy at hrd
         rw[List.take_length] at hrd
         cases t:d k
         ·rw[t] at hrd
          have Hk:us.all (fun u=>d (nmF ms u))=true:=by
           rw[List.all_eq_true]
           intro u hu
           exact y _ (b u hu) (yS (Jy ((zA Hc) u hu)))
          rw[Hk] at hrd
          cases hrd
         ·rfl))
        clear hv hl E hJ v1 B y;go_wp2_with fail;exact⟨⟨k+1,d,T,Jo,Jn,HS,HE,Hg⟩,Ji⟩
       ·have t:d k=false:=by
         unfold rdy at hrd;cases h:d k
         ·rfl
         ·rw[h] at hrd;cases hrd
        have l:=zB (show ∀u∈us,d (nmF ms u)=true from fun u hu=>by
         rw[E] at hrd
         unfold rdy at hrd
         rw[List.take_length,t] at hrd
         exact List.all_eq_true.1 (Ju hrd) u hu)
        have Ht:=zB t;have M:=zB (zG0 (.slice ao os.length co) (.slice none 0 0) os [] os (zB Js) wr Jq hJ ⟨none,0,rfl,yS ⟨rfl,rfl,rfl⟩⟩);have h9:zA5 os os.length=za [] os:=by rw[zLo _ _ (yk _),List.take_length]
        rw[h9] at M;obtain⟨acc0,L⟩:=Jx (za [] os);rw[<-L] at M;have I:=zB L;clear hv hl E hJ B h9 L t hrd b0 f0;go_wp2_with fail;go_call zA M as e w1 ⟨⟨h1,c1,rfl,hh1,hf1⟩,hb1⟩;have z1:=hb1.size;obtain⟨B12,J⟩:=Jx w1.heap.size;obtain⟨W12,V⟩:=Jx (w1.alloc (.cells #[Ql h1 acc0.length c1] 63));have t0:W12.cell? (Qa B12 0)=some (Ql h1 acc0.length c1):=by rw[V,J];simp[go_sem]
        have t1:W12.frozen? (Qa B12 0)=false:=by rw[V,J];simp[go_sem]
        have h0:=zB (by rw[V];exact⟨_,_,rfl,yU ⟨h1,rfl,by have:=hf1.1;simp;omega,hf1.ops.below (zC _ _) hf1.1⟩⟩:ZS W12 (Ql h1 acc0.length c1) acc0);have z12:B12+1<=W12.heap.size:=by rw[V,J];simp
        have H3:wr.heap.size<=B12:=Jo;have hW:h1<B12:=by rw[J];exact hf1.1
        have Hn:wr.heap.size<=h1:=hh1;obtain⟨wi',rfl⟩:=Jx wr;have Ha:=zB V;have HG:=zB (by rw[V];exact hb1.trans ((zC _ _).mono z1):Below wi'.heap.size wi' W12);clear hf1 hb1 hh1 M v0 v1;go_wp2_with fail;rw[<-zA Ha,<-J];clear Ha J z1;go_loopw [13] (fun ik wr=>∃(q h c:Nat)(Q:List OpR),q<=us.length/\ik=Qi q/\Hid (Q=zAB (nmF ms) T acc0 (us.take q))/\wr.cell? (Qa B12 0)=some (Ql h Q.length c)/\wr.frozen? (Qa B12 0)=false/\Hid (ZS wr (Ql h Q.length c) Q)/\(h≠B12/\wi'.heap.size<=h)/\Below B12 W12 wr) (fun ik _=>us.length-(intOf ik).toNat);case atStart=>exact⟨0,h1,c1,acc0,ym _,rfl,zB (by simp[zAB]),t0,t1,h0,⟨Jo,Jo⟩,yJ _ _⟩
        case round=>
         clear t0 t1 h0 hW Hn;obtain⟨q,h,c,Q,hq,rfl,A,t0,t1,hF,⟨HO,HW⟩,ha⟩:=hrel;have R:=HG.trans (ha.mono H3);have z12':B12+1<=wr.heap.size:=yw z12 ha.size;have hs:Below w.heap.size w wr:=HS.bel.trans (R.mono Ho);obtain⟨v0,v1,C,_,B⟩:=(zA hf) wr hs;have hK:=zB (show Q.Nodup/\Q.length<=400000 by
          have h1:Q.Nodup:=by rw[zA A,zA I];exact zFJ _ _ _ _ (zA2 _ _ Js)
          refine⟨h1,yw (zBe Q (Zm U) h1 (fun o ho=>?_)) h8⟩
          rw[zA A,zA I,zFs,Zu] at ho
          rcases ho with(ho|ho)|⟨u,hu,ho⟩
          ·cases ho
          ·exact List.mem_flatMap.2 ⟨atU U k,zGs (by rw[zA hg];exact K),by rw[<-zA hR];exact ho⟩
          ·have Hr:=List.mem_of_mem_take hu
           exact(HE _ (by rw[<-zA Y];exact b u Hr) (l u Hr)).2.2.2 o ho)
         by_cases s:q<us.length
         ·have H0:(q:Int)<(us.length:Int):=Jo;obtain⟨gw,cw,hv,HH,hc⟩:=C.lt Jo;have HJ:gw<w.heap.size:=B gw (by rw[hv];rfl);rw[hv] at v0;obtain⟨u,hu⟩:∃u,us[q]?=some u:=⟨_,yr s⟩;have k0:=hc q u hu;have f:u∈us:=yB hu;obtain⟨m,hm⟩:=Jx (nmF ms u);have N:m<n:=by rw[hm];exact b u f
          have H8:(m:Int)<(n:Int):=Jo;have hH:d m=true:=by rw[hm];exact l u f
          obtain⟨vT,o0,_,o1⟩:=HS.cs m N;obtain⟨hh,_⟩:=o1 hH;have hA:=hh.at';clear hh;have F:=hA.below R;have hU:=(zA HE) m (by rw[<-zA Y];exact N) hH;have HQ:(T m).length<=400000:=yw (zBe (T m) (Zm U) hU.2.2.1 hU.2.2.2) h8;obtain⟨aT,cT,Hq,_⟩:=hA;rw[Hq] at o0 F;have o0':wr.cell? (Qa O m)=some (.slice aT (T m).length cT):=Jc R hS o0;have x:=zB (hV u wr.drew Jo (HM.below hs.drew));have hd:nmI ms u=(m:Int):=by
           unfold nmI;rw[<-hm,<-zA Y,yQ N]
          rw[hd] at x;have S:=zB (zG0 (Ql h Q.length c) (.slice aT (T m).length cT) Q (T m) (Q++T m) (zB rfl) wr.drew (Jy hK.2) (hF.below (yJ _ _).drew) (F.below (yJ _ _).drew));rw[zUB (zA hK).1] at S;obtain⟨H,G⟩:=Jx (za Q (T m));rw[<-G] at S;have hG:=zB (by rw[zPK hu,<-zA A,G,hm]:H=zAB (nmF ms) T acc0 (us.take (q+1)));have t0d:wr.drew.cell? (Qa B12 0)=some (Ql h Q.length c):=t0;have HI:w.heap.size<=wi'.heap.size:=Ho;clear hc C hu f hm hv v1 B hd hH o1 F hU Hq o0 G hs R A hF hK;go_wp2_with fail;have q0:gU≠B12:=Jo;have q1:B12≠gU:=Jo;have q2:gw≠B12:=Jo;have q3:B12≠gw:=Jo;have q4:O≠B12:=Jo;have q5:B12≠O:=Jo;go_region_with
           (
            first
            |(go_at_call 40;(with_reducible refine(zA x).mono ?_);rintro e w2 ⟨rfl,hx⟩;obtain rfl:=hx.symm;clear hx)
            |(go_at_call 72;(with_reducible refine(zA S).mono ?_);rintro e w3 ⟨⟨h3,c3,rfl,hh3,hf3⟩,hb3⟩;have z3:=hb3.size;have Hm:=zB hf3;have H4:=zB hb3;have kk:=fun p (hp:p.block<wr.heap.size)=>hb3.cell (p:=p) hp;have j1:=(kk (Qa gU (k*3)) (Jo:gU<wr.heap.size)).trans v0;have j2:=(kk (Qa gw q) (Jo:gw<wr.heap.size)).trans k0;have j3:=(kk (Qa O m) (Jo:O<wr.heap.size)).trans o0';have j4:=(kk (Qa B12 0) (Jo:B12<wr.heap.size)).trans t0;have j5:=(hb3.frozen (p:=Qa B12 0) (Jo:B12<wr.heap.size)).trans t1;clear hf3 hb3 kk))
          all_goals(
           have H6:=zB (show ZS (w3.setCell (Qa B12 0) (Ql h3 H.length c3)) (Ql h3 H.length c3) H from(show ZS w3 (Ql h3 H.length c3) H from⟨_,_,rfl,yU ⟨h3,rfl,Hm.1,Hm.ops⟩⟩).set B12 0 _ (fun g e=>by have e':h3=g:=(by simpa[Value.ownBlock] using e);simp at hh3;omega))
           have n0:(w3.setCell (Qa B12 0) (Ql h3 H.length c3)).cell? (Qa B12 0)=some (Ql h3 H.length c3):=yt _ _ _ j4
           have n1:(w3.setCell (Qa B12 0) (Ql h3 H.length c3)).frozen? (Qa B12 0)=false:=(yv _ _ _ _).trans j5
           have Hi:Below B12 W12 (w3.setCell (Qa B12 0) (Ql h3 H.length c3)):=(ha.drew.trans (H4.mono (Jo:B12<=wr.heap.size))).setCell (p:=Qa B12 0) (yk _) _
           have Hj:h3≠B12/\wi'.heap.size<=h3:=by simp at hh3;omega
           clear j1 j2 j3 j4 j5 t0 t1 hh3 q0 q1 q2 q3 q4 q5
           go_wp2_with fail
           exact⟨⟨q+1,h3,c3,H,Jo,Jn,hG,n0,n1,H6,Hj,Hi⟩,Ji⟩)
         ·have E:q=us.length:=Jo;obtain⟨aw,cw,hv,_⟩:=C;rw[hv] at v0;have HX:=zB (show Q=zAB (nmF ms) T (za [] (atU U k).os) (atU U k).us by
           rw[zA A,E,List.take_length,zA I,zA hR,zA hy])
          have hw:=zB (HS.below R);obtain⟨vO,o0,o1,_⟩:=hw.cs k K;obtain⟨d0',d1'⟩:=hw.dn.2 k K;have H1:=zB (hw.done K (zD5.of hF ⟨h,rfl⟩) (fun g e=>by have e':h=g:=(by simpa[Value.ownBlock] using e);omega));have Hy:=zB (HE.step (by rw[zA hg,zA Y]) (by rw[<-zA Y];exact K) Ht (by rw[<-zA hy,<-zA Y];exact b) (by rw[<-zA hy];exact l) HX);have Hz:Hid (zCD n rk (upB d k) r (k+1)):=y.up.next (fun _=>by simp[upB]);have HK:D≠O:=fun e=>Hx e.symm
          clear E hv v1 B hw R hs;go_wp2_with fail;exact⟨⟨k+1,upB d k,upT T k Q,Jo,Jn,H1,Hy,Hz⟩,Ji⟩
    ·have hZ:k=n:=Jo;have Hu:=zB (show zCD n rk d (r+1) 0 from(by rw[hZ] at y;exact y.round));clear hZ;go_wp2_with fail;exact⟨⟨r+1,d,T,Jo,Jn,HS,HE,Hu⟩,Ji⟩
  ·have Hv:r=n:=Jo;have ht:Hid (∀i,i<n->d0 i=true):=fun i hi=>y i hi (yS (Jy ((zA Hd) i hi)))
   have HF:Hid (ScE ms U T0):=fun i hi=>(HE i hi (ht i (by rw[zA Y];exact hi))).2.1
   have HC:=zB (show ∀i,i<n->(∀o∈T0 i,o∈Zm U)/\∃v,wo.cell? (Qa O i)=some v/\zD5 wo v (T0 i)/\∀q,v.ownBlock=some q->w.heap.size<=q from fun i hi=>by
    obtain⟨v,h1,_,h3⟩:=HS.cs i hi
    exact⟨(HE i (by rw[<-zA Y];exact hi) (ht i hi)).2.2.2,v,h1,(h3 (ht i hi)).1,fun q e=>((h3 (ht i hi)).2 q e).2.2⟩)
   have Hw:=HS.bel;have hS:=HS.hOl;clear Hv;go_wp2_with fail;go_ret;have e:=zA Y;subst e;exact⟨O,T0,rfl,H5,hS,HF,HC,Hw⟩
def zLW(w:JY)(B:Nat)(v:Value)(h:List (List OpR)):Prop:=∃g c,v = Ql g h.length c/\(h.length=0\/B<=g/\g<w.heap.size/\∀i,i<h.length->∃t,w.cell? (Qa g i)=some t/\zD5 w t (zz h i)/\∀q,t.ownBlock=some q->B<=q)
theorem zLW.tabs{H:List (List OpR)}(h:zLW w B v H):zD4 w v H:=by
 obtain⟨g,c,rfl,h⟩:=h;refine⟨_,c,rfl,h.imp id fun h=>⟨g,rfl,h.2.1,fun i hi=>?_⟩⟩;obtain⟨t,h1,h2,_⟩:=h.2.2 i hi;exact⟨t,h1,h2.at'⟩
def zTB(w:JY)(ms:List zH)(e:Ending)(w':JY):Prop:=∃(v:Value)(h:List (List OpR))(c who:Int),e=.returned (.tuple #[v,Qi c,Qi who])/\Hid (zAF ms h c who)/\Hid (zLW w' w.heap.size v h)/\(∀o∈h,o.length<=1048576/\ZA o)/\Qb w w'
theorem zBy(w':JY)(B b:Nat):zLW w' B (Ql b 0 0) []:=⟨_,0,rfl,yS rfl⟩
theorem zTC(hk:k<ms.length):nmI ms (atM ms k).n=(nmF ms (atM ms k).n:Int)/\(nmF ms (atM ms k).n<k↔B3 ms k):=by
 obtain⟨h1,h2⟩:=zAx ms (atM ms k).n;have H:nmF ms (atM ms k).n<=k:=by
  by_cases e:nmF ms (atM ms k).n<=k
  ·exact e
  ·exact yR rfl (h2 k Jo)
 constructor
 ·unfold nmI;rw[yQ Jo]
 ·constructor
  ·intro h;exact⟨_,h,h1 Jo⟩
  ·rintro⟨j,hj,e⟩;by_cases h:nmF ms (atM ms k).n<k
   ·exact h
   ·exact yR e (h2 j Jo)
theorem zHH(a:Option Addr)(c0:Nat)(ms:List zH)(w:JY)(hn:ms.length<=1048576)(hM:zB3 w a ms)(hz:zBk ms):Calls prog 19 #[.slice a ms.length c0] w (zTB w ms):=by
 by_cases L:100<ms.length
 ·have hI:(100:Int)<(ms.length:Int):=Jo;have HL:Hid (zAF ms [] 1 100):=yS ⟨L,rfl,rfl,rfl⟩;clear L;go_enter func19,ntmps19;go_wp2;go_ret3;exact⟨_,[],1,100,rfl,HL,zB (zBy _ _ _),(fun o ho=>by cases ho),zC _ _⟩
 have I:ms.length<=100:=Jo;have hI:¬ (100:Int)<(ms.length:Int):=Jo;obtain⟨n,hC⟩:=Jx ms.length;have HM:=zB hM;have hY:=zB hz;have X:=zB hC;have Ht:=zB (fun u W h=>zFT a c0 ms u W hn h);have Hm:=zB (fun W h1 h2=>zFS a c0 ms W I h1 hz h2);have Hl:=zB (fun gU cU vs U W h1 h2 h3 h4 h5 h6 h7=>zNy a c0 gU cU ms vs U W I h1 h2 h3 h4 h5 h6 h7);have hX:=zB (fun gU cU vs U W rk h1 h2 h3 h4 h5 h6 h7 h8 h9=>zMO a c0 gU cU ms vs U W rk I h1 h2 h3 h4 h5 h6 h7 h8 h9);have d:Hid (∀K c who,zBI ms.length (B2 ms) (fun i=>K=[]/\c=2/\who=(i:Int)) (zR9 ms K c who)->zAF ms K c who):=fun K c who h=>yU ⟨I,h⟩
 rw[<-hC] at I hI ⊢;have H6:n<=ms.length:=Jo;have H5:ms.length<=n:=Jo;clear hM hz hn L hC;obtain⟨N0,H7⟩:=Jx w.heap.size;go_enter func19,ntmps19;go_wp2_with fail;obtain⟨W0,hE⟩:=Jx (w.alloc (.cells #[] 63));have hA:Below w.heap.size w W0:=by rw[hE];exact zC _ _
 rw[<-hE];clear hE;go_loopw [7] (fun iv wr=>∃k:Nat,k<=n/\iv=Qi k/\Hid (∀j,j<k->¬ B2 ms j)/\Below w.heap.size w wr) (fun iv _=>n-(intOf iv).toNat);case atStart=>exact⟨0,ym _,rfl,zB (fun j h=>Jo),hA⟩
 case round=>
  clear hA W0;obtain⟨k,hk,rfl,HB,H⟩:=hrel;by_cases P:k<n
  ·have D:(k:Int)<(n:Int):=Jo;have Q:k<ms.length:=Jo;rcases zA HM with h|⟨b,hG,rfl,y,hl⟩
   ·omega
   obtain⟨m0,m1⟩:=(y k Q).below H hl;have Hc:=zB (zEJ (atM ms k).t wr (hY k Q).2);have He:=((hY) k Q).1;have Hk:b<wr.heap.size:=yl hl H.size;clear y;go_wp2_with fail;go_call zA Hc as e w1 ⟨vu,vo,us,os,b',c',l',rfl,hi1,ru1,ro1,hne1,hlu,Hd,hb1⟩;obtain⟨a1,c1,rfl⟩:=zR ru1;obtain⟨a2,c2,rfl⟩:∃a c,vo=.slice a os.length c:=zR ro1;have m0':w1.cell? (Qa b (hG+k*2))=some (Qs (atM ms k).n):=(hb1.cell (p:=(Qa b (hG+k*2))) Hk).trans m0;have z1:=hb1.size;have H4:b<w1.heap.size:=Jo;have V:=zB (H.trans (hb1.mono H.size));have Hi:=zB hi1;have C:Hid (B2 ms k->zAF ms [] 2 (k:Int)):=fun h=>d [] 2 (k:Int) (yS ⟨k,Q,h,HB,rfl,rfl,rfl⟩)
   have H2:=zB (show ¬ B2 ms k->∀j,j<k+1->¬ B2 ms j from fun h j hj=>by
    by_cases e:j=k
    ·subst e;exact h
    ·exact HB j Jo)
   have B:=zB (fun W=>zEp (atM ms k).n W He);have H9:(atM ms k).n.size<=9223372036854775807:=He;clear hi1 ru1 ro1 hne1 hb1 Hc m0 m1 HB;by_cases hc:c'=0
   ·subst hc;by_cases hN:zBr (atM ms k).n
    ·have f:=zB hN;by_cases hg:64<(atM ms k).n.size
     ·have Hp:(64:Int)<((atM ms k).n.size:Int):=Jo;have HR:=zB (C (yU (yU hg)));clear hN hg;go_wp2_with (first|(go_at_call 39;(with_reducible refine((zA B) _).mono ?_);rintro e w2 ⟨⟨v,rfl,hv⟩,hx⟩;obtain rfl:=hx.symm;obtain rfl:v=true:=(by cases v;exact(hv.2 f);rfl);clear hv hx));go_ret3;exact⟨_,[],2,_,rfl,HR,zB (zBy _ _ _),(fun o ho=>by cases ho),V.alloc (Jy V.size) _⟩
     ·have Hp:¬ (64:Int)<((atM ms k).n.size:Int):=Jo;have Y:=zB (H2 (fun hB=>by
       rcases hB with⟨us',os',b2,c2,l2,hu,Hu⟩|h|h
       ·exact Hu (Hi.one hu).2.2.2.1.symm
       ·exact h f
       ·exact hg h))
      clear hN hg;go_wp2_with (first|(go_at_call 39;(with_reducible refine((zA B) _).mono ?_);rintro e w2 ⟨⟨v,rfl,hv⟩,hx⟩;obtain rfl:=hx.symm;obtain rfl:v=true:=(by cases v;exact(hv.2 f);rfl);clear hv hx));exact⟨⟨k+1,Jo,Jn,Y,V.alloc (Jy V.size) _⟩,Ji⟩
    ·have f:=zB hN;have HR:=zB (C (yU (yS hN)));clear hN;go_wp2_with (first|(go_at_call 39;(with_reducible refine((zA B) _).mono ?_);rintro e w2 ⟨⟨v,rfl,hv⟩,hx⟩;obtain rfl:=hx.symm;obtain rfl:v=false:=(by cases v;rfl;exact yR (hv.1 rfl) f);clear hv hx));go_ret3;exact⟨_,[],2,_,rfl,HR,zB (zBy _ _ _),(fun o ho=>by cases ho),V.alloc (Jy V.size) _⟩
   ·have Hx:(c' != 0)=true:=Ju hc
    have HR:=zB (C (yS ⟨us,os,b',c',l',Hi,hc⟩));clear hc;go_wp2_with fail;go_ret3;exact⟨_,[],2,_,rfl,HR,zB (zBy _ _ _),(fun o ho=>by cases ho),V.alloc (Jy V.size) _⟩
  ·have Hj:Hid (∀i,i<ms.length->¬ B2 ms i):=fun i hi=>HB i Jo
   have hF:Hid (∀K c who,zR9 ms K c who->zAF ms K c who):=fun K c who h=>d K c who (yU ⟨Hj,h⟩)
   clear HB d;go_wp2_with fail;go_loopw [11] (fun iv wr=>∃k:Nat,k<=n/\iv=Qi k/\Hid (∀j,j<k->¬ B3 ms j)/\Below w.heap.size w wr) (fun iv _=>n-(intOf iv).toNat);case atStart=>exact⟨0,ym _,rfl,zB (fun j h=>Jo),H⟩
   case round=>
    clear H;obtain⟨k,hk,rfl,HB,H⟩:=hrel;by_cases P:k<n
    ·have D:(k:Int)<(n:Int):=Jo;have Q:k<ms.length:=Jo;have H0:=zB (HM.below H);rcases zA HM with h|⟨b,hG,rfl,y,hl⟩
     ·omega
     obtain⟨m0,m1⟩:=(y k Q).below H hl;have x:=zB (Ht (atM ms k).n wr H0);obtain⟨q,hq⟩:=Jx (nmF ms (atM ms k).n);have hf:=zTC Q;rw[hf.1,<-hq,<-zA X] at x;have A:=hf.2;rw[<-hq] at A;by_cases s:q<k
     ·have Hb:(q:Int)<(k:Int):=Jo;have HR:=zB (hF [] 3 (k:Int) (yS ⟨k,Q,A.1 s,HB,rfl,rfl,rfl⟩));clear hf A hq y s HB;go_wp2_with fail;go_call zA x as e w2 ⟨rfl,hx⟩;obtain rfl:=hx.symm;clear hx x;go_wp2_with fail;go_ret3;exact⟨_,[],3,_,rfl,HR,zB (zBy _ _ _),(fun o ho=>by cases ho),H⟩
     ·have Hb:¬ (q:Int)<(k:Int):=Jo;have Y:=zB (show ∀j,j<k+1->¬ B3 ms j from fun j hj=>by
       by_cases e:j=k
       ·subst e;exact fun h=>s (A.2 h)
       ·exact HB j Jo)
      clear hf A hq y s HB;go_wp2_with fail;go_call zA x as e w2 ⟨rfl,hx⟩;obtain rfl:=hx.symm;clear hx x;go_wp2_with fail;exact⟨⟨k+1,Jo,Jn,Y,H⟩,Ji⟩
    ·have hP:Hid (∀i,i<ms.length->¬ B3 ms i):=fun i hi=>HB i Jo
     have hZ:Hid (∀K c who,zVx ms K c who->zAF ms K c who):=fun K c who h=>hF K c who (yU ⟨hP,h⟩)
     have G:=zB (Hm wr (HM.below H) Hj);rw[<-zA X] at G;clear HB hF Hm;go_wp2_with fail;go_call zA G as e w3 ⟨gU,cU,vs,U,rfl,hgU1,hgU,hvl,HOV,HUA,HUO,hb3⟩;have r:=zB (H.trans (hb3.mono H.size));have z3:=r.size;have he:=zB (by rw[zA X];exact hvl:vs.length=n);have hH:Hid (∀K c who,zBI ms.length (B4 ms U) (fun i=>K=[]/\c=4/\who=(i:Int)) (zR8 ms U K c who)->zAF ms K c who):=fun K c who h=>hZ K c who ⟨U,HUO,h⟩
     have H1:Hid (∀i,i<ms.length->(atU U i).us.length<=20001):=fun i hi=>(zEH (HUO.2 i hi)).1
     rw[zA he];clear hb3 H G hvl hZ;go_wp2_with fail;go_loopw [13] (fun iv wr=>∃k:Nat,k<=n/\iv=Qi k/\Hid (∀j,j<k->¬ B4 ms U j)/\Below w3.heap.size w3 wr) (fun iv _=>n-(intOf iv).toNat);case atStart=>exact⟨0,ym _,rfl,zB (fun j h=>Jo),yJ _ _⟩
     case round=>
      obtain⟨k,hk,rfl,HB,H⟩:=hrel;obtain⟨wo,rfl⟩:=Jx wr;by_cases P:k<n
      ·have D:(k:Int)<(n:Int):=Jo;have Q:k<ms.length:=Jo;obtain⟨us,hS⟩:=Jx ((atU U k).us);have hR:=zB hS;have H8:us.length<=20001:=by rw[hS];exact H1 k Q
       have Hr:k<vs.length:=by rw[zA he];exact P
       have Hq:=zB (show ∀W:JY,Below w3.heap.size w3 W->W.cell? (Qa gU (k*3))=some (atV vs k).vu/\ZO W (atV vs k).vu us from fun W hb=>by
        obtain⟨v0,_,_⟩:=(HOV.below hb hgU) k Hr
        have hx:=(HUA.belowB hb (yk _)).uses Hr
        rw[<-zA hR] at hx
        exact⟨v0,hx⟩)
       clear hS;go_wp2_with fail;go_loopw [14] (fun iq wr=>∃q:Nat,q<=us.length/\iq=Qi q/\Hid (∀p,p<q->∀u,us[p]?=some u->nmF ms u<n)/\wr=wo) (fun iq _=>us.length-(intOf iq).toNat);case atStart=>exact⟨0,ym _,rfl,zB (fun p hp=>Jo),rfl⟩
       case round=>
        obtain⟨q,hq,rfl,HQ,rfl⟩:=hrel;obtain⟨v0,hh⟩:=(zA Hq) wr H;by_cases hV:q<us.length
        ·have Hb:(q:Int)<(us.length:Int):=Jo;obtain⟨gw,cw,hv,HC,hc⟩:=hh.lt Jo;rw[hv] at v0;obtain⟨u,hu⟩:∃u,us[q]?=some u:=⟨_,yr hV⟩;have k0:=hc q u hu;have hK:u∈us:=yB hu;have M:Below w.heap.size w wr:=r.trans (H.mono z3);have x:=zB (Ht u wr (HM.below M));rw[<-zA X] at x;by_cases F:nmF ms u<n
         ·obtain⟨m,hm⟩:=Jx (nmF ms u);have N:nmI ms u=(m:Int):=by
           unfold nmI;rw[<-hm,<-zA X,yQ (by rw[hm];exact F)]
          rw[N] at x;have HA:¬ (m:Int)<0:=Jo;have H3:=zB (show ∀p,p<q+1->∀u,us[p]?=some u->nmF ms u<n from fun p hp u' R=>by
           by_cases e:p=q
           ·subst e
            rw[hu] at R
            injection R with R
            subst R
            exact F
           ·exact HQ p Jo u' R)
          clear hc hh hu hK hm N hv F HQ;go_wp2_with fail;go_call zA x as e w2 ⟨rfl,hx⟩;obtain rfl:=hx.symm;clear hx x;go_wp2_with fail;exact⟨⟨q+1,Jo,Jn,H3,trivial⟩,Ji⟩
         ·have N:nmI ms u = -1:=by
           unfold nmI;rw[yP (by rw[<-zA X];exact F)]
          rw[N] at x;have HR:=zB (hH [] 4 (k:Int) (yS ⟨k,Q,⟨u,by rw[<-zA hR];exact hK,fun j hj=>(zAx ms u).2 j Jo⟩,HB,rfl,rfl,rfl⟩));have hd:=zB M;clear hc hh hu hK N hv F HQ M;go_wp2_with fail;go_call zA x as e w2 ⟨rfl,hx⟩;obtain rfl:=hx.symm;clear hx x;go_wp2_with fail;go_ret3;exact⟨_,[],4,_,rfl,HR,zB (zBy _ _ _),(fun o ho=>by cases ho),hd⟩
        ·obtain⟨aw,cw,hv,_⟩:=hh;rw[hv] at v0;have Y:=zB (show ∀j,j<k+1->¬ B4 ms U j from fun j hj=>by
          by_cases e:j=k
          ·subst e
           rintro⟨u,hu,Hv⟩
           rw[<-zA hR] at hu
           obtain⟨p,hp,e⟩:=List.getElem_of_mem hu
           have h1:=(zA HQ) p Jo u (by rw[yr hp,e])
           exact Hv _ Jo ((zAx ms u).1 Jo)
          ·exact HB j Jo)
         clear hv HQ;go_wp2_with fail;exact⟨⟨k+1,Jo,Jn,Y,H⟩,Ji⟩
      ·have ha:Hid (∀i,i<ms.length->¬ B4 ms U i):=fun i hi=>HB i Jo
       have hO:Hid (∀K c who,zR8 ms U K c who->zAF ms K c who):=fun K c who h=>hH K c who (yU ⟨ha,h⟩)
       have E:Below w.heap.size w wo:=r.trans (H.mono z3);have zo:=H.size;have hw:zCu wo wo.heap.size vs U:=(HUA.belowB H (yk _)).mono zo;have hJ:=zB (Hl gU cU vs U wo (HM.below E) (HOV.below H hgU) Jo hw HUO (by rw[zA he,zA X]) ha);rw[<-zA X] at hJ;have g:=zB E;clear HB hH Hl E hw;go_wp2_with fail;go_call zA hJ as e w5 ⟨gR,cR,rs,rfl,hgR1,hgR,HCR,hd,hb5⟩;have J:=zB (g.trans (hb5.mono g.size));have z5:=hb5.size;have l:=zB (H.trans (hb5.mono zo));have hU:Hid (∀i,wrN (zFb ms U) n i i=true↔TC (Edg ms U) i i):=fun i=>by rw[zA X];exact zJt hP i i
       clear hb5 hJ g H;go_wp2_with fail;go_loopw [16] (fun iv wr=>∃k:Nat,k<=n/\iv=Qi k/\Hid (∀j,j<k->¬ TC (Edg ms U) j j)/\wr=w5) (fun iv _=>n-(intOf iv).toNat);case atStart=>exact⟨0,ym _,rfl,zB (fun j h=>Jo),rfl⟩
       case round=>
        obtain⟨k,hk,rfl,HB,rfl⟩:=hrel;by_cases P:k<n
        ·have D:(k:Int)<(n:Int):=Jo;have Q:k<ms.length:=Jo;have c0':=(zA HCR) k P;obtain⟨b0',_⟩:=((hd) k P).2 k P;cases hW:wrN (zFb ms U) n k k
         ·rw[hW] at b0';have Y:=zB (show ∀j,j<k+1->¬ TC (Edg ms U) j j from fun j hj=>by
           by_cases e:j=k
           ·subst e
            intro h
            rw[((zA hU) j).2 h] at hW
            cases hW
           ·exact HB j Jo)
          clear hW HB;go_wp2_with fail;exact⟨⟨k+1,Jo,Jn,Y,trivial⟩,Ji⟩
         ·rw[hW] at b0';have HR:=zB (hO [] 5 (k:Int) (yS ⟨k,Q,(hU k).1 hW,HB,rfl,rfl,rfl⟩));clear hW HB;go_wp2_with fail;go_ret3;exact⟨_,[],5,_,rfl,HR,zB (zBy _ _ _),(fun o ho=>by cases ho),J⟩
        ·have Ha:Hid (∀i,i<ms.length->¬ TC (Edg ms U) i i):=fun i hi=>HB i Jo
         have Hh:Hid (∀K c who,zXA ms U K c who->zAF ms K c who):=fun K c who h=>hO K c who (yU ⟨Ha,h⟩)
         obtain⟨rk,Hn,Hf⟩:=zS1 hP ha Ha;have z35:=l.size;have hy:zCu wr wr.heap.size vs U:=(HUA.belowB l (yk _)).mono z35;have hQ:=zB (hX gU cU vs U wr rk (HM.below J) (HOV.below l hgU) Jo hy HUO (by rw[zA he,zA X]) ha Hn Hf);rw[<-zA X] at hQ;clear HB hO hX hy Hn Hf HCR hd;go_wp2_with fail;go_call zA hQ as e w6 ⟨gSS,S,rfl,hgS1,hgS,HSE,HST,hb6⟩;rw[<-zA X];have zl5:=J.size;have h0:=zB (J.trans (hb6.mono J.size));have hD:Hid (∀i,i<ms.length->ZA (S i)/\(S i).length<=400000):=fun i hi=>⟨zNz (fun o ho=>HUO.small o ((HST i hi).1 o ho)),yw (zBe _ _ (HSE.nd hi) (HST i hi).1) (HUO.all Jo)⟩
         clear hb6 hQ;go_wp2_with fail;go_loopw [18] (fun iv wr=>∃k:Nat,k<=n/\iv=Qi k/\Hid (∀j,j<k->¬ B6 S j)/\Below w6.heap.size w6 wr) (fun iv _=>n-(intOf iv).toNat);case atStart=>exact⟨0,ym _,rfl,zB (fun j h=>Jo),yJ _ _⟩
         case round=>
          obtain⟨k,hk,rfl,HB,H⟩:=hrel;have hr:Below w.heap.size w wr:=h0.trans (H.mono h0.size);by_cases P:k<n
          ·have D:(k:Int)<(n:Int):=Jo;have Q:k<ms.length:=Jo;obtain⟨_,tv,t0,ht,_⟩:=(zA HST) k Q;have T:=ht.at';clear ht;have O:=T.below H;obtain⟨at1,ct1,hv,_⟩:=T;rw[hv] at t0 O;have t0':wr.cell? (Qa gSS k)=some (.slice at1 (S k).length ct1):=Jc H hgS t0;have Hg:=zB (zFQ _ (S k) wr (Jy (((hD) k Q).2)) O (hD k Q).1);have hs:=zB hr;clear hv t0 O hr;go_wp2_with fail;go_call zA Hg as e w7 ⟨⟨cc,rfl,hcc⟩,hb7⟩;have Hy:=zB (H.trans (hb7.mono H.size));have Ho:=zB (hs.trans (hb7.mono hs.size));clear hb7 Hg;by_cases Z:cc=0
           ·subst Z;have Y:=zB (show ∀j,j<k+1->¬ B6 S j from fun j hj=>by
             by_cases e:j=k
             ·subst e
              rintro⟨c',h1,h2⟩
              exact h2 (zAC h1 hcc)
             ·exact HB j Jo)
            clear hcc HB;go_wp2_with fail;exact⟨⟨k+1,Jo,Jn,Y,Hy⟩,Ji⟩
           ·have Hx:(cc != 0)=true:=Ju Z
            have HR:=zB (Hh [] 6 (k:Int) ⟨S,HSE,yS ⟨k,Q,⟨cc,hcc,Z⟩,HB,rfl,rfl,rfl⟩⟩);clear hcc HB Z;go_wp2_with fail;go_ret3;exact⟨_,[],6,_,rfl,HR,zB (zBy _ _ _),(fun o ho=>by cases ho),Ho⟩
          ·have HR:=zB (Hh ((List.range ms.length).map S) 0 0 ⟨S,HSE,yU ⟨fun i hi=>HB i Jo,rfl,rfl,rfl⟩⟩);have Hz:=zB (show zLW wr w.heap.size (Ql gSS n n) ((List.range ms.length).map S) by
            refine⟨_,n,by rw[List.length_map,List.length_range,zA X],yU ⟨Jo,yl hgS H.size,fun i hi=>?_⟩⟩
            have Hs:i<ms.length:=Ju hi
            obtain⟨_,tv,t0,T,Hd⟩:=(zA HST) i Hs
            rw[zAy Hs]
            exact⟨tv,Jc H hgS t0,T.below H,fun q e=>Jy (Hd q e)⟩)
           have Hw:=zB (show ∀o∈(List.range ms.length).map S,o.length<=1048576/\ZA o from fun o ho=>by
            obtain⟨i,hi,rfl⟩:=List.mem_map.1 ho
            have:=(zA hD) i (List.mem_range.1 hi)
            exact⟨Jo,this.1⟩)
           have hs:=zB hr;clear HB hr;go_wp2_with fail;go_ret3;exact⟨_,_,0,0,rfl,HR,Hz,Hw,hs⟩
def zAV(zs:List zH):List Value:=zs.flatMap fun o=>[Qs o.n,Qs o.t]
theorem zGD(xs ys:List zH):zAV (xs++ys)=zAV xs++zAV ys:=by simp[zAV]
theorem zJz:∀zs:List zH,(zAV zs).length=zs.length*2
 |[]=>rfl
 |o::r=>by
  have:=zJz r;simp only[zAV,List.flatMap_cons,yq,yy,yZ] at *;omega
theorem zLX:∀(zs:List zH)(i:Nat),i<zs.length->(zAV zs)[i*2]?=some (Qs (atM zs i).n)/\(zAV zs)[i*2+1]?=some (Qs (atM zs i).t)
 |[],i,h=>yR h (yx i)
 |o::r,0,_=>⟨rfl,rfl⟩
 |o::r,i+1,h=>by
  have ih:=zLX r i (Ju h);have e:∀j,(zAV (o::r))[(i+1)*2+j]?=(zAV r)[i*2+j]?:=fun j=>by
   have:(i+1)*2+j=(i*2+j)+2:=Jo;rw[this];rfl
  exact⟨(e 0).trans ih.1,(e 1).trans ih.2⟩
theorem zIM(zs:List zH):∀u∈zAV zs,u.oneCell'=true:=by
 intro u hu;simp only[zAV,List.mem_flatMap] at hu;obtain⟨o,_,ho⟩:=hu;simp at ho;rcases ho with rfl|rfl<;>rfl
def zAb(w:JY)(B:Nat)(v:Value)(ms:List zH):Prop:=w.ownsRow B 53 2 v ms.length (zAV ms)
theorem zAb.grown{w':JY}{u:Value}{row:Option Nat}(h:zAb w B u us)(hg:w.grownBy w' row)(H:∀k,u.ownBlock=some k->row≠some k):zAb w' B u us:=
 World.ownsRow.kept h hg (by
  cases e:u.ownBlock with
  |none=>exact yS rfl
  |some k=>exact yU (fun x=>H k e x.symm))
theorem zAb.below{w':JY}{u:Value}(h:zAb w B u us)(hb:Qb w w'):zAb w' B u us:=
 h.grown (row:=none) (zE hb none) (fun k _ e=>by cases e)
theorem zAb.lt{w:JY}{B:Nat}{u:Value}{us:List zH}(h:zAb w B u us):∀g,u.ownBlock=some g->B<=g/\g<w.heap.size:=fun g hg=>World.ownsRow.lt h g hg
theorem zAb.ops{g c:Nat}(h:zAb w B (Ql g us.length c) us):zLl w g 0 us:=fun i hi=>by
 obtain⟨c0,c1⟩:=zLX us i hi;have e:=fun j (hj:j<2)=>World.ownsRow.cellAt h (i*2+j) Jo
 exact⟨Ju ((e 0 Jo).trans c0),Ju ((e 1 Jo).trans c1)⟩
theorem zAb.has(h:zAb w B v us)(h1:1<=us.length):∃g c,v = Ql g us.length c:=by
 obtain⟨_,⟨_,h0⟩|⟨g,cap,H,hv,_⟩⟩:=h
 ·omega
 ·exact⟨g,cap,hv⟩
theorem zAb.arg{g c:Nat}(h:zAb w B (Ql g us.length c) us):zB3 w (some (Qa g 0)) us:=
 yU ⟨g,0,rfl,h.ops,(h.lt g rfl).2⟩
theorem zAb.nil(hB:B<=w.heap.size):zAb (w.alloc (.cells #[] 53)) B (Ql w.heap.size 0 0) []:=by
 have:=yG (base:=B) (e:=53) (size:=2) w #[] 0 hB (ym _) rfl;simpa[zAb,zAV] using this
theorem zLY(w:JY)(o:zH):∀j u,(zAV [o])[j]?=some u->(w.alloc (.cells #[Qs o.n,Qs o.t] 53)).cell? ((Qa w.heap.size 0).add j)=some u:=by
 intro j u hj;rw[Addr.add_mid];have:=yC (w:=w.alloc (.cells #[Qs o.n,Qs o.t] 53)) (b:=w.heap.size) (heap_alloc_new w _) 0 2;exact this j u (by simpa[zAV] using hj)
theorem zTD:(prog.info? 53).map (fun i=>(i.zero,i.size,i.bytes))=some (some (.agg #[Qs ⟨#[]⟩,Qs ⟨#[]⟩]),2,32):=Jk
theorem zQX{m:zH}:atM (ms++[m]) i=if i<ms.length then atM ms i else if i=ms.length then m else zH.zero:=by
 unfold atM;simp only[yn,List.getElem?_append];split
 ·rfl
 ·rename_i h;split
  ·rename_i e;subst e;simp
  ·rename_i e;rw[List.getElem?_eq_none Jq];rfl
end Go.Proofs.YtadiaghhackbjaaGreatDoor
