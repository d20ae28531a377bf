import Derived.Deep.AppendLies
import Derived.Deep.RegionHeldLaw
import Derived.Test.YtadiaghhackbjaaGreatDoorU01
import Derived.Test.YtadiaghhackbjaaGreatDoorU02
namespace Go.Proofs.YtadiaghhackbjaaGreatDoor
set_option linter.all false
set_option maxHeartbeats 0
set_option maxRecDepth 100000
open Proofs.Tryz
variable{B b bo bs cap i n off:Nat}{G:ByteArray -> Option Value}{c k l:Int}{ks:List ByteArray}{kv v:Value}{ms:List zH}{o:OpR}{pv:Option Nat}{s t u:ByteArray}{w w' w1 wr wr':World}{xs:List OpR}
structure UnR where
 us:List JZ
 os:List OpR
 b:ByteArray
variable{U:List UnR}
def atU(U:List UnR)(i:Nat):UnR:=U.getD i ⟨[],[],ByteArray.empty⟩
def nmF:List zH->ByteArray->Nat
 |[],_=>0
 |m::r,u=>if m.n=u then 0 else nmF r u+1
theorem zHd:∀(ms:List zH)(u:JZ),nmF ms u<=ms.length
 |[],_=>yk _
 |m::r,u=>by
  unfold nmF;split
  ·exact ym _
  ·have:=zHd r u;simp;omega
theorem zNP(m:zH)(r:List zH)(i:Nat):atM (m::r) (i+1)=atM r i:=by simp[atM]
theorem zAx:∀(ms:List zH)(u:JZ),(nmF ms u<ms.length->(atM ms (nmF ms u)).n=u)/\∀j,j<nmF ms u->(atM ms j).n≠u
 |[],_=>⟨fun h=>yR h (yx _),fun j h=>yR h (yx _)⟩
 |m::r,u=>by
  obtain⟨h1,h2⟩:=zAx r u;unfold nmF;by_cases e:m.n=u
  ·rw[yQ e];exact⟨fun _=>e,fun j h=>yR h (yx _)⟩
  ·rw[yP e];refine⟨fun h=>?_,fun j h=>?_⟩
   ·rw[zNP];exact h1 (Ju h)
   ·cases j with
    |zero=>exact e
    |succ j=>rw[zNP];exact h2 j Jo
theorem zP2{k:Nat}(hk:k<ms.length)(h1:(atM ms k).n=u)(h2:∀j,j<k->(atM ms j).n≠u):nmF ms u=k:=by
 obtain⟨g1,g2⟩:=zAx ms u;have H:=zHd ms u;rcases Nat.lt_trichotomy (nmF ms u) k with h|h|h
 ·exact yR (g1 Jo) (h2 _ h)
 ·exact h
 ·exact yR h1 (g2 k h)
theorem zR7(h:∀j,j<ms.length->(atM ms j).n≠u):nmF ms u=ms.length:=by
 have H:=zHd ms u;by_cases e:nmF ms u<ms.length
 ·exact yR ((zAx ms u).1 e) (h _ e)
 ·omega
def Zo(ms:List zH)(U:List UnR):Prop:=U.length=ms.length/\∀i,i<ms.length->zy (atM ms i).t (atU U i).us (atU U i).os (atU U i).b 0 0
def B2(ms:List zH)(i:Nat):Prop:=(∃us os b c l,zy (atM ms i).t us os b c l/\c≠0)\/¬ zBr (atM ms i).n\/64<(atM ms i).n.size
def B3(ms:List zH)(i:Nat):Prop:=∃j,j<i/\(atM ms j).n=(atM ms i).n
def B4(ms:List zH)(U:List UnR)(i:Nat):Prop:=∃u∈(atU U i).us,∀j,j<ms.length->(atM ms j).n≠u
def Edg(ms:List zH)(U:List UnR)(i j:Nat):Prop:=i<ms.length/\j<ms.length/\(atM ms j).n∈(atU U i).us
def ScE(ms:List zH)(U:List UnR)(S:Nat->List OpR):Prop:=∀i,i<ms.length->S i=zAB (nmF ms) S (za [] (atU U i).os) (atU U i).us
def B6(S:Nat->List OpR)(i:Nat):Prop:=∃c,zO (S i) c/\c≠0
def zBI(n:Nat)(B:Nat->Prop)(P:Nat->Prop)(R:Prop):Prop:=(∃i,i<n/\B i/\(∀j,j<i->¬ B j)/\P i)\/((∀i,i<n->¬ B i)/\R)
def zXA(ms:List zH)(U:List UnR)(h:List (List OpR))(c who:Int):Prop:=
 ∃S:Nat->List OpR,ScE ms U S/\zBI ms.length (B6 S) (fun i=>h=[]/\c=6/\who=(i:Int)) (h=(List.range ms.length).map S/\c=0/\who=0)
def zR8(ms:List zH)(U:List UnR)(h:List (List OpR))(c who:Int):Prop:=
 zBI ms.length (fun i=>TC (Edg ms U) i i) (fun i=>h=[]/\c=5/\who=(i:Int)) (zXA ms U h c who)
def zVx(ms:List zH)(h:List (List OpR))(c who:Int):Prop:=
 ∃U,Zo ms U/\zBI ms.length (B4 ms U) (fun i=>h=[]/\c=4/\who=(i:Int)) (zR8 ms U h c who)
def zR9(ms:List zH)(h:List (List OpR))(c who:Int):Prop:=
 zBI ms.length (B3 ms) (fun i=>h=[]/\c=3/\who=(i:Int)) (zVx ms h c who)
def zAF(ms:List zH)(h:List (List OpR))(c who:Int):Prop:=
 (100<ms.length/\h=[]/\c=1/\who=100)\/(ms.length<=100/\zBI ms.length (B2 ms) (fun i=>h=[]/\c=2/\who=(i:Int)) (zR9 ms h c who))
theorem ScE.nd{S:Nat->List OpR}(h:ScE ms U S)(hi:i<ms.length):(S i).Nodup:=by
 rw[h i hi];exact zFJ _ _ _ _ (zA2 _ _ Js)
theorem zIB(l:JZ):∀(n i:Nat),l.size-i<n->i<=l.size->2*(zCx l i).length<=l.size-i+1
 |0,i,hn,hi=>Jo
 |n+1,i,hn,hi=>by
  obtain⟨g1,g2,_,_⟩:=zAc 32 l i hi;rw[zCy l i hi,yq];have hr:2*(if nx 32 l i<l.size then zCx l (nx 32 l i+1) else[]).length<=l.size-nx 32 l i:=by
   by_cases h:nx 32 l i<l.size
   ·rw[yQ h];have:=zIB l n (nx 32 l i+1) Jo Jo;omega
   ·rw[yP h];simp
  by_cases h:i<nx 32 l i
  ·rw[yQ h];simp only[yy,yZ];omega
  ·rw[yP h];simp only[yZ];omega
theorem zUL(l:JZ):2*(wds l).length<=l.size+1:=by
 have:=zIB l (l.size+1) 0 Jo (ym _);rw[zMx];omega
def zK5(ls:List (Nat×Nat)):Nat:=(ls.map fun p=>p.2-p.1).sum
theorem zP3(c:UInt8)(s:JZ):∀(n a:Nat),s.size-a<n->a<=s.size->zK5 (pcs c s a)<=s.size-a
 |0,a,hn,ha=>Jo
 |n+1,a,hn,ha=>by
  obtain⟨g1,g2,_,_⟩:=zAc c s a ha;rw[zAw c s a ha];simp only[zK5,List.map_cons,List.sum_cons];by_cases h:nx c s a<s.size
  ·rw[yQ h];have:=zP3 c s n (nx c s a+1) Jo Jo;simp only[zK5] at this;omega
  ·rw[yP h];simp;omega
theorem zWF(s:JZ)(a b:Nat):(s.extract a b).size<=b-a:=by
 simp only[yz];omega
theorem UnF.ops{s:JZ}:∀(ls:List (Nat×Nat))(n:Nat)(us:List JZ)(os:List OpR){u:List JZ}{o:List OpR}{b:JZ}{c l:Int},UnF s ls n us os u o b c l->5*o.length<=5*os.length+zK5 ls/\(c=0->l=0)
 |[],n,us,os,_,_,_,_,_,h=>by
  obtain⟨rfl,rfl,rfl,rfl,rfl⟩:=h;exact⟨Js,fun _=>rfl⟩
 |p::r,n,us,os,u,o,b,c,l,h=>by
  simp only[zK5,List.map_cons,List.sum_cons];rcases h with⟨_,rfl,rfl,rfl,rfl,rfl⟩|⟨_,⟨us',os',hl,h⟩|⟨_,rfl,rfl,rfl,rfl,rfl⟩⟩
  ·exact⟨Jo,fun _=>rfl⟩
  ·have ih:=UnF.ops r (n+1) us' os' h;refine⟨?_,ih.2⟩;have h1:=ih.1;simp only[zK5] at h1;rcases hl with⟨_,rfl,rfl⟩|⟨x,_,rfl,rfl⟩|⟨o',ho,rfl,rfl⟩
   ·omega
   ·omega
   ·have h3:=ho.len;have h4:=zUL (s.extract p.1 p.2);have h5:=zWF s p.1 p.2;simp only[yq,yy,yZ] at h1;omega
  ·exact⟨Js,fun e=>by cases e⟩
theorem zEG{u:List JZ}{o:List OpR}{b:JZ}(h:zy s u o b c l):o.length<=4000/\(c=0->l=0):=by
 rcases h with⟨_,rfl,rfl,rfl,rfl,rfl⟩|⟨h0,h⟩
 ·exact⟨Js,fun e=>by cases e⟩
 ·have h1:=UnF.ops _ _ _ _ h;have h2:=zP3 10 s (s.size+1) 0 Jo (ym _);exact⟨by simp only[yZ] at h1;omega,h1.2⟩
theorem zP4(c:UInt8)(s:JZ):∀(n a:Nat),s.size-a<n->a<=s.size->(pcs c s a).length<=s.size-a+1
 |0,a,hn,ha=>Jo
 |n+1,a,hn,ha=>by
  obtain⟨g1,g2,_,_⟩:=zAc c s a ha;rw[zAw c s a ha,yy];by_cases h:nx c s a<s.size
  ·rw[yQ h];have:=zP4 c s n (nx c s a+1) Jo Jo;omega
  ·rw[yP h];simp
theorem UnF.uses{s:JZ}:∀(ls:List (Nat×Nat))(n:Nat)(us:List JZ)(os:List OpR){u:List JZ}{o:List OpR}{b:JZ}{c l:Int},UnF s ls n us os u o b c l->u.length<=us.length+ls.length/\((∀x∈us,x.size<=s.size)->∀x∈u,x.size<=s.size)
 |[],n,us,os,_,_,_,_,_,h=>by
  obtain⟨rfl,rfl,rfl,rfl,rfl⟩:=h;exact⟨Js,fun _ x hx=>by cases hx⟩
 |p::r,n,us,os,u,o,b,c,l,h=>by
  rcases h with⟨_,rfl,rfl,rfl,rfl,rfl⟩|⟨_,⟨us',os',hl,h⟩|⟨_,rfl,rfl,rfl,rfl,rfl⟩⟩
  ·exact⟨Js,fun h=>h⟩
  ·have ih:=UnF.uses r (n+1) us' os' h;rcases hl with⟨_,rfl,rfl⟩|⟨x,hx,rfl,rfl⟩|⟨o',ho,rfl,rfl⟩
   ·exact⟨by have:=ih.1;simp;omega,ih.2⟩
   ·refine⟨by have:=ih.1;simp at this ⊢;omega,fun h0=>ih.2 (fun z hz=>?_)⟩;rcases List.mem_append.1 hz with hz|hz
    ·exact h0 z hz
    ·have hm:z∈wds (s.extract p.1 p.2):=by rw[hx];simp at hz;subst hz;simp
     unfold wds at hm;obtain⟨q,_,rfl⟩:=List.mem_map.1 hm;simp only[yz];omega
   ·exact⟨by have:=ih.1;simp;omega,ih.2⟩
  ·exact⟨Js,fun _ x hx=>by cases hx⟩
theorem zEH{u:List JZ}{o:List OpR}{b:JZ}(h:zy s u o b c l):u.length<=20001/\∀x∈u,x.size<=20000:=by
 rcases h with⟨_,rfl,rfl,rfl,rfl,rfl⟩|⟨h0,h⟩
 ·exact⟨Js,fun x hx=>by cases hx⟩
 ·have h1:=UnF.uses _ _ _ _ h;have h2:=zP4 10 s (s.size+1) 0 Jo (ym _);exact⟨by simp only[yZ] at h1;omega,fun x hx=>yw (h1.2 (fun y hy=>by cases hy) x hx) h0⟩
def Zm(U:List UnR):List OpR:=U.flatMap fun u=>u.os
theorem zGT:∀(U:List UnR),(∀u∈U,u.os.length<=4000)->(Zm U).length<=U.length*4000
 |[],_=>by simp[Zm]
 |u::r,h=>by
  have:=zGT r (fun x hx=>h x (by simp[hx]));have h1:=h u Js;simp only[Zm,List.flatMap_cons,yq,yy] at *;omega
theorem zGs(h:i<U.length):atU U i∈U:=by
 unfold atU;rw[yn,yr h];exact List.getElem_mem h
theorem zIn{u:UnR}(h:u∈U):∃i,i<U.length/\atU U i=u:=by
 obtain⟨i,hi,e⟩:=List.getElem_of_mem h;refine⟨i,hi,?_⟩;unfold atU;rw[yn,yr hi];exact e
theorem Zo.all(h:Zo ms U)(hn:ms.length<=100):(Zm U).length<=400000:=by
 have:=zGT U (fun u hu=>by
  obtain⟨i,hi,rfl⟩:=zIn hu
  exact(zEG (h.2 i (by rw[<-h.1];exact hi))).1)
 have h1:=h.1;omega
theorem Zo.one{ms:List zH}{U U':List UnR}(h:Zo ms U)(h':Zo ms U')(i:Nat)(hi:i<ms.length):atU U i=atU U' i:=by
 obtain⟨e1,e2,e3,_⟩:=(h.2 i hi).one (h'.2 i hi);cases hu:atU U i
 cases hu':atU U' i
 rw[hu] at e1 e2 e3;rw[hu'] at e1 e2 e3;simp only at e1 e2 e3;rw[e1,e2,e3]
theorem zSA(h:¬ B2 ms i){us:List JZ}{os:List OpR}{b:JZ}(hu:zy (atM ms i).t us os b c l):c=0/\l=0/\zBr (atM ms i).n/\(atM ms i).n.size<=64:=by
 unfold B2 at h;have hc:c=0:=by
  by_cases e:c=0
  ·exact e
  ·exact yR (yS ⟨us,os,b,c,l,hu,e⟩) h
 refine⟨hc,(zEG hu).2 hc,?_,?_⟩
 ·by_cases e:zBr (atM ms i).n
  ·exact e
  ·exact yR (yU (yS e)) h
 ·by_cases e:64<(atM ms i).n.size
  ·exact yR (yU (yU e)) h
  ·omega
open Go.RowKit
def wsL(s:JZ)(ls:List LnR)(i:Nat):List ByteArray:=wds (s.extract (atL ls i).f (atL ls i).t)
theorem zFv{ls:List LnR}(h:i<ls.length):atL ls i∈ls:=by
 unfold atL;rw[yn,yr h];exact List.getElem_mem h
def zSB(s:JZ)(ls:List LnR)(r:Int):Prop:=
 (r = -1/\∀i,i<ls.length->wsL s ls i≠[zAK])\/∃i,i<ls.length/\r=(i:Int)/\wsL s ls i=[zAK]/\∀j,j<i->wsL s ls j≠[zAK]
theorem zIC(s:JZ)(g c:Nat)(ls:List LnR)(w:JY)(hl:ls.length<=1000001)(ho:zQu w g ls)(hw:∀l∈ls,ZO w l.wv (wds (s.extract l.f l.t))):Calls prog 48 #[Ql g ls.length c] w fun e w'=>∃r:Int,e=.returned (Qi r)/\zSB s ls r/\w'=w:=by
 have HO:=zB ho;have HW:=zB hw;clear ho hw;go_enter func48,ntmps48;go_wp2;go_loop [3] (fun i=>∃k:Nat,k<=ls.length/\i=Qi k/\Hid (∀j,j<k->wsL s ls j≠[zAK])) (fun i=>ls.length-(intOf i).toNat);case atStart=>exact⟨0,ym _,rfl,zB (fun j h=>Jo)⟩
 case round=>
  obtain⟨k,hk,rfl,hn⟩:=hrel;by_cases x:k<ls.length
  ·have v:(k:Int)<(ls.length:Int):=Jo;obtain⟨o0,_,_⟩:=(zA HO) k x;have p:=(zA HW) _ (zFv x);obtain⟨ws,X⟩:=Jx (wsL s ls k);have K:ZO w (atL ls k).wv ws:=by rw[X];exact p
   have y:=zB X;clear p X;by_cases H:ws=[zAK]
   ·obtain⟨gw,cw,hv,P,hc⟩:=K.lt (by rw[H];simp);have k0:w.cell? (Qa gw 0)=some (Qs ⟨#[98,101,103,105,110]⟩):=hc 0 _ (by rw[H];rfl);have J:ws.length=1:=by rw[H];rfl
    rw[J] at hv;rw[hv] at o0;have HB:=zB (by rw[<-zA y];exact H:wsL s ls k=[zAK]);clear hc H K J hv;go_wp2;go_ret;exact⟨_,rfl,yU ⟨k,x,rfl,HB,hn⟩,rfl⟩
   ·have HB:=zB (by rw[<-zA y];exact H:wsL s ls k≠[zAK]);have HX:=zB (show ∀j,j<k+1->wsL s ls j≠[zAK] from fun j hj=>by
     by_cases e:j=k
     ·subst e;exact HB
     ·exact hn j Jo)
    have Q:(((ws.length:Int)==1)=false/\∃a c,(atL ls k).wv=.slice a ws.length c)\/(((ws.length:Int)==1)=true/\∃gw c q,(atL ls k).wv = Ql gw ws.length c/\w.cell? (Qa gw 0)=some (Qs q)/\(q.toList==[98,101,103,105,110])=false):=by
     by_cases e:ws.length=1
     ·right;obtain⟨gw,cw,hv,P,hc⟩:=K.lt Jo;match ws,e with
      |[q],_=>exact⟨rfl,gw,cw,q,hv,hc 0 q rfl,zGS (fun ek=>H (by rw[ek];rfl))⟩
     ·left;obtain⟨a,cw,hv,_⟩:=K;exact⟨Jq,a,cw,hv⟩
    clear H K;rcases Q with⟨Y,a,cw,hv⟩|⟨Y,gw,cw,q,hv,k0,hq⟩;all_goals
     rw[hv] at o0
     clear hv
     try have V:(0:Int)<(ws.length:Int):=(Jy (beq_iff_eq.1 Y))
     go_wp2
     exact⟨⟨k+1,Jo,Jn,HX⟩,Ji⟩
  ·have HE:Hid (zSB s ls (-1)):=yS ⟨rfl,fun i hi=>hn i Jo⟩;go_wp2;go_ret;exact⟨_,rfl,HE,rfl⟩
def zXB(xs:List OpR)(t:JZ)(k:Int):Prop:=∃j,j<xs.length/\(atO xs j).s=t/\(atO xs j).k=k
def ZF(xs:List OpR)(t:JZ)(k:Int):Bool:=(List.range xs.length).any fun j=>(atO xs j).s.data==t.data&&(atO xs j).k==k
theorem Zl(xs:List OpR)(t:JZ)(k:Int):ZF xs t k=true↔zXB xs t k:=by
 have e:∀a b:JZ,(a.data=b.data)↔a=b:=fun a b=>⟨fun h=>by cases a;cases b;simp_all,fun h=>by rw[h]⟩
 simp[ZF,zXB,List.any_eq_true,e]
def ZP(xs:List OpR)(last:Bool)(t:zU)(bh:Bool)(op:Nat):Int:=
 if bh=false then
  if t.k=1\/t.k=2\/t.k=4 then 0 else if t.k=3/\ZF xs t.t 1=true then 1 else -1
 else
  if t.k=3/\ZF xs t.t 2=true then 2 else if t.k=3/\ZF xs t.t 3=true then 3
  else if t.k=5/\0<op then 0 else if t.k=7/\op=0/\last=true then 0 else -1
def zDP(xs:List OpR)(t:zU)(bh:Bool):Bool:=
 if bh=false then(if t.k=1\/t.k=2 then true else false) else(if t.k=3/\ZF xs t.t 2=true then false else true)
def zC3(t:zU)(op:Nat):Nat:=if t.k=4 then op+1 else if t.k=5 then op-1 else op
def zCm(xs:List OpR)(ts:List zU):Nat->Bool
 |0=>false
 |i+1=>zDP xs (atT ts i) (zCm xs ts i)
def zCn(ts:List zU):Nat->Nat
 |0=>0
 |i+1=>zC3 (atT ts i) (zCn ts i)
def zZ(xs:List OpR)(ts:List zU)(i:Nat):Int:=ZP xs (decide (i+1=ts.length)) (atT ts i) (zCm xs ts i) (zCn ts i)
def Zs(xs:List OpR)(ts:List zU)(k:Nat):List Int:=(List.range k).map (zZ xs ts)
theorem zGt(xs:List OpR)(ts:List zU)(k:Nat):Zs xs ts (k+1)=Zs xs ts k++[zZ xs ts k]:=by
 simp[Zs,List.range_succ]
theorem zAP(xs:List OpR)(ts:List zU)(k:Nat):(Zs xs ts k).length=k:=by simp[Zs]
def zCL(xs:List OpR)(ts:List zU)(k:Nat):Prop:=∀i,i<k->0<=zZ xs ts i
def zP5(xs:List OpR)(ok:Prop)(ts:List zU)(us:List Int)(c:Int):Prop:=
 (¬ ok/\us=[]/\c=0) \/
 (ok/\((∃i,i<ts.length/\zCL xs ts i/\zZ xs ts i<0/\us=[]/\c=(i:Int)) \/
  (zCL xs ts ts.length/\(((0<ts.length/\(atT ts (ts.length-1)).k=7)/\us=Zs xs ts ts.length/\c = -1)\/(¬ (0<ts.length/\(atT ts (ts.length-1)).k=7)/\us=[]/\c=(ts.length:Int))))))
def zEq(xs:List OpR)(t:zU)(st:Bool):Bool:=decide (t.k=1\/t.k=2\/t.k=5)||(decide (t.k=3)&&st&&ZF xs t.t 3)
def zBJ(xs:List OpR)(ts:List zU):Nat->Bool
 |0=>false
 |i+1=>zEq xs (atT ts i) (zBJ xs ts i)
def opI(ts:List zU):Nat->Int
 |0=>0
 |i+1=>opI ts i+(if(atT ts i).k=4 then 1 else 0)-(if(atT ts i).k=5 then 1 else 0)
def zBK(xs:List OpR)(ts:List zU)(i:Nat)(bh:Bool):Int:=
 if bh=false then
  if(atT ts i).k=1\/(atT ts i).k=2\/(atT ts i).k=4 then 0 else if(atT ts i).k=3/\ZF xs (atT ts i).t 1=true then 1 else -1
 else
  if(atT ts i).k=3/\ZF xs (atT ts i).t 2=true then 2 else if(atT ts i).k=3/\ZF xs (atT ts i).t 3=true then 3
  else if(atT ts i).k=5/\0<opI ts i then 0 else if(atT ts i).k=7/\opI ts i=0/\i+1=ts.length then 0 else -1
def zGu(xs:List OpR):Prop:=∀t,¬ (ZF xs t 2=true/\ZF xs t 3=true)
theorem zSC(h:¬ Pr 3 xs):zGu xs:=by
 rintro t ⟨h2,h3⟩;obtain⟨i,hi,e1,e2⟩:=(Zl _ _ _).1 h2;obtain⟨j,hj,f1,f2⟩:=(Zl _ _ _).1 h3;have H:i≠j:=fun e=>by subst e;omega
 apply h;rcases Nat.lt_trichotomy i j with e|e|e
 ·exact⟨j,i,e,hj,by simp[cl];exact⟨by rw[f1,e1],Jo⟩⟩
 ·exact yR e H
 ·exact⟨i,j,e,hi,by simp[cl];exact⟨by rw[f1,e1],Jo⟩⟩
theorem zK6{xs:List OpR}{ts:List zU}(ha:zGu xs):∀i,i<ts.length->zCL xs ts i->zBJ xs ts i=zCm xs ts i/\opI ts i=(zCn ts i:Int)
 |0,_,_=>⟨rfl,rfl⟩
 |i+1,hi,hf=>by
  obtain⟨h1,h2⟩:=zK6 ha i Jo (fun j hj=>hf j Jo);have hr:=hf i Jo;unfold zZ ZP at hr;have hl:decide (i+1=ts.length)=false:=Jq;rw[hl] at hr;have H:=ha (atT ts i).t;simp only[zBJ,zCm,opI,zCn,h1,h2,zEq,zDP,zC3];cases hb:zCm xs ts i
  ·rw[hb] at hr;simp only[if_true] at hr;by_cases k1:(atT ts i).k=1\/(atT ts i).k=2
   ·have k5:¬ (atT ts i).k=5:=Jo;have k4:¬ (atT ts i).k=4:=Jo;have k':(atT ts i).k=1\/(atT ts i).k=2\/(atT ts i).k=5:=Jo;simp[k1,k4,k5,k']
   ·have k5:¬ (atT ts i).k=5:=by
     intro e;rw[yP Jo,yP Jo] at hr;omega
    have k':¬ ((atT ts i).k=1\/(atT ts i).k=2\/(atT ts i).k=5):=Jo;by_cases k4:(atT ts i).k=4
    ·simp[k1,k4,k5,k']
    ·simp[k1,k4,k5,k']
  ·rw[hb] at hr;simp only[Bool.true_eq_false,if_false] at hr;by_cases c2:(atT ts i).k=3/\ZF xs (atT ts i).t 2=true
   ·have c3:ZF xs (atT ts i).t 3=false:=by
     cases h:ZF xs (atT ts i).t 3
     ·rfl
     ·exact yR ⟨c2.2,h⟩ H
    have k3:=c2.1;simp[c2,c3,k3]
   ·rw[yP c2] at hr;by_cases c3:(atT ts i).k=3/\ZF xs (atT ts i).t 3=true
    ·have c2':ZF xs (atT ts i).t 2=false:=by
      cases h:ZF xs (atT ts i).t 2
      ·rfl
      ·exact yR ⟨c3.1,h⟩ c2
     simp[c3,c2']
    ·rw[yP c3] at hr;by_cases c5:(atT ts i).k=5/\0<zCn ts i
     ·have k5:=c5.1;have k0:=c5.2;simp[k5];omega
     ·rw[yP c5] at hr;simp at hr
theorem zUM{ts:List zU}(ha:zGu xs)(i:Nat)(hi:i<ts.length)(hf:zCL xs ts i):zBK xs ts i (zBJ xs ts i)=zZ xs ts i:=by
 obtain⟨h1,h2⟩:=zK6 ha i hi hf;rw[h1];unfold zBK zZ ZP;rw[h2];simp
open Go.Maps
theorem zNQ:laidOutB prog=true:=Jk
theorem zXU:(210:TypeId)<prog.types.size:=of_decide_eq_true Jk
theorem zXC:(match prog.underlying 210 with|some (.array _ _)|some (.struct _)=>true|_=>false)=true:=Jk
theorem zKV:Keyed prog 210:=Keyed.of_law (deep_law_laid zNQ (m:=3) Jo zXU Jk zXC)
theorem zSD:Keyed prog 3:=int_keyed underlying3
theorem zSE:prog.keyType 210=true:=Jk
theorem zHe:prog.types.size+1=(prog.types.size-1)+1+1:=by
 have h:decide (1<=prog.types.size)=true:=Jk;have:=of_decide_eq_true h;omega
theorem zHf:prog.cellsOf 210=2:=Jk
theorem cells9:prog.cellsOf 9=1:=Jk
theorem cells3:prog.cellsOf 3=1:=Jk
def klO(s:JZ)(k:Int):Lit:=.string (keyBytes [.string s.data.toList,.int .i64 k])
theorem zVy(hs:s.size<=maxLen)(d:Nat):prog.keyLits (d+1) 9 [.string s]=some [.string s.data.toList]:=by
 unfold Program.keyLits;rw[underlying9];exact yQ hs
theorem zP6(hk:(Lit.int .i64 k).wf=true)(d:Nat):prog.keyLits (d+1) 3 [.int .i64 k]=some [.int .i64 k]:=by
 unfold Program.keyLits;rw[underlying3];exact yQ ⟨rfl,hk⟩
theorem zXD(hs:s.size<=maxLen)(hk:(Lit.int .i64 k).wf=true)(d:Nat):prog.keyLits (d+1+1) 210 [.string s,.int .i64 k]=some [.string s.data.toList,.int .i64 k]:=by
 conv=>lhs;unfold Program.keyLits
 rw[underlying210];simp[zHf,cells9,cells3,zVy hs d,zP6 hk d]
theorem zLu(hs:s.size<=maxLen)(hk:(Lit.int .i64 k).wf=true):keyOf prog 210 (.agg #[.string s,.int .i64 k])=some (klO s k):=by
 unfold keyOf;rw[underlying210];have hf:(Value.agg #[.string s,.int .i64 k]).formed prog 210=true:=by simp[Value.formed,underlying210,zHf]
 have hl:=zXD hs hk (prog.types.size-1);rw[<-zHe] at hl;simp only[zSE,hf,Bool.and_self,if_true];show(prog.keyLits (prog.types.size+1) 210 [.string s,.int .i64 k]).map _=_;rw[hl];rfl
theorem zLv{k':Int}(hs:s.size<=maxLen)(ht:t.size<=maxLen)(hk:(Lit.int .i64 k).wf=true)(H:(Lit.int .i64 k').wf=true)(h:klO s k=klO t k'):s=t/\k=k':=by
 have a:=zLu hs hk;have b:=zLu ht H;rw[<-h] at b;have:=zKV.inj a b;simpa using this
theorem zUN(h:(Lit.int .i64 l).wf=true):keyOf prog 3 (.int .i64 l)=some (.int .i64 l):=keyOf_int_mk underlying3 h
def zA9(s:JZ)(k l sd:Int):DataW Unit:=.agg [.lit (.string s.data.toList),.lit (.int .i64 k),.lit (.int .i64 l),.lit (.int .i64 sd)]
def zAU(v:Value):Option (DataW Unit×List MemPlace):=
 match v with
 |.agg cs=>match cs.toList with
  |[.string s,.int .i64 k,.int .i64 l,.int .i64 sd]=>some (zA9 s k l sd,[])
  |_=>none
 |_=>none
theorem zEI(s:JZ)(k l sd:Int):zAU (.agg #[Qs s,Qi k,Qi l,Qi sd])=some (zA9 s k l sd,[]):=rfl
theorem zEr{z:DataW Unit×List MemPlace}(h:zAU v=some z):∃s k l sd,v=.agg #[.string s,.int .i64 k,.int .i64 l,.int .i64 sd]:=by
 unfold zAU at h;split at h
 ·rename_i cs;split at h
  ·rename_i a b c d e;obtain⟨cs⟩:=cs;simp only at e;subst e;exact⟨_,_,_,_,rfl⟩
  ·cases h
 ·cases h
theorem zQv{s':JZ}{k' l' sd sd':Int}(h:zA9 s k l sd=zA9 s' k' l' sd'):s=s'/\k=k'/\l=l'/\sd=sd':=by
 unfold zA9 at h;simp only[DataW.agg.injEq,List.cons.injEq,DataW.lit.injEq,Lit.string.injEq,Lit.int.injEq,true_and,and_true] at h;obtain⟨h1,h2,h3,h4⟩:=h;refine⟨?_,h2,h3,h4⟩;obtain⟨⟨a⟩⟩:=s;obtain⟨⟨b⟩⟩:=s';simp only at h1;rw[h1]
theorem zOx{sd:Int}{ps:List MemPlace}(h:zAU v=some (zA9 s k l sd,ps)):v=.agg #[Qs s,Qi k,Qi l,Qi sd]:=by
 obtain⟨s',k',l',sd',rfl⟩:=zEr h;rw[zEI] at h;simp only[Option.some.injEq,Prod.mk.injEq] at h;obtain⟨rfl,rfl,rfl,rfl⟩:=zQv h.1;rfl
theorem zSF(w:JY):(zeroValue 33).run prog w=.ok (.agg #[Qs ⟨#[]⟩,Qi 0,Qi 0,Qi 0]) w:=Jk
theorem zP7(w:JY):(zeroValue 3).run prog w=.ok (Qi 0) w:=Jk
def zCX(v:Value):Option (DataW Value×List MemPlace):=some (.held v,[])
def klS(t:JZ):Lit:=.string t.data.toList
theorem zUO(h:klS s=klS t):s=t:=by
 unfold klS at h;injection h with h;cases s;cases t
 simp at h;rw[h]
theorem zSG(h:t.size<=maxLen):keyOf prog 9 (.string t)=some (klS t):=WideMaps.keyOf_string_mk underlying9 h
def Zx(w:JY)(b n:Nat)(G:ByteArray->Option Value):Prop:=
 ∃D:DataW Value,w.ownsMap prog 9 zCX b n D/\∀t,t.size<=maxLen->Maps.has D (klS t)=(G t).isSome/\(∀v,G t=some v->∀z,D.atKey (klS t) z=.held v)/\(G t=none->∀z,D.atKey (klS t) z=z)
theorem Zx.lt{w:JY}{b n:Nat}{G:ByteArray->Option Value}(h:Zx w b n G):b<w.heap.size:=by
 obtain⟨D,hD,_⟩:=h;exact hD.lt
theorem Zx.kept{w w':JY}{b n:Nat}{G:ByteArray->Option Value}{row:Option Nat}(h:Zx w b n G)(hg:w.grownBy w' row)(H:some b≠row):Zx w' b n G:=by
 obtain⟨D,hD,h⟩:=h;exact⟨D,hD.kept hg H,h⟩
theorem Zx.made(w:JY):Zx (w.alloc (.map #[] 0)) w.heap.size 0 (fun _=>none):=
 ⟨.map [],World.ownsMap_made w prog 9 zCX,fun t _=>⟨rfl,fun v h=>(by cases h),fun _ z=>rfl⟩⟩
theorem Zx.look{ty e:TypeId}(h:Zx w b n G)(ht:prog.underlying ty=some (.map 9 e)){z:Value}(hz:(zeroValue e).run prog w=.ok z w)(hs:t.size<=maxLen):(Instr.lookup ty (.map (some b)) (.string t) true).run prog w=.ok (.tuple #[(G t).getD z,.bool (G t).isSome]) w:=by
 obtain⟨D,hD,h⟩:=h;obtain⟨v,ps,H,hv⟩:=hD.look_ok (string_keyed underlying9) ht hz (zd:=.held z) (zp:=[]) rfl (zSG hs);rw[(h t hs).1] at H;have e:v=(G t).getD z:=by
  cases hg:G t with
  |none=>
   rw[(h t hs).2.2 hg] at hv;simp only[zCX,Option.some.injEq,Prod.mk.injEq,DataW.held.injEq] at hv;exact hv.1
  |some u=>
   rw[(h t hs).2.1 u hg] at hv;simp only[zCX,Option.some.injEq,Prod.mk.injEq,DataW.held.injEq] at hv;exact hv.1
 rw[<-e];exact H
theorem Zx.put{D:DataW Value}(hm:IsMap D)(h:∀t,t.size<=maxLen->Maps.has D (klS t)=(G t).isSome/\(∀v,G t=some v->∀z,D.atKey (klS t) z=.held v)/\(G t=none->∀z,D.atKey (klS t) z=z)){t:JZ}(hs:t.size<=maxLen)(v:Value):∀t',t'.size<=maxLen->Maps.has (D.put (klS t) (.held v)) (klS t')=(if t'.data=t.data then some v else G t').isSome/\(∀u,(if t'.data=t.data then some v else G t')=some u->∀z,(D.put (klS t) (.held v)).atKey (klS t') z=.held u)/\((if t'.data=t.data then some v else G t')=none->∀z,(D.put (klS t) (.held v)).atKey (klS t') z=z):=by
 intro t' H;by_cases e:t'.data=t.data
 ·have e':t'=t:=by cases t;cases t';simp at e;rw[e]
  subst e';have hk:=(string_keyed underlying9).key (zSG H);rw[yQ rfl,has_put_same hm hk];refine⟨rfl,fun u hu z=>?_,fun hu=>by cases hu⟩;injection hu with hu;rw[atKey_put_same hm hk,hu]
 ·have k:klS t'≠klS t:=fun x=>e (by rw[zUO x])
  rw[yP e,has_put_other k];refine⟨(h t' H).1,fun u hu z=>?_,fun hu z=>?_⟩
  ·rw[atKey_put_other k];exact(h t' H).2.1 u hu z
  ·rw[atKey_put_other k];exact(h t' H).2.2 hu z
theorem Zx.update{w:JY}{b n:Nat}{G:ByteArray->Option Value}{ty e:TypeId}(h:Zx w b n G)(ht:prog.underlying ty=some (.map 9 e))(hn:n<maxLen){t:JZ}(hs:t.size<=maxLen)(v:Value):∃w',(Instr.mapUpdate ty (.map (some b)) (Qs t) v).run prog w=.ok () w'/\Zx w' b (n+1) (fun t'=>if t'.data=t.data then some v else G t')/\zJ w w' b:=by
 obtain⟨D,hD,h⟩:=h;obtain⟨w',H,h1,h2⟩:=hD.update (string_keyed underlying9) ht hn (zSG hs) (val:=v) (d:=.held v) (ps:=[]) rfl;exact⟨w',H,⟨_,h1,Zx.put hD.isMap h hs v⟩,⟨h2.os,h2.tape,h2.output,h2.size,fun i hi k=>h2.block i hi (fun x=>k (by injection x))⟩⟩
theorem zDn(bo bs n:Nat)(D:DataW Unit)(t:JZ)(kd:Int)(w:JY)(h:w.ownsMap prog 210 zAU bo n D)(ht:t.size<=maxLen)(hk:(Lit.int .i64 kd).wf=true):Calls prog 175 #[.agg #[.map (some bo),.map (some bs)],.string t,.int .i64 kd] w fun e w'=>e=.returned (.bool (Maps.has D (klO t kd)))/\Below w.heap.size w w':=by
 go_enter func175,ntmps175;go_wp2_with (first|(at_lookup;refine wpList_lookup_own_ok _ rfl _ _ 158 rfl 210 33 zKV underlying158 zAU (zSF _) (zA9 ⟨#[]⟩ 0 0 0) [] (zEI _ _ _ _) bo n D rfl (h.alloc _) _ _ rfl (zLu ht hk) ?_;intro v ps hv;obtain⟨s',k',l',sd',rfl⟩:=zEr hv));go_ret;exact⟨rfl,(zC _ _).alloc Js _⟩
structure Idx(w:JY)(bo bs:Nat)(xs:List OpR)(k:Nat):Prop where
 ops:∃D:DataW Unit,w.ownsMap prog 210 zAU bo k D/\∀(s:JZ)(kd:Int),s.size<=maxLen->(Lit.int .i64 kd).wf=true->(Maps.has D (klO s kd)=true↔∃j,j<k/\(atO xs j).s=s/\(atO xs j).k=kd)/\(Maps.has D (klO s kd)=true->∃j,j<k/\(atO xs j).s=s/\(atO xs j).k=kd/\D.atKey (klO s kd) (zA9 ⟨#[]⟩ 0 0 0)=zA9 (atO xs j).s (atO xs j).k (atO xs j).l (atO xs j).sd)
 srts:∃D:DataW Unit,w.ownsMap prog 3 (plainElem prog 3) bs k D/\∀l:Int,(Lit.int .i64 l).wf=true->(Maps.has D (.int .i64 l)=true↔∃j,j<k/\(atO xs j).l=l) /\
  ∀c:Int,D.atKey (.int .i64 l) (.lit (.int .i64 0))=.lit (.int .i64 c)->Maps.has D (.int .i64 l)=true->∃j,j<k/\(atO xs j).l=l/\srt (atO xs j).k (atO xs j).sd=c
 ne:bo≠bs
theorem Idx.kept{w w':JY}{bo bs k:Nat}{xs:List OpR}(h:Idx w bo bs xs k)(hb:Qb w w'):Idx w' bo bs xs k:=by
 obtain⟨⟨D,h1,h2⟩,⟨E,h3,h4⟩,h5⟩:=h;have hg:w.grownBy w' none:=⟨hb.os,hb.tape,hb.output,hb.size,fun i hi _=>hb.block i hi⟩;exact⟨⟨D,h1.kept hg Js,h2⟩,⟨E,h3.kept hg Js,h4⟩,h5⟩
theorem zXE:(Lit.int .i64 1).wf=true:=Jd
theorem zXF:(Lit.int .i64 2).wf=true:=Jd
theorem zXG:(Lit.int .i64 3).wf=true:=Jd
theorem zIo(h:o.ok=true):o.k=1\/o.k=2\/o.k=3:=by
 obtain⟨_,h⟩:=zB1 _ _ _ _ h;omega
theorem zLw(bo bs k:Nat)(xs:List OpR)(w:JY)(hi:Idx w bo bs xs k)(H:zBi xs (k+1))(hs:(atO xs k).s.size<=maxLen):Calls prog 134 #[.agg #[.map (some bo),.map (some bs)],.agg #[.string (atO xs k).s,.int .i64 (atO xs k).k,.int .i64 (atO xs k).l,.int .i64 (atO xs k).sd]] w fun e w'=>(∃v,e=.returned (.bool v)/\(v=true↔∃j,j<k/\cl 3 (atO xs k) (atO xs j)))/\Below w.heap.size w w':=by
 obtain⟨⟨D,h,hD⟩,_,_⟩:=hi;have h1:=(hD _ _ hs zXE).1;have h2:=(hD _ _ hs zXF).1;have h3:=(hD _ _ hs zXG).1;have K:=zIo (H k Jo);have key1:(atO xs k).k=1->(Maps.has D (klO (atO xs k).s 1)=true↔∃j,j<k/\cl 3 (atO xs k) (atO xs j)):=by
  intro hk;rw[h1];simp only[cl,if_true,hk,true_iff];exact⟨fun⟨j,a,b,c⟩=>⟨j,a,b.symm,c⟩,fun⟨j,a,b,c⟩=>⟨j,a,b.symm,c⟩⟩
 have key2:(atO xs k).k≠1->((Maps.has D (klO (atO xs k).s 2)=true\/Maps.has D (klO (atO xs k).s 3)=true)↔∃j,j<k/\cl 3 (atO xs k) (atO xs j)):=by
  intro hk;rw[h2,h3];simp only[cl,if_true,hk,false_iff];constructor
  ·rintro(⟨j,a,b,c⟩|⟨j,a,b,c⟩)
   ·exact⟨j,a,b.symm,Jo⟩
   ·exact⟨j,a,b.symm,Jo⟩
  ·rintro⟨j,a,b,c⟩;have:=zIo (H j Jo);rcases this with e|e|e
   ·exact yR e c
   ·exact yS ⟨j,a,b.symm,e⟩
   ·exact yU ⟨j,a,b.symm,e⟩
 have K1:=zB key1;have K2:=zB key2;clear key1 key2 h1 h2 h3 hD H;by_cases hk:(atO xs k).k=1
 ·have q:((atO xs k).k==1)=true:=Ju hk
  have HK:=zB hk;clear hk K;go_enter func134,ntmps134;go_wp2_with (first|(go_at_call 175;refine(zDn bo bs k D _ _ _ ((h.alloc _).alloc _) hs Jd).mono ?_;rintro e w1 ⟨rfl,hb1⟩));go_ret;exact⟨⟨_,rfl,K1 HK⟩,((zC _ _).alloc Js _).trans (hb1.mono Jq)⟩
 ·have q:((atO xs k).k==1)=false:=Ju hk
  have HK:=zB hk;clear hk K;cases hh:Maps.has D (klO (atO xs k).s 2)
  ·have HH:=zB hh;go_enter func134,ntmps134;go_wp2_with fail;go_call zDn bo bs k D _ _ _ ((h.alloc _).alloc _) hs Jd as e w1 ⟨rfl,hb1⟩;obtain⟨x,Q⟩:=zH1 hb1;have hown1:=((h.alloc (.cells #[.map (some bo),.map (some bs)] 161)).alloc (.cells #[.string (atO xs k).s,.int .i64 (atO xs k).k,.int .i64 (atO xs k).l,.int .i64 (atO xs k).sd] 33)).kept (w':=w1) (row:=none) ⟨hb1.os,hb1.tape,hb1.output,hb1.size,fun i hi _=>hb1.block i hi⟩ Js;have HO:=zB hown1;clear hown1;go_wp2_with fail;go_call zDn bo bs k D _ _ _ HO hs Jd as e w2 ⟨rfl,hb2⟩;go_wp2_with fail;go_ret;refine⟨⟨_,rfl,?_⟩,(((zC _ _).alloc Js _).trans (hb1.mono Jq)).trans (hb2.mono (Jz hb1.size))⟩;have:=(zA K2) HK;rw[zA HH] at this;simpa using this
  ·have HH:=zB hh;go_enter func134,ntmps134;go_wp2_with fail;go_call zDn bo bs k D _ _ _ ((h.alloc _).alloc _) hs Jd as e w1 ⟨rfl,hb1⟩;go_wp2_with fail;go_ret;refine⟨⟨_,rfl,?_⟩,((zC _ _).alloc Js _).trans (hb1.mono Jq)⟩;have:=(zA K2) HK;rw[zA HH] at this;simpa using this
theorem zJR(h1:0<=l)(h2:l<=1000):(Lit.int .i64 l).wf=true:=by
 exact WalkArith.wf_i64 Jo
theorem zGv(h:o.ok=true):(Lit.int .i64 o.l).wf=true:=by
 obtain⟨⟨h1,h2⟩,_⟩:=zB1 _ _ _ _ h;exact zJR Jo h2
theorem zHg(h:o.ok=true):(Lit.int .i64 o.k).wf=true:=by
 obtain⟨_,h⟩:=zB1 _ _ _ _ h;exact zJR Jo Jo
theorem zWG(h:o.ok=true):(Lit.int .i64 (srt o.k o.sd)).wf=true:=by
 obtain⟨_,h⟩:=zB1 _ _ _ _ h;have:0<=srt o.k o.sd/\srt o.k o.sd<=1000:=by
  unfold srt;split
  ·omega
  ·split<;>omega
 exact zJR this.1 this.2
theorem zOy{k:Nat}(hn:zJC 4 xs k){j0:Nat}(h0:j0<k)(hl:(atO xs j0).l=(atO xs k).l)(hc:srt (atO xs j0).k (atO xs j0).sd=c):(c≠srt (atO xs k).k (atO xs k).sd)↔∃j,j<k/\cl 4 (atO xs k) (atO xs j):=by
 have H:∀a b:OpR,cl 4 a b↔(a.l=b.l/\srt a.k a.sd≠srt b.k b.sd):=fun a b=>by simp[cl]
 constructor
 ·intro h;exact⟨j0,h0,(H _ _).2 ⟨hl.symm,by rw[hc];exact h.symm⟩⟩
 ·rintro⟨j,hj,hh⟩;obtain⟨e1,e2⟩:=(H _ _).1 hh;rw[<-hc];intro e;apply e2;rw[<-e];by_cases e3:j<j0
  ·have:=hn j0 j e3 h0;rw[H] at this;exact Classical.byContradiction fun x=>this ⟨by rw[hl,e1],x⟩
  ·by_cases e4:j0<j
   ·have:=hn j j0 e4 hj;rw[H] at this;exact Classical.byContradiction fun x=>this ⟨by rw[hl,e1],fun y=>x y.symm⟩
   ·have e5:j=j0:=Jo;rw[e5]
theorem zLx(bo bs k:Nat)(xs:List OpR)(w:JY)(hi:Idx w bo bs xs k)(Q:zBi xs (k+1))(hn:zJC 4 xs k):Calls prog 135 #[.agg #[.map (some bo),.map (some bs)],.agg #[.string (atO xs k).s,.int .i64 (atO xs k).k,.int .i64 (atO xs k).l,.int .i64 (atO xs k).sd]] w fun e w'=>(∃v,e=.returned (.bool v)/\(v=true↔∃j,j<k/\cl 4 (atO xs k) (atO xs j)))/\Below w.heap.size w w':=by
 obtain⟨_,⟨D,q,hD⟩,_⟩:=hi;have h:=Q k Jo;obtain⟨h1,h2⟩:=hD _ (zGv h);have K:=zUN (zGv h);have y:Hid (okB (atO xs k).s (atO xs k).k (atO xs k).l (atO xs k).sd=true):=h;cases hh:Maps.has D (.int .i64 (atO xs k).l)
 ·have Y:=zB (show ¬ ∃j,j<k/\cl 4 (atO xs k) (atO xs j) from fun⟨j,hj,hc⟩=>by
   simp only[cl] at hc
   have:=h1.2 ⟨j,hj,hc.1.symm⟩
   rw[hh] at this
   cases this)
  have HK:=zB K;clear h1 h2 hD Q h K hn;go_enter func135,ntmps135;go_wp2_with (first|(at_lookup;refine wpList_lookup_own_ok_int _ rfl _ _ 159 rfl 3 3 .i64 zSD underlying159 underlying3 (zP7 _) bs k D rfl ((q.alloc _).alloc _) _ _ rfl HK ?_;intro c H P;have x:=zB H;clear H));go_ret;refine⟨⟨_,rfl,?_⟩,(zC _ _).alloc Js _⟩;simp[zA Y]
 ·have X:=zB (show ∀c:Int,D.atKey (.int .i64 (atO xs k).l) (.lit (.int .i64 0))=.lit (.int .i64 c)->((c≠srt (atO xs k).k (atO xs k).sd)↔∃j,j<k/\cl 4 (atO xs k) (atO xs j)) from fun c hc=>by
   obtain⟨j0,J,p,V⟩:=h2 c hc hh
   exact zOy hn J p V)
  have HK:=zB K;clear h1 h2 hD Q h K hn;go_enter func135,ntmps135;go_wp2_with (first|(at_lookup;refine wpList_lookup_own_ok_int _ rfl _ _ 159 rfl 3 3 .i64 zSD underlying159 underlying3 (zP7 _) bs k D rfl ((q.alloc _).alloc _) _ _ rfl HK ?_;intro c H P;have x:=zB H;clear H)|(go_at_call 176;refine(zJB _ _ _ _ _ y).mono ?_;rintro e w1 ⟨rfl,hb1⟩));go_ret;refine⟨⟨_,rfl,?_⟩,((zC _ _).alloc Js _).trans (hb1.mono Jq)⟩;have:=(zA X) c x;rw[<-this];simp
structure zAj(w w':JY)(bo bs:Nat):Prop where
 os:w'.os=w.os
 tape:w'.tape=w.tape
 output:w'.output=w.output
 size:w.heap.size<=w'.heap.size
 block:∀i,i<w.heap.size->i≠bo->i≠bs->w'.heap[i]?=w.heap[i]?
theorem zAj.trans{w w1 w2:JY}{bo bs:Nat}(h:zAj w w1 bo bs)(h':zAj w1 w2 bo bs):zAj w w2 bo bs:=
 ⟨h'.os.trans h.os,h'.tape.trans h.tape,h'.output.trans h.output,yw h.size h'.size,fun i hi a b=>(h'.block i (yl hi h.size) a b).trans (h.block i hi a b)⟩
theorem zAj.of_below(h:Qb w w'):zAj w w' bo bs:=⟨h.os,h.tape,h.output,h.size,fun i hi _ _=>h.block i hi⟩
theorem zAj.of_grown1(h:w.grownBy w' (some bo)):zAj w w' bo bs:=⟨h.os,h.tape,h.output,h.size,fun i hi a _=>h.block i hi (fun e=>a (Option.some.inj e))⟩
theorem zAj.of_grown2(h:w.grownBy w' (some bs)):zAj w w' bo bs:=⟨h.os,h.tape,h.output,h.size,fun i hi _ b=>h.block i hi (fun e=>b (Option.some.inj e))⟩
theorem zAj.cell{w w':JY}{bo bs:Nat}(h:zAj w w' bo bs){b:Nat}(hb:b<w.heap.size)(h1:b≠bo)(h2:b≠bs)(o:Nat):w'.cell? (Qa b o)=w.cell? (Qa b o):=
 yu (w:=w) (h.block b hb h1 h2)
theorem zAj.below(h:zAj w w' bo bs)(hB:B<=w.heap.size)(h1:B<=bo)(h2:B<=bs):Below B w w':=
 ⟨h.os,h.tape,h.output,h.size,fun i hi=>h.block i Jo Jo Jo⟩
theorem zSH{k:Nat}{D:DataW Unit}(hm:IsMap D)(hs:(atO xs k).s.size<=maxLen)(hk:(Lit.int .i64 (atO xs k).k).wf=true)(h:∀(s:JZ)(kd:Int),s.size<=maxLen->(Lit.int .i64 kd).wf=true->(Maps.has D (klO s kd)=true↔∃j,j<k/\(atO xs j).s=s/\(atO xs j).k=kd)/\(Maps.has D (klO s kd)=true->∃j,j<k/\(atO xs j).s=s/\(atO xs j).k=kd/\D.atKey (klO s kd) (zA9 ⟨#[]⟩ 0 0 0)=zA9 (atO xs j).s (atO xs j).k (atO xs j).l (atO xs j).sd)):∀(s:JZ)(kd:Int),s.size<=maxLen->(Lit.int .i64 kd).wf=true->(Maps.has (D.put (klO (atO xs k).s (atO xs k).k) (zA9 (atO xs k).s (atO xs k).k (atO xs k).l (atO xs k).sd)) (klO s kd)=true↔∃j,j<k+1/\(atO xs j).s=s/\(atO xs j).k=kd)/\(Maps.has (D.put (klO (atO xs k).s (atO xs k).k) (zA9 (atO xs k).s (atO xs k).k (atO xs k).l (atO xs k).sd)) (klO s kd)=true->∃j,j<k+1/\(atO xs j).s=s/\(atO xs j).k=kd/\(D.put (klO (atO xs k).s (atO xs k).k) (zA9 (atO xs k).s (atO xs k).k (atO xs k).l (atO xs k).sd)).atKey (klO s kd) (zA9 ⟨#[]⟩ 0 0 0)=zA9 (atO xs j).s (atO xs j).k (atO xs j).l (atO xs j).sd):=by
 intro s kd K H;by_cases e:klO s kd=klO (atO xs k).s (atO xs k).k
 ·obtain⟨e1,e2⟩:=zLv K hs H hk e;rw[e,has_put_same hm (zKV.key (zLu hs hk)),atKey_put_same hm (zKV.key (zLu hs hk))];exact⟨⟨fun _=>⟨k,Jo,e1.symm,e2.symm⟩,fun _=>rfl⟩,fun _=>⟨k,Jo,e1.symm,e2.symm,rfl⟩⟩
 ·rw[has_put_other e,atKey_put_other e];obtain⟨h1,h2⟩:=h s kd K H;refine⟨?_,fun hh=>?_⟩
  ·rw[h1];constructor
   ·rintro⟨j,a,b,c⟩;exact⟨j,Jo,b,c⟩
   ·rintro⟨j,a,b,c⟩;by_cases ej:j=k
    ·subst ej;exact yR (by rw[b,c]) e
    ·exact⟨j,Jo,b,c⟩
  ·obtain⟨j,a,b,c,d⟩:=h2 hh;exact⟨j,Jo,b,c,d⟩
theorem zQw{k:Nat}{D:DataW Unit}(hm:IsMap D)(hl:(Lit.int .i64 (atO xs k).l).wf=true)(h:∀l:Int,(Lit.int .i64 l).wf=true->(Maps.has D (.int .i64 l)=true↔∃j,j<k/\(atO xs j).l=l) /\
   ∀c:Int,D.atKey (.int .i64 l) (.lit (.int .i64 0))=.lit (.int .i64 c)->Maps.has D (.int .i64 l)=true->∃j,j<k/\(atO xs j).l=l/\srt (atO xs j).k (atO xs j).sd=c):∀l:Int,(Lit.int .i64 l).wf=true->(Maps.has (D.put (.int .i64 (atO xs k).l) (.lit (.int .i64 (srt (atO xs k).k (atO xs k).sd)))) (.int .i64 l)=true↔∃j,j<k+1/\(atO xs j).l=l) /\
   ∀c:Int,(D.put (.int .i64 (atO xs k).l) (.lit (.int .i64 (srt (atO xs k).k (atO xs k).sd)))).atKey (.int .i64 l) (.lit (.int .i64 0))=.lit (.int .i64 c)->Maps.has (D.put (.int .i64 (atO xs k).l) (.lit (.int .i64 (srt (atO xs k).k (atO xs k).sd)))) (.int .i64 l)=true->∃j,j<k+1/\(atO xs j).l=l/\srt (atO xs j).k (atO xs j).sd=c:=by
 intro l H;by_cases e:l=(atO xs k).l
 ·subst e;rw[has_put_same hm (zSD.key (zUN hl)),atKey_put_same hm (zSD.key (zUN hl))];refine⟨⟨fun _=>⟨k,Jo,rfl⟩,fun _=>rfl⟩,fun c hc _=>⟨k,Jo,rfl,Ju hc⟩⟩
 ·have e':Lit.int .i64 l≠Lit.int .i64 (atO xs k).l:=fun x=>e (Ju x)
  rw[has_put_other e',atKey_put_other e'];obtain⟨h1,h2⟩:=h l H;refine⟨?_,fun c hc hh=>?_⟩
  ·rw[h1];constructor
   ·rintro⟨j,a,b⟩;exact⟨j,Jo,b⟩
   ·rintro⟨j,a,b⟩;by_cases ej:j=k
    ·subst ej;exact yR b.symm e
    ·exact⟨j,Jo,b⟩
  ·obtain⟨j,a,b,d⟩:=h2 c hc hh;exact⟨j,Jo,b,d⟩
def zJS(w wr:JY)(bo bs:Nat)(o:OpR):Prop:=
 (wr.cell? (Qa w.heap.size 0)=some (.map (some bo))/\wr.cell? (Qa w.heap.size 1)=some (.map (some bs))) /\
 wr.cell? (Qa (w.heap.size+1) 0)=some (Qs o.s)/\wr.cell? (Qa (w.heap.size+1) 1)=some (Qi o.k)/\wr.cell? (Qa (w.heap.size+1) 2)=some (Qi o.l)/\wr.cell? (Qa (w.heap.size+1) 3)=some (Qi o.sd)
theorem zJS.step(h:zJS w wr bo bs o)(hk:zAj wr wr' bo bs)(hz:w.heap.size+1<wr.heap.size)(h1:bo<w.heap.size)(h2:bs<w.heap.size):zJS w wr' bo bs o:=by
 obtain⟨⟨a,b⟩,c,d,e,f⟩:=h;have e0:=hk.cell (b:=w.heap.size) Jo Jo Jo;have e1:=hk.cell (b:=w.heap.size+1) Jo Jo Jo;exact⟨⟨(e0 _).trans a,(e0 _).trans b⟩,(e1 _).trans c,(e1 _).trans d,(e1 _).trans e,(e1 _).trans f⟩
theorem zJS.start(w:JY)(bo bs:Nat)(o:OpR)(t t':TypeId):zJS w ((w.alloc (.cells #[.map (some bo),.map (some bs)] t)).alloc (.cells #[Qs o.s,Qi o.k,Qi o.l,Qi o.sd] t')) bo bs o:=by
 refine⟨⟨?_,?_⟩,?_,?_,?_,?_⟩<;>simp[go_sem]
theorem zP8(bo bs k:Nat)(xs:List OpR)(w:JY)(hi:Idx w bo bs xs k)(A:zBi xs (k+1))(hs:(atO xs k).s.size<=maxLen)(hk:k<1048576):Calls prog 136 #[.agg #[.map (some bo),.map (some bs)],.agg #[Qs (atO xs k).s,Qi (atO xs k).k,Qi (atO xs k).l,Qi (atO xs k).sd]] w fun e w'=>e=.returned (.tuple #[])/\Idx w' bo bs xs (k+1)/\zAj w w' bo bs:=by
 obtain⟨⟨D,q,hD⟩,⟨E,H,hE⟩,p⟩:=hi;have h:=A k Jo;have V:k<maxLen:=Jm;have HK:=zB (zLu hs (zHg h));have HL:=zB (zUN (zGv h));have HS:=zB (zWG h);have B:Hid (okB (atO xs k).s (atO xs k).k (atO xs k).l (atO xs k).sd=true):=h;have HD:=zB (zSH q.isMap hs (zHg h) hD);have HE:=zB (zQw H.isMap (zGv h) hE);have J:=q.lt;have P:=H.lt;clear hD hE A h;go_enter func136,ntmps136;go_wp2_with (first|(at_mapUpdate;refine wpList_mapUpdate_own _ rfl _ _ _ 158 rfl 210 33 zKV underlying158 zAU bo k D rfl ((q.alloc _).alloc _) V _ _ _ rfl rfl HK (zA9 (atO xs k).s (atO xs k).k (atO xs k).l (atO xs k).sd) [] (zEI _ _ _ _) ?_;intro w1 hown1 K;go_frame));have Q:=zAj.of_grown1 (bs:=bs) K;have a:=(zJS.start w bo bs (atO xs k) 161 33).step Q Js J P;have U:w.heap.size+1<w1.heap.size:=Jz Q.size
 have y:=((H.alloc (.cells #[.map (some bo),.map (some bs)] 161)).alloc (.cells #[Qs (atO xs k).s,Qi (atO xs k).k,Qi (atO xs k).l,Qi (atO xs k).sd] 33)).kept K (fun e=>p (Option.some.inj e).symm);have b:=zB ((zAj.of_below (bo:=bo) (bs:=bs) ((zC w (.cells #[.map (some bo),.map (some bs)] 161)).alloc Js (.cells #[Qs (atO xs k).s,Qi (atO xs k).k,Qi (atO xs k).l,Qi (atO xs k).sd] 33))).trans Q);obtain⟨⟨m0,m1⟩,c0,c1,c2,c3⟩:=a;clear K Q q H;go_region_held (fun w'=>(w'.cell? (Qa w.heap.size 0)=some (.map (some bo))/\w'.cell? (Qa w.heap.size 1)=some (.map (some bs))) /\
  w'.cell? (Qa (w.heap.size+1) 0)=some (Qs (atO xs k).s)/\w'.cell? (Qa (w.heap.size+1) 1)=some (Qi (atO xs k).k)/\w'.cell? (Qa (w.heap.size+1) 2)=some (Qi (atO xs k).l)/\w'.cell? (Qa (w.heap.size+1) 3)=some (Qi (atO xs k).sd)) (go_keep)
  (first|(go_at_call 176;refine(zJB _ _ _ _ _ B).mono ?_;rintro e w2 ⟨rfl,hb2⟩;have j:=zJS.step (w:=w) (wr:=w1.drew) (bo:=bo) (bs:=bs) (o:=atO xs k) ⟨⟨m0,m1⟩,c0,c1,c2,c3⟩ (zAj.of_below hb2) U J P;have Y:=y.drew.kept (w':=w2) (row:=none) ⟨hb2.os,hb2.tape,hb2.output,hb2.size,fun i hi _=>hb2.block i hi⟩ Js;have hown2:=hown1.drew.kept (w':=w2) (row:=none) ⟨hb2.os,hb2.tape,hb2.output,hb2.size,fun i hi _=>hb2.block i hi⟩ Js;obtain⟨w3,C,X,x⟩:=Y.update zSD underlying159 V HL (plainElem_int underlying3 HS);have u:=j.step (zAj.of_grown2 x) (yl U hb2.size) J P;have v:=hown2.kept x (fun e=>p (Option.some.inj e));have c:=zB ((b.trans (zAj.of_below ((yJ _ _).drew.trans hb2))).trans (zAj.of_grown2 x));obtain⟨⟨n0,n1⟩,d0,d1,d2,d3⟩:=j;obtain⟨⟨o0,o1⟩,f0,f1,f2,f3⟩:=u))
 go_wp2;go_end0;exact⟨rfl,⟨⟨_,v,HD⟩,⟨_,X,HE⟩,p⟩,c⟩
structure Lp(w:JY)(b off cap:Nat)(xs:List OpR)(n1:Nat)(wr:JY):Prop where
 box:wr.cell? (Qa w.heap.size 0)=some (.slice (some (Qa b off)) xs.length cap)
 r0:wr.cell? (Qa (w.heap.size+1) 0)=some (.map none)
 r1:wr.cell? (Qa (w.heap.size+1) 1)=some (.map none)
 f0:wr.frozen? (Qa (w.heap.size+1) 0)=false
 f1:wr.frozen? (Qa (w.heap.size+1) 1)=false
 x0:wr.cell? (Qa (n1+1+1) 0)=some (.map (some n1))
 x1:wr.cell? (Qa (n1+1+1) 1)=some (.map (some (n1+1)))
 ops:Ops wr b off xs
 bel:Qb w wr
 lt:n1+1+1<wr.heap.size
 ord:w.heap.size+1<n1
theorem zAj.frozen{w w':JY}{bo bs:Nat}(h:zAj w w' bo bs){b:Nat}(hb:b<w.heap.size)(h1:b≠bo)(h2:b≠bs)(o:Nat):w'.frozen? (Qa b o)=w.frozen? (Qa b o):=
 yD (w:=w) (h.block b hb h1 h2)
theorem Lp.step{n1:Nat}(h:Lp w b off cap xs n1 wr)(hk:zAj wr wr' n1 (n1+1))(hB:b<w.heap.size):Lp w b off cap xs n1 wr':=by
 have k:=h.lt;have H:=h.ord;have a:=hk.cell (b:=w.heap.size) Jo Jo Jo;have c:=hk.cell (b:=w.heap.size+1) Jo Jo Jo;have d:=hk.cell (b:=n1+1+1) Jo Jo Jo;have e:=hk.cell (b:=b) Jo Jo Jo;have f:=hk.frozen (b:=w.heap.size+1) Jo Jo Jo;refine⟨(a _).trans h.box,(c _).trans h.r0,(c _).trans h.r1,(f _).trans h.f0,(f _).trans h.f1,(d _).trans h.x0,(d _).trans h.x1,fun i hi=>?_,h.bel.trans (hk.below Jo Jo Jo),yl k hk.size,H⟩;obtain⟨q0,q1,q2,q3⟩:=h.ops i hi;exact⟨(e _).trans q0,(e _).trans q1,(e _).trans q2,(e _).trans q3⟩
theorem Lp.below{n1:Nat}(h:Lp w b off cap xs n1 wr)(hb:Qb wr wr')(hB:b<w.heap.size):Lp w b off cap xs n1 wr':=
 h.step (zAj.of_below hb) hB
theorem Idx.set{k o:Nat}(h:Idx w bo bs xs k)(h1:bo≠b)(h2:bs≠b):Idx (w.setCell (Qa b o) v) bo bs xs k:=by
 obtain⟨⟨D,a1,a2⟩,⟨E,a3,a4⟩,a5⟩:=h;have hg:w.grownBy (w.setCell (Qa b o) v) (some b):=⟨rfl,rfl,rfl,Jt,fun i _ hi=>je _ _ _ _ (fun e=>hi (by rw[e]))⟩;exact⟨⟨D,a1.kept hg (fun e=>h1 (Option.some.inj e)),a2⟩,⟨E,a3.kept hg (fun e=>h2 (Option.some.inj e)),a4⟩,a5⟩
theorem Idx.start(w:JY)(xs:List OpR)(o:Obj):Idx (((w.alloc (.map #[] 0)).alloc (.map #[] 0)).alloc o) w.heap.size (w.heap.size+1) xs 0:=by
 have h1:=World.ownsMap_made (H:=Unit) w prog 210 zAU;have h2:=World.ownsMap_made (H:=Unit) (w.alloc (.map #[] 0)) prog 3 (plainElem prog 3);have e:(w.alloc (.map #[] 0)).heap.size=w.heap.size+1:=Js;rw[e] at h2;refine⟨⟨_,(h1.alloc _).alloc _,fun s kd _ _=>?_⟩,⟨_,h2.alloc _,fun l _=>?_⟩,Jo⟩
 ·simp[Maps.has]
 ·simp[Maps.has]
theorem zDo{o:Nat}(h:b<w1.heap.size)(o1 o2 o3:Obj):(((w1.alloc o1).alloc o2).alloc o3).cell? (Qa b o)=w1.cell? (Qa b o):=
 (((zC _ o1).alloc Js o2).alloc Jq o3).cell (p:=Qa b o) h
theorem zF8{o:Nat}(h:b<w1.heap.size)(o1 o2 o3:Obj):(((w1.alloc o1).alloc o2).alloc o3).frozen? (Qa b o)=w1.frozen? (Qa b o):=
 (((zC _ o1).alloc Js o2).alloc Jq o3).frozen (p:=Qa b o) h
theorem Lp.start(hw:Ops w b off xs)(hB:b<w.heap.size)(t t' t3:TypeId)(k:Below ((w.alloc (.cells #[.slice (some (Qa b off)) xs.length cap] t)).alloc (.cells #[.map none,.map none] t')).heap.size ((w.alloc (.cells #[.slice (some (Qa b off)) xs.length cap] t)).alloc (.cells #[.map none,.map none] t')) w1):Lp w b off cap xs w1.heap.size (((w1.alloc (.map #[] 0)).alloc (.map #[] 0)).alloc (.cells #[.map (some w1.heap.size),.map (some (w1.heap.size+1))] t3)):=by
 obtain⟨H,K⟩:=zH1 k;have q:w.heap.size+1<w1.heap.size:=Jz k.size
 have h:Qb w w1:=((zC _ _).alloc Js _).trans (k.mono Jq);refine⟨?_,?_,?_,?_,?_,?_,?_,?_,?_,?_,q⟩
 ·rw[zDo (by omega),H _ _ (by simp;omega)];simp[go_sem]
 ·rw[zDo (by omega),H _ _ (by simp)];simp[go_sem]
 ·rw[zDo (by omega),H _ _ (by simp)];simp[go_sem]
 ·rw[zF8 (by omega),K _ _ (by simp)];simp[go_sem]
 ·rw[zF8 (by omega),K _ _ (by simp)];simp[go_sem]
 ·simp[go_sem]
 ·simp[go_sem]
 ·exact(hw.below h hB).below (((zC _ _).alloc Js _).alloc Jq _) Jo
 ·exact((h.alloc Jo _).alloc Jq _).alloc Jq _
 ·simp
theorem zKW{w2:JY}{t:TypeId}(hb:Below (wr.alloc (.cells #[Qs o.s,Qi o.k,Qi o.l,Qi o.sd] t)).heap.size (wr.alloc (.cells #[Qs o.s,Qi o.k,Qi o.l,Qi o.sd] t)) w2):w2.cell? (Qa wr.heap.size 0)=some (Qs o.s)/\w2.cell? (Qa wr.heap.size 1)=some (Qi o.k)/\w2.cell? (Qa wr.heap.size 2)=some (Qi o.l)/\w2.cell? (Qa wr.heap.size 3)=some (Qi o.sd):=by
 obtain⟨hc,_⟩:=zH1 hb;refine⟨?_,?_,?_,?_⟩<;>(rw[hc _ _ (by simp)];simp[go_sem])
theorem zKX{w2 w3:JY}(hb:Qb w2 w3)(hn:n<w2.heap.size)(h0:w2.cell? (Qa n 0)=some (Qs o.s))(h1:w2.cell? (Qa n 1)=some (Qi o.k))(h2:w2.cell? (Qa n 2)=some (Qi o.l))(h3:w2.cell? (Qa n 3)=some (Qi o.sd)):w3.cell? (Qa n 0)=some (Qs o.s)/\w3.cell? (Qa n 1)=some (Qi o.k)/\w3.cell? (Qa n 2)=some (Qi o.l)/\w3.cell? (Qa n 3)=some (Qi o.sd):=by
 have e:=fun q=>hb.cell (p:=Qa n q) hn
 exact⟨(e _).trans h0,(e _).trans h1,(e _).trans h2,(e _).trans h3⟩
theorem zDQ(b off cap:Nat)(xs:List OpR)(w:JY)(hm:xs.length<=1048576)(hw:Ops w b off xs)(hs:ZA xs)(hB:b<w.heap.size):Calls prog 91 #[.agg #[.slice (some (Qa b off)) xs.length cap]] w fun e w'=>(∃(x y:Option Nat)(c:Int),e=.returned (.tuple #[.agg #[.map x,.map y],Qi c])/\zO xs c/\(c=0->∃bo bs,x=some bo/\y=some bs/\Idx w' bo bs xs xs.length))/\Qb w w':=by
 have o:=@run_makeMap prog;by_cases D:500<xs.length
 ·go_enter func91,ntmps91;go_wp2;exact yN (v:=.tuple #[.agg #[.map none,.map none],Qi 1]) (by simp[results,results91,go_sem]) rfl ⟨⟨none,none,1,rfl,yS ⟨rfl,D⟩,fun h=>yR h Jd⟩,(zC _ _).alloc Js _⟩
 have q:xs.length<=500:=Jo;go_enter func91,ntmps91;go_wp2_with fail;go_call zQp b off cap xs _ hm ((hw.below (zC _ _) hB).below (zC _ _) Jq) hs Jq as e w1 ⟨⟨v,rfl,hv⟩,hb1⟩;have HV:=zB hv;clear hv;obtain⟨a,g⟩:=zH1 hb1;have O:w.heap.size+1<w1.heap.size:=Jz hb1.size
 have f:Qb w w1:=((zC _ _).alloc Js _).trans (hb1.mono Jq);cases v
 ·go_wp2_with fail;refine yN (v:=.tuple #[.agg #[.map none,.map none],Qi 2]) (by simp[results,results91,go_sem,a]) rfl ⟨⟨none,none,2,rfl,yU ⟨q,yS ⟨rfl,fun h=>?_⟩⟩,fun h=>yR h Jd⟩,(f.setCell Js _).setCell Js _⟩;exact Bool.false_ne_true (HV.2 h)
 ·have Y:zBi xs xs.length:=HV.1 rfl;have hL:=zB (Lp.start (t3:=161) hw hB _ _ hb1);have hI:=zB (Idx.start w1 xs (.cells #[.map (some w1.heap.size),.map (some (w1.heap.size+1))] 161));have F:∀o1 o2 o3,(((w1.alloc o1).alloc o2).alloc o3).cell? (Qa w.heap.size 0)=some (.slice (some (Qa b off)) xs.length cap):=fun o1 o2 o3=>by
   rw[zDo (by omega),a _ _ (by simp;omega)];simp[go_sem]
  clear HV a g hb1;go_wp2_with fail;clear F;go_loopw [24,5] (fun i mx wr=>∃(k:Nat)(m:Bool),k<=xs.length/\i=Qi k/\mx=.bool m/\Hid (zJC 3 xs k/\(m=true↔¬ zJC 4 xs k))/\Hid (Idx wr w1.heap.size (w1.heap.size+1) xs k)/\Hid (Lp w b off cap xs w1.heap.size wr)) (fun i _ _=>xs.length-(intOf i).toNat);case atStart=>exact⟨0,false,ym _,rfl,rfl,zB ⟨fun i j _ h=>Jo,⟨fun h=>(by cases h),fun h=>yR (fun i j _ h=>Jo) h⟩⟩,hI,hL⟩
  case round=>
   clear hI hL;obtain⟨k,m,hk,rfl,rfl,H,hI,hL⟩:=hrel;by_cases J:k<xs.length
   ·have HO:Hid (zBi xs (k+1)):=fun j hj=>Y j Jo
    obtain⟨a0,a1,a2,a3⟩:=hL.ops k J;have x0:=hL.x0;have x1:=hL.x1;have xlt:=hL.lt;have B:=zB (hI.kept (zC wr (.cells #[Qs (atO xs k).s,Qi (atO xs k).k,Qi (atO xs k).l,Qi (atO xs k).sd] 33)));have E:=zB (hL.below (zC wr (.cells #[Qs (atO xs k).s,Qi (atO xs k).k,Qi (atO xs k).l,Qi (atO xs k).sd] 33)) hB);clear hI hL;go_wp2_with fail;go_call zLw _ _ _ _ _ B HO (hs k J) as e w2 ⟨⟨v,rfl,hv⟩,hb2⟩;have HV:=zB hv;clear hv;have K:=E.below hb2 hB;have V:=zB (B.kept hb2);have y0:=K.x0;have y1:=K.x1;have r0:=K.r0;have r1:=K.r1;have f0:=K.f0;have f1:=K.f1;have X:=K.bel;have ylt:wr.heap.size<w2.heap.size:=Jz hb2.size
    obtain⟨o0,o1,o2,o3⟩:=zKW hb2;have C:=zB K;clear K B E hb2 a0 a1 a2 a3 x0 x1 xlt;cases v
    ·have p:=zB (zHZ H.1 (fun j hj hc=>Bool.false_ne_true (HV.2 ⟨j,hj,hc⟩)));cases m
     ·have Q:zJC 4 xs k:=Classical.byContradiction fun x=>Bool.false_ne_true (H.2.2 x)
      have u:=zB Q;clear Q HV H;go_wp2_with fail;go_call zLx _ _ _ _ _ V HO u as e w3 ⟨⟨v',rfl,hv'⟩,hb3⟩;have L:=zB hv';clear hv';have U:=C.below hb3 hB;have n:=zB (V.kept hb3);have z0:=U.x0;have z1:=U.x1;have zlt:wr.heap.size<w3.heap.size:=yl ylt hb3.size;obtain⟨p0,p1,p2,p3⟩:=zKX hb3 ylt o0 o1 o2 o3;have G:=zB U;clear U V C hb3 y0 y1 r0 r1 f0 f1 o0 o1 o2 o3;go_wp2_with fail;go_call zP8 _ _ _ _ _ n HO (hs k J) Jo as e w4 ⟨rfl,hI4,hk4⟩;have d:=zB hI4;have A:=zB (G.step hk4 hB);clear hI4 hk4;go_wp2_with fail;refine⟨⟨k+1,v',Jo,Jn,rfl,zB ⟨p,?_⟩,d,A⟩,Ji⟩;rw[zA L];constructor
      ·rintro⟨j,hj,hc⟩ hn;exact hn k j hj Jo hc
      ·intro hn;exact Classical.byContradiction fun x=>hn (zHZ u (fun j hj hc=>x ⟨j,hj,hc⟩))
     ·have Q:Hid (¬ zJC 4 xs (k+1)):=fun h=>H.2.1 rfl (fun i j hj hi=>h i j hj Jo)
      clear HV H;go_wp2_with fail;go_call zP8 _ _ _ _ _ V HO (hs k J) Jo as e w4 ⟨rfl,hI4,hk4⟩;have d:=zB hI4;have A:=zB (C.step hk4 hB);clear hI4 hk4;go_wp2_with fail;exact⟨⟨k+1,true,Jo,Jn,rfl,zB ⟨p,⟨fun _=>Q,fun _=>rfl⟩⟩,d,A⟩,Ji⟩
    ·have N:=zB (show Pr 3 xs by
      obtain⟨j,hj,hc⟩:=HV.1 rfl
      exact⟨k,j,hj,J,hc⟩)
     clear HV;go_wp2_with fail;exact yN (v:=.tuple #[.agg #[.map none,.map none],Qi 3]) (by simp[results,results91,go_sem,r0,r1]) rfl ⟨⟨none,none,3,rfl,yU ⟨q,yU ⟨Y,yS ⟨rfl,N⟩⟩⟩,fun h=>yR h Jd⟩,(X.setCell Js _).setCell Js _⟩
   ·have P:k=xs.length:=Jo;have p:=zB (show ¬ Pr 3 xs from zJD (P ▸ (zA H).1));have X:=hL.bel;have r0:=hL.r0;have r1:=hL.r1;have f0:=hL.f0;have f1:=hL.f1;have x0:=hL.x0;have x1:=hL.x1;have ord:=hL.ord;cases m
    ·have Q:zJC 4 xs k:=Classical.byContradiction fun x=>Bool.false_ne_true (H.2.2 x)
     have u:=zB (show ¬ Pr 4 xs from zJD (P ▸ Q));have M:=zB (show Idx wr w1.heap.size (w1.heap.size+1) xs xs.length from P ▸ zA hI);clear Q H P;go_wp2_with fail;exact yN (v:=.tuple #[.agg #[.map (some w1.heap.size),.map (some (w1.heap.size+1))],Qi 0]) (by simp[results,results91,go_sem,r0,r1]) rfl ⟨⟨_,_,0,rfl,yU ⟨q,yU ⟨Y,yU ⟨p,yU ⟨rfl,u⟩⟩⟩⟩,fun _=>⟨_,_,rfl,rfl,(M.set Jo Jo).set Jo Jo⟩⟩,(X.setCell Js _).setCell Js _⟩
    ·have I:=zB (show Pr 4 xs by
      have h4:=H.2.1 rfl
      refine Classical.byContradiction fun x=>h4 (fun i j hj hi hc=>x ⟨i,j,hj,Jo,hc⟩))
     clear H P;go_wp2_with fail;exact yN (v:=.tuple #[.agg #[.map none,.map none],Qi 4]) (by simp[results,results91,go_sem,r0,r1]) rfl ⟨⟨none,none,4,rfl,yU ⟨q,yU ⟨Y,yU ⟨p,yS ⟨rfl,I⟩⟩⟩⟩,fun h=>yR h Jd⟩,(X.setCell Js _).setCell Js _⟩
structure Sc(w:JY)(p bo bs L:Nat)(s:JZ)(gap start:Nat)(v:Value):Prop where
 c0:w.cell? (Qa p 0)=some (.map (some bo))
 c1:w.cell? (Qa p 1)=some (.map (some bs))
 c2:w.cell? (Qa p 2)=some (Qi L)
 c3:w.cell? (Qa p 3)=some (Qs s)
 c4:w.cell? (Qa p 4)=some (Qi gap)
 c5:w.cell? (Qa p 5)=some (Qi start)
 c6:w.cell? (Qa p 6)=some v
 fz:∀o,w.frozen? (Qa p o)=false
theorem zJT(p bo bs L:Nat)(s:JZ)(K start:Nat)(v:Value)(first q:Nat)(w:JY)(h:Sc w p bo bs L s K start v)(hq:q<=s.size)(hf:first=2\/first=3):Calls prog 177 #[Qp p,Qi first,Qi q] w fun e w'=>zBD e (q<s.size/\(cls (bt s q)=2\/(cls (bt s q)=3/\first=3)))/\w'=w:=by
 have c3:=h.c3;clear h;by_cases H:q<s.size
 ·have k:(q:Int)<(s.size:Int):=Jo;have hb:=zB (ZQ H);have HF:=zB hf;clear hf;go_enter func177,ntmps177;go_wp2_with (go_at_call 174;refine(zD1 first _ _).mono ?_;rintro e w' ⟨rfl,hx⟩;obtain rfl:=hx.symm);go_ret;refine⟨⟨_,rfl,?_⟩,rfl⟩;unfold zE9 zCf;rw[zA hb];simp[H]
 ·have k:¬ (q:Int)<(s.size:Int):=Jo;go_enter func177,ntmps177;go_wp2_with fail;go_ret;exact⟨⟨false,rfl,zQ Js⟩,rfl⟩
theorem zXV:(33:TypeId)<prog.types.size:=of_decide_eq_true Jk
theorem zXH:(match prog.underlying 33 with|some (.array _ _)|some (.struct _)=>true|_=>false)=true:=Jk
theorem zSI:Keyed prog 33:=Keyed.of_law (deep_law_laid zNQ (m:=3) Jo zXV Jk zXH)
theorem zWH:prog.keyType 33=true:=Jk
theorem zSJ:prog.cellsOf 33=4:=Jk
def zEs(o:OpR):Prop:=o.s.size<=maxLen/\(Lit.int .i64 o.k).wf=true/\(Lit.int .i64 o.l).wf=true/\(Lit.int .i64 o.sd).wf=true
def klQ(o:OpR):Lit:=.string (keyBytes [.string o.s.data.toList,.int .i64 o.k,.int .i64 o.l,.int .i64 o.sd])
theorem zXI(h:zEs o)(d:Nat):prog.keyLits (d+1+1) 33 [.string o.s,.int .i64 o.k,.int .i64 o.l,.int .i64 o.sd]=some [.string o.s.data.toList,.int .i64 o.k,.int .i64 o.l,.int .i64 o.sd]:=by
 obtain⟨h1,h2,h3,h4⟩:=h;conv=>lhs;unfold Program.keyLits
 rw[underlying33];simp[zSJ,cells9,cells3,zVy h1 d,zP6 h2 d,zP6 h3 d,zP6 h4 d]
theorem zQx(h:zEs o):keyOf prog 33 (.agg #[.string o.s,.int .i64 o.k,.int .i64 o.l,.int .i64 o.sd])=some (klQ o):=by
 unfold keyOf;rw[underlying33];have hf:(Value.agg #[.string o.s,.int .i64 o.k,.int .i64 o.l,.int .i64 o.sd]).formed prog 33=true:=by simp[Value.formed,underlying33,zSJ]
 have hl:=zXI h (prog.types.size-1);rw[<-zHe] at hl;simp only[zWH,hf,Bool.and_self,if_true];show(prog.keyLits (prog.types.size+1) 33 [.string o.s,.int .i64 o.k,.int .i64 o.l,.int .i64 o.sd]).map _=_;rw[hl];rfl
theorem zUP{a b:OpR}(ha:zEs a)(hb:zEs b)(h:klQ a=klQ b):a=b:=by
 have p:=zQx ha;have q:=zQx hb;rw[<-h] at q;have:=zSI.inj p q;obtain⟨s,k,l,sd⟩:=a;obtain⟨s',k',l',sd'⟩:=b;simp at this;obtain⟨rfl,rfl,rfl,rfl⟩:=this;rfl
def zCO(w:JY)(b n:Nat)(G:OpR->Option Value):Prop:=
 ∃D:DataW Value,w.ownsMap prog 33 zCX b n D/\∀t,zEs t->Maps.has D (klQ t)=(G t).isSome/\(∀v,G t=some v->∀z,D.atKey (klQ t) z=.held v)/\(G t=none->∀z,D.atKey (klQ t) z=z)
theorem zCO.lt{w:JY}{b n:Nat}{G:OpR->Option Value}(h:zCO w b n G):b<w.heap.size:=by
 obtain⟨D,hD,_⟩:=h;exact hD.lt
theorem zCO.kept{w w':JY}{b n:Nat}{G:OpR->Option Value}{row:Option Nat}(h:zCO w b n G)(hg:w.grownBy w' row)(H:some b≠row):zCO w' b n G:=by
 obtain⟨D,hD,h⟩:=h;exact⟨D,hD.kept hg H,h⟩
theorem zCO.made(w:JY):zCO (w.alloc (.map #[] 0)) w.heap.size 0 (fun _=>none):=
 ⟨.map [],World.ownsMap_made w prog 33 zCX,fun t _=>⟨rfl,fun v h=>(by cases h),fun _ z=>rfl⟩⟩
theorem zCO.look{G:OpR->Option Value}{ty e:TypeId}(h:zCO w b n G)(ht:prog.underlying ty=some (.map 33 e)){z:Value}(hz:(zeroValue e).run prog w=.ok z w){t:OpR}(hs:zEs t):(Instr.lookup ty (.map (some b)) (.agg #[.string t.s,.int .i64 t.k,.int .i64 t.l,.int .i64 t.sd]) true).run prog w=.ok (.tuple #[(G t).getD z,.bool (G t).isSome]) w:=by
 obtain⟨D,hD,h⟩:=h;obtain⟨v,ps,H,hv⟩:=hD.look_ok zSI ht hz (zd:=.held z) (zp:=[]) rfl (zQx hs);rw[(h t hs).1] at H;have e:v=(G t).getD z:=by
  cases hg:G t with
  |none=>
   rw[(h t hs).2.2 hg] at hv;simp only[zCX,Option.some.injEq,Prod.mk.injEq,DataW.held.injEq] at hv;exact hv.1
  |some u=>
   rw[(h t hs).2.1 u hg] at hv;simp only[zCX,Option.some.injEq,Prod.mk.injEq,DataW.held.injEq] at hv;exact hv.1
 rw[<-e];exact H
theorem zCO.put{G:OpR->Option Value}{D:DataW Value}(hm:IsMap D)(h:∀t,zEs t->Maps.has D (klQ t)=(G t).isSome/\(∀v,G t=some v->∀z,D.atKey (klQ t) z=.held v)/\(G t=none->∀z,D.atKey (klQ t) z=z)){t:OpR}(hs:zEs t)(v:Value):∀t',zEs t'->Maps.has (D.put (klQ t) (.held v)) (klQ t')=(if ZV t' t=true then some v else G t').isSome/\(∀u,(if ZV t' t=true then some v else G t')=some u->∀z,(D.put (klQ t) (.held v)).atKey (klQ t') z=.held u)/\((if ZV t' t=true then some v else G t')=none->∀z,(D.put (klQ t) (.held v)).atKey (klQ t') z=z):=by
 intro t' H;by_cases e:ZV t' t=true
 ·have e':t'=t:=ZD.1 e;subst e';have hk:=zSI.key (zQx H);rw[yQ e,has_put_same hm hk];refine⟨rfl,fun u hu z=>?_,fun hu=>by cases hu⟩;injection hu with hu;rw[atKey_put_same hm hk,hu]
 ·have k:klQ t'≠klQ t:=fun x=>e (ZD.2 (zUP H hs x))
  rw[yP e,has_put_other k];refine⟨(h t' H).1,fun u hu z=>?_,fun hu z=>?_⟩
  ·rw[atKey_put_other k];exact(h t' H).2.1 u hu z
  ·rw[atKey_put_other k];exact(h t' H).2.2 hu z
theorem zCO.update{w:JY}{b n:Nat}{G:OpR->Option Value}{ty e:TypeId}(h:zCO w b n G)(ht:prog.underlying ty=some (.map 33 e))(hn:n<maxLen){t:OpR}(hs:zEs t)(v:Value):∃w',(Instr.mapUpdate ty (.map (some b)) (.agg #[Qs t.s,Qi t.k,Qi t.l,Qi t.sd]) v).run prog w=.ok () w'/\zCO w' b (n+1) (fun t'=>if ZV t' t=true then some v else G t')/\zJ w w' b:=by
 obtain⟨D,hD,h⟩:=h;obtain⟨w',H,h1,h2⟩:=hD.update zSI ht hn (zQx hs) (val:=v) (d:=.held v) (ps:=[]) rfl;exact⟨w',H,⟨_,h1,zCO.put hD.isMap h hs v⟩,⟨h2.os,h2.tape,h2.output,h2.size,fun i hi K=>h2.block i hi (fun x=>K (by injection x))⟩⟩
structure Eff(w w':JY)(b o:Nat)(kv:Value)(pv:Option Nat):Prop where
 os:w'.os=w.os
 tape:w'.tape=w.tape
 output:w'.output=w.output
 size:w.heap.size<=w'.heap.size
 blk:∀i,i<w.heap.size->i≠b->kv.ownBlock≠some i->pv≠some i->w'.heap[i]?=w.heap[i]?
 cel:∀o',o'≠o->o'≠o+1->w'.cell? (Qa b o')=w.cell? (Qa b o')/\w'.frozen? (Qa b o')=w.frozen? (Qa b o')
theorem Eff.refl(w:JY)(b o:Nat)(kv:Value)(pv:Option Nat):Eff w w b o kv pv:=⟨rfl,rfl,rfl,yk _,fun _ _ _ _ _=>rfl,fun _ _ _=>⟨rfl,rfl⟩⟩
def Zd(H:Nat)(r r':Option Nat):Prop:=r'=r\/∃k,r'=some k/\H<=k
theorem Zd.ne{H:Nat}{r r':Option Nat}{x:Nat}(h:Zd H r r')(hn:r≠some x)(hx:x<H):r'≠some x:=fun e=>by
 rcases h with h|⟨k,h,hk⟩
 ·exact hn (h.symm.trans e)
 ·rw[h] at e;injection e with e;omega
theorem Zd.trans{H H':Nat}{r r' r'':Option Nat}(h:Zd H r r')(h':Zd H' r' r'')(hH:H<=H'):Zd H r r'':=by
 rcases h' with h'|⟨k,h',hk⟩
 ·rw[Zd,h'];exact h
 ·exact yU ⟨k,h',Jo⟩
theorem Eff.trans{w w1 w2:JY}{b o:Nat}{kv kv1:Value}{pv pv1:Option Nat}(h:Eff w w1 b o kv pv)(h1:Eff w1 w2 b o kv1 pv1)(hk:Zd w.heap.size kv.ownBlock kv1.ownBlock)(hp:Zd w.heap.size pv pv1):Eff w w2 b o kv pv:=
 ⟨h1.os.trans h.os,h1.tape.trans h.tape,h1.output.trans h.output,yw h.size h1.size,fun i hi hb H k=>(h1.blk i (yl hi h.size) hb (hk.ne H hi) (hp.ne k hi)).trans (h.blk i hi hb H k),
  fun o' h2 h3=>⟨(h1.cel o' h2 h3).1.trans (h.cel o' h2 h3).1,(h1.cel o' h2 h3).2.trans (h.cel o' h2 h3).2⟩⟩
theorem Eff.cell{w w':JY}{b o:Nat}{kv:Value}{pv:Option Nat}(h:Eff w w' b o kv pv){i:Nat}(hi:i<w.heap.size)(hb:i≠b)(hk:kv.ownBlock≠some i)(hp:pv≠some i)(q:Nat):w'.cell? (Qa i q)=w.cell? (Qa i q):=yu (w:=w) (h.blk i hi hb hk hp)
theorem Eff.below{o:Nat}(h:Eff w w' b o kv pv)(hB:B<=w.heap.size)(hb:B<=b)(hk:∀g,kv.ownBlock=some g->B<=g)(hp:∀g,pv=some g->B<=g):Below B w w':=
 ⟨h.os,h.tape,h.output,h.size,fun i hi=>h.blk i Jo Jo (fun e=>Jy (hk i e)) (fun e=>Jy (hp i e))⟩
def zGU:List ByteArray->ByteArray->Option Nat
 |[],_=>none
 |x::r,t=>if x=t then some 0 else(zGU r t).map (·+1)
theorem zK7:∀(ks:List JZ)(t:JZ),(zGU ks t).isSome=true↔t∈ks
 |[],t=>by simp[zGU]
 |x::r,t=>by
  unfold zGU;by_cases e:x=t
  ·rw[yQ e];simp[e]
  ·rw[yP e,Option.isSome_map,zK7 r t];simp[List.mem_cons,Ne.symm e]
theorem zNR(h:u ∉ ks)(t:JZ):zGU (ks++[u]) t=if t=u then some ks.length else zGU ks t:=by
 induction ks with
 |nil=>
  simp only[List.nil_append,zGU,yZ];by_cases e:u=t
  ·rw[yQ e,yQ e.symm]
  ·rw[yP e,yP (Ne.symm e)];rfl
 |cons x r ih=>
  have hx:u≠x:=fun e=>h (by simp[e])
  have hr:u ∉ r:=fun e=>h (by simp[e])
  simp only[List.cons_append,zGU,yy];by_cases e:x=t
  ·rw[yQ e,yQ e,yP (fun e2=>hx (by rw[e,<-e2]))]
  ·rw[yP e,yP e,ih hr];by_cases e2:t=u
   ·rw[yQ e2,yQ e2];rfl
   ·rw[yP e2,yP e2]
def gSS(ks:List JZ)(t:JZ):Option Value:=(zGU ks t).map fun(i:Nat)=>Value.int .i64 (i:Int)
theorem Zx.congr{G':ByteArray->Option Value}(h:Zx w b n G)(he:∀t,G t=G' t):Zx w b n G':=by
 have:G=G':=funext he;rw[<-this];exact h
structure zCo(w:JY)(b o B:Nat)(kv:Value)(pv:Option Nat)(ks:List JZ):Prop where
 c0:w.cell? (Qa b o)=some kv
 c1:w.cell? (Qa b (o+1))=some (.map pv)
 f0:w.frozen? (Qa b o)=false
 f1:w.frozen? (Qa b (o+1))=false
 row:Ze w B kv ks
 mp:(pv=none/\ks=[])\/∃bm,pv=some bm/\B<=bm/\Zx w bm ks.length (gSS ks)
 nk:kv.ownBlock≠some b
 np:pv≠some b
 nn:∀g,kv.ownBlock=some g->pv≠some g
theorem zCo.lt{o:Nat}(h:zCo w b o B kv pv ks):b<w.heap.size:=World.block_lt_of_cell? _ _ h.c0
theorem zCo.plt{o:Nat}(h:zCo w b o B kv pv ks):∀g,pv=some g->B<=g/\g<w.heap.size:=fun g e=>by
 rcases h.mp with⟨h1,_⟩|⟨bm,h1,h2,h3⟩
 ·rw[h1] at e;cases e
 ·rw[h1] at e;injection e with e;subst e;exact⟨h2,h3.lt⟩
theorem zCo.below{w w':JY}{b o B:Nat}{kv:Value}{pv:Option Nat}{ks:List JZ}(h:zCo w b o B kv pv ks)(hb:Qb w w'):zCo w' b o B kv pv ks:=
 ⟨Jc hb h.lt h.c0,(hb.cell (p:=(Qa b (o+1))) h.lt).trans h.c1,(hb.frozen (p:=Qa b o) h.lt).trans h.f0,(hb.frozen (p:=(Qa b (o+1))) h.lt).trans h.f1,h.row.below hb,h.mp.imp id (fun⟨bm,h1,h2,h3⟩=>⟨bm,h1,h2,h3.kept (zE hb none) Js⟩),h.nk,h.np,h.nn⟩
theorem zCo.new(w:JY)(t:TypeId)(B:Nat):zCo (w.alloc (.cells #[.slice none 0 0,.map none] t)) w.heap.size 0 B (.slice none 0 0) none []:=
 ⟨Jg,Jg,Jg,Jg,World.ownsRow_nil _ _ _ _,yS ⟨rfl,rfl⟩,Jb,Js,fun g e=>by simp[Value.ownBlock] at e⟩
end Go.Proofs.YtadiaghhackbjaaGreatDoor
