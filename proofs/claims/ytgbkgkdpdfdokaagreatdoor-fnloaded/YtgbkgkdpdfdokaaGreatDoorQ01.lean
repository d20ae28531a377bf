import Derived.Test.YtgbkgkdpdfdokaaGreatDoorQ00
namespace Go.Proofs.YtgbkgkdpdfdokaaGreatDoor
set_option linter.all false
set_option maxHeartbeats 16000000
set_option maxRecDepth 100000
open Go.RowKit
variable {f i k n:Nat} {s:ByteArray} {w:World}
def sub (s:JZ) (i n:Nat):ByteArray:=s.extract i (i+n)
theorem zBb (h:i+n<=s.size):(sub s i n).size=n:=by
 unfold sub
 rw [yw]
 omega
theorem zCl {j:Nat} (h:i+n<=s.size) (hj:j<n):bt (sub s i n) j=bt s (i+j):=by
 have h':i+n<=s.data.size:=h
 unfold bt sub
 rw [ByteArray.data_extract,Array.getElem?_extract,yO (by omega)]
theorem zBc {t:JZ} {c:UInt8} (h:t.size=1):t=⟨#[c]⟩↔bt t 0=c:=by
 obtain ⟨⟨l⟩⟩:=t
 match l,h with
 | [x],_=>simp [bt]
def opT (xs:List OpR) (t:JZ):Prop:=∃ j,j<xs.length/\(atO xs j).s=t
def zFf (xs:List OpR) (s:JZ) (i n k:Nat):Prop:=
 1<=n/\i+n<=s.size /\
 (
  (cls (bt s i)=2/\k=1/\(∀ j,j<n->cls (bt s (i+j))=2)/\(i+n<s.size->cls (bt s (i+n))≠2)) \/
  (cls (bt s i)=3/\k=2/\(∀ j,j<n->(cls (bt s (i+j))=2\/cls (bt s (i+j))=3))/\(i+n<s.size->¬ (cls (bt s (i+n))=2\/cls (bt s (i+n))=3))) \/
  (cls (bt s i)=4/\k=4/\n=1)\/(cls (bt s i)=5/\k=5/\n=1) \/
  (cls (bt s i)=6/\((k=3/\opT xs (sub s i n)/\∀ m,n<m->i+m<=s.size->¬ opT xs (sub s i m))\/(k=6/\n=1/\∀ m,1<=m->i+m<=s.size->¬ opT xs (sub s i m)))) \/
  (cls (bt s i)=0/\k=6/\n=1))
theorem zFf.one {xs:List OpR} {n' k':Nat} (h:zFf xs s i n k) (h':zFf xs s i n' k'):n=n'/\k=k':=by
 obtain ⟨h1,h2,h⟩:=h
 obtain ⟨K,H,h'⟩:=h'
 rcases h with ⟨c,rfl,a,b⟩ | ⟨c,rfl,a,b⟩ | ⟨c,rfl,rfl⟩ | ⟨c,rfl,rfl⟩ | ⟨c,h⟩ | ⟨c,rfl,rfl⟩
 ·rcases h' with ⟨c',rfl,a',b'⟩ | ⟨c',_⟩ | ⟨c',_⟩ | ⟨c',_⟩ | ⟨c',_⟩ | ⟨c',_⟩ <;> try omega
  refine ⟨?_,rfl⟩
  rcases Nat.lt_trichotomy n n' with e | e | e
  ·exact yP (a' n e) (b (by omega))
  ·exact e
  ·exact yP (a n' e) (b' (by omega))
 ·rcases h' with ⟨c',_⟩ | ⟨c',rfl,a',b'⟩ | ⟨c',_⟩ | ⟨c',_⟩ | ⟨c',_⟩ | ⟨c',_⟩ <;> try omega
  refine ⟨?_,rfl⟩
  rcases Nat.lt_trichotomy n n' with e | e | e
  ·exact yP (a' n e) (b (by omega))
  ·exact e
  ·exact yP (a n' e) (b' (by omega))
 ·rcases h' with ⟨c',_⟩ | ⟨c',_⟩ | ⟨c',rfl,rfl⟩ | ⟨c',_⟩ | ⟨c',_⟩ | ⟨c',_⟩ <;> omega
 ·rcases h' with ⟨c',_⟩ | ⟨c',_⟩ | ⟨c',_⟩ | ⟨c',rfl,rfl⟩ | ⟨c',_⟩ | ⟨c',_⟩ <;> omega
 ·rcases h' with ⟨c',_⟩ | ⟨c',_⟩ | ⟨c',_⟩ | ⟨c',_⟩ | ⟨c',h'⟩ | ⟨c',_⟩ <;> try omega
  rcases h with ⟨rfl,a,b⟩ | ⟨rfl,rfl,b⟩
  ·rcases h' with ⟨rfl,a',b'⟩ | ⟨rfl,rfl,b'⟩
   ·refine ⟨?_,rfl⟩
    rcases Nat.lt_trichotomy n n' with e | e | e
    ·exact yP a' (b n' e H)
    ·exact e
    ·exact yP a (b' n e h2)
   ·exact yP a (b' n h1 h2)
  ·rcases h' with ⟨rfl,a',b'⟩ | ⟨rfl,rfl,b'⟩
   ·exact yP a' (b n' K H)
   ·exact ⟨rfl,rfl⟩
 ·rcases h' with ⟨c',_⟩ | ⟨c',_⟩ | ⟨c',_⟩ | ⟨c',_⟩ | ⟨c',_⟩ | ⟨c',rfl,rfl⟩ <;> omega
def zDF (s:JZ) (i j:Nat):Prop:=∀ q,i<=q->q<j->cls (bt s q)=1
def zAQ (xs:List OpR) (s:JZ):Nat->List zX->Prop
 | _,[]=>False
 | i,t::out=>(out=[]/\i<=s.size/\zDF s i s.size/\t=⟨7,s.extract i s.size,⟨#[]⟩⟩) \/
   ∃ j n k:Nat,i<=j/\j<s.size/\zDF s i j/\cls (bt s j)≠1/\zFf xs s j n k/\t=⟨(k:Int),s.extract i j,s.extract j (j+n)⟩/\zAQ xs s (j+n) out
theorem zAQ.fin {xs:List OpR} (h1:i<=s.size) (h2:zDF s i s.size):zAQ xs s i [⟨7,s.extract i s.size,⟨#[]⟩⟩]:=yQ ⟨rfl,h1,h2,rfl⟩
theorem zAQ.tok {xs:List OpR} {j:Nat} {out:List zX} (a:i<=j) (b:j<s.size) (c:zDF s i j) (d:cls (bt s j)≠1) (e:zFf xs s j n k) (f:zAQ xs s (j+n) out) :
  zAQ xs s i (⟨(k:Int),s.extract i j,s.extract j (j+n)⟩::out):=yR ⟨j,n,k,a,b,c,d,e,rfl,f⟩
theorem zAQ.one {xs:List OpR} {s:JZ}:∀ (o o':List zX) (i:Nat),zAQ xs s i o->zAQ xs s i o'->o=o'
 | [],_,_,h,_=>h.elim
 | _::_,[],_,_,h=>h.elim
 | t::o,t'::o',i,h,h'=>by
  rcases h with ⟨rfl,hi,hb,rfl⟩ | ⟨j,n,k,a,b,c,d,e,rfl,f⟩
  ·rcases h' with ⟨rfl,_,_,rfl⟩ | ⟨j',n',k',a',b',c',d',e',rfl,f'⟩
   ·rfl
   ·exact yP (hb _ a' b') d'
  ·rcases h' with ⟨rfl,hi,hb,rfl⟩ | ⟨j',n',k',a',b',c',d',e',rfl,f'⟩
   ·exact yP (hb _ a b) d
   ·have hj:j=j':=by
     rcases Nat.lt_trichotomy j j' with x | x | x
     ·exact yP (c' j a x) d
     ·exact x
     ·exact yP (c j' a' x) d'
    subst hj
    obtain ⟨rfl,rfl⟩:=e.one e'
    rw [zAQ.one o o' (j+n) f f']
def opB (xs:List OpR) (t:JZ):Bool:=(List.range xs.length).any fun j=>(atO xs j).s.data==t.data
theorem zDi (xs:List OpR) (t:JZ):opB xs t=true↔opT xs t:=by
 have e:∀ a b:JZ,(a.data=b.data)↔a=b:=fun a b=>⟨fun h=>by cases a; cases b; simp_all,fun h=>by rw [h]⟩
 simp [opB,opT,List.any_eq_true,e]
def ZV (xs:List OpR) (t:JZ):Nat:=
 if zPS t=true then 1 else if zNO t=true then 2 else if t.data=#[40] then 4 else if t.data=#[41] then 5 else if opB xs t=true then 3 else 6
def zA5 (xs:List OpR):Prop:=∀ j,j<xs.length->1<=(atO xs j).s.size/\(atO xs j).s.size<=16/\∀ q,q<(atO xs j).s.size->cls (bt (atO xs j).s q)=6
theorem zEX {xs:List OpR} (h:zB1 xs xs.length):zA5 xs:=by
 intro j hj
 have hk:=h j hj
 unfold OpR.ok okB zD8 at hk
 simp only [Bool.and_eq_true,decide_eq_true_eq] at hk
 obtain ⟨⟨⟨⟨⟨h1,h2⟩,h3⟩,_⟩,_⟩,_⟩:=hk
 refine ⟨h2,h3,fun q hq=>?_⟩
 have hm:bt (atO xs j).s q∈(atO xs j).s.data.toList:=by
  have H:q<(atO xs j).s.data.size:=hq
  unfold bt
  rw [Array.getElem?_eq_getElem H]
  simp
 have:=List.all_eq_true.1 h1 _ hm
 rw [zIl] at this
 simpa using this
theorem zIp {xs:List OpR} (hv:zA5 xs) (_h1:1<=n) (h:i+n<=s.size) (ho:opT xs (sub s i n)):n<=16/\cls (bt s i)=6:=by
 obtain ⟨j,hj,e⟩:=ho
 obtain ⟨a,b,c⟩:=hv j hj
 have hs:=zBb h
 rw [<- e] at hs
 have:=c 0 (by omega)
 rw [e,zCl h (by omega)] at this
 exact ⟨by omega,this⟩
theorem zNW {xs:List OpR} (hv:zA5 xs) (h1:1<=n) (h:i+n<=s.size) (hc:cls (bt s i)=2) :
  (ZV xs (sub s i n)=1/\∀ j,j<n->cls (bt s (i+j))=2)\/(ZV xs (sub s i n)=6/\¬ ∀ j,j<n->cls (bt s (i+j))=2):=by
 have hs:=zBb h
 have h0:bt (sub s i n) 0=bt s i:=by rw [zCl h (by omega)]; rfl
 by_cases hn:zD9 (sub s i n)
 ·refine yQ ⟨by simp [ZV,Zj,hn],fun j hj=>?_⟩
  have:=hn.2 j (by omega)
  rwa [zCl h hj] at this
 ·refine yR ⟨?_,fun ha=>hn ⟨by omega,fun j hj=>by rw [zCl h (by omega)]; exact ha j (by omega)⟩⟩
  have n2:¬ zA2 (sub s i n):=fun hh=>by
   have:=hh.2 0 (by omega)
   rw [h0] at this
   omega
  have n3:¬ sub s i n=⟨#[40]⟩:=fun e=>by
   have e1:n=1:=by rw [e] at hs; exact hs.symm
   have:=(zBc (by omega)).1 e
   rw [h0] at this
   have:=(zEW _).2 this
   omega
  have n4:¬ sub s i n=⟨#[41]⟩:=fun e=>by
   have e1:n=1:=by rw [e] at hs; exact hs.symm
   have:=(zBc (by omega)).1 e
   rw [h0] at this
   have:=(zDg _).2 this
   omega
  have n5:¬ opT xs (sub s i n):=fun e=>by
   have:=(zIp hv h1 h e).2
   omega
  simp [ZV,Zj,Zq,zDi,zCH,hn,n2,n3,n4,n5]
theorem zJg {xs:List OpR} (h1:1<=n) (h:i+n<=s.size) (hc:cls (bt s i)=3) (ha:∀ j,j<n->(cls (bt s (i+j))=2\/cls (bt s (i+j))=3)) :
  ZV xs (sub s i n)=2:=by
 have hs:=zBb h
 have h0:bt (sub s i n) 0=bt s i:=by rw [zCl h (by omega)]; rfl
 have n1:¬ zD9 (sub s i n):=fun hh=>by
  have:=hh.2 0 (by omega)
  rw [h0] at this
  omega
 have n2:zA2 (sub s i n):=by
  refine ⟨by omega,fun j hj=>?_⟩
  rw [hs] at hj
  rw [zCl h hj]
  by_cases e:j=0
  ·subst e; exact yQ hc
  ·have:=ha j hj
   omega
 simp [ZV,Zj,Zq,n1,n2]
theorem zH2 {xs:List OpR} (h1:1<=n) (h:i+n<=s.size) (hc:cls (bt s i)=6) :
  (ZV xs (sub s i n)=3/\opT xs (sub s i n))\/(ZV xs (sub s i n)=6/\¬ opT xs (sub s i n)):=by
 have hs:=zBb h
 have h0:bt (sub s i n) 0=bt s i:=by rw [zCl h (by omega)]; rfl
 have n1:¬ zD9 (sub s i n):=fun hh=>by
  have:=hh.2 0 (by omega)
  rw [h0] at this
  omega
 have n2:¬ zA2 (sub s i n):=fun hh=>by
  have:=hh.2 0 (by omega)
  rw [h0] at this
  omega
 have n3:¬ sub s i n=⟨#[40]⟩:=fun e=>by
  have e1:n=1:=by rw [e] at hs; exact hs.symm
  have:=(zBc (by omega)).1 e
  rw [h0] at this
  have:=(zEW _).2 this
  omega
 have n4:¬ sub s i n=⟨#[41]⟩:=fun e=>by
  have e1:n=1:=by rw [e] at hs; exact hs.symm
  have:=(zBc (by omega)).1 e
  rw [h0] at this
  have:=(zDg _).2 this
  omega
 by_cases n5:opT xs (sub s i n)
 ·exact yQ ⟨by simp [ZV,Zj,Zq,zDi,zCH,n1,n2,n3,n4,n5],n5⟩
 ·exact yR ⟨by simp [ZV,Zj,Zq,zDi,zCH,n1,n2,n3,n4,n5],n5⟩
theorem zNX {xs:List OpR} (hv:zA5 xs) (h:i+1<=s.size) (hc:cls (bt s i)=4\/cls (bt s i)=5\/cls (bt s i)=0) :
  (cls (bt s i)=4/\ZV xs (sub s i 1)=4)\/(cls (bt s i)=5/\ZV xs (sub s i 1)=5)\/(cls (bt s i)=0/\ZV xs (sub s i 1)=6):=by
 have hs:=zBb h
 have h0:bt (sub s i 1) 0=bt s i:=by rw [zCl h (by omega)]; rfl
 have n1:¬ zD9 (sub s i 1):=fun hh=>by
  have:=hh.2 0 (by omega)
  rw [h0] at this
  omega
 have n2:¬ zA2 (sub s i 1):=fun hh=>by
  have:=hh.2 0 (by omega)
  rw [h0] at this
  omega
 have n5:¬ opT xs (sub s i 1):=fun e=>by
  have:=(zIp hv (by omega) h e).2
  omega
 have e4:sub s i 1=⟨#[40]⟩↔cls (bt s i)=4:=by rw [zBc hs,h0,zEW]
 have e5:sub s i 1=⟨#[41]⟩↔cls (bt s i)=5:=by rw [zBc hs,h0,zDg]
 rcases hc with c | c | c
 ·exact yQ ⟨c,by simp [ZV,Zj,Zq,zCH,n1,n2,e4,c]⟩
 ·exact yR (yQ ⟨c,by simp [ZV,Zj,Zq,zCH,n1,n2,e4,e5,c]⟩)
 ·exact yR (yR ⟨c,by simp [ZV,Zj,Zq,zDi,zCH,n1,n2,e4,e5,n5,c]⟩)
def zL2 (s:JZ) (i r:Nat):Prop:=
 1<=r/\i+r<=s.size /\
 (
  (cls (bt s i)=6/\r<=16/\(r=16\/i+r=s.size)) \/
  ((cls (bt s i)=2\/cls (bt s i)=3)/\(∀ j,j<r->(cls (bt s (i+j))=2\/cls (bt s (i+j))=3))/\(i+r<s.size->¬ (cls (bt s (i+r))=2\/cls (bt s (i+r))=3))) \/
  ((cls (bt s i)≠6/\cls (bt s i)≠2/\cls (bt s i)≠3)/\r=1))
def zL3 (xs:List OpR) (s:JZ) (i r:Nat):Prop:=
 1<=r/\(r=1\/ZV xs (sub s i r)≠6)/\∃ m,zL2 s i m/\r<=m/\∀ q,r<q->q<=m->ZV xs (sub s i q)=6
theorem zJh {xs:List OpR} {r:Nat} (hv:zA5 xs) (h:zL3 xs s i r) (hb:cls (bt s i)≠1):zFf xs s i r (ZV xs (sub s i r)):=by
 obtain ⟨h1,h2,m,⟨J,X,hm⟩,V,hq⟩:=h
 refine ⟨h1,by omega,?_⟩
 have U:=zQ0 (bt s i)
 rcases hm with ⟨c,hm,u⟩ | ⟨c,ha,hm⟩ | ⟨⟨c1,c2,c3⟩,rfl⟩
 ·refine yR (yR (yR (yR (yQ ⟨c,?_⟩))))
  have Y:∀ q,r<q->i+q<=s.size->¬ opT xs (sub s i q):=fun q hr Q ho=>by
   have:=(zIp hv (by omega) Q ho).1
   have P:q<=m:=by omega
   have:=hq q hr P
   rcases zH2 (xs:=xs) (by omega) Q c with ⟨x,_⟩ | ⟨_,x⟩
   ·omega
   ·exact x ho
  rcases zH2 (xs:=xs) h1 (by omega) c with ⟨x,y⟩ | ⟨x,y⟩
  ·exact yQ ⟨x,y,Y⟩
  ·have K:r=1:=by omega
   refine yR ⟨x,K,fun q v Q=>?_⟩
   by_cases e:q=r
   ·subst e; exact y
   ·exact Y q (by omega) Q
 ·rcases c with c | c
  ·refine yQ ?_
   have key:=fun q (a:1<=q) (b:i+q<=s.size)=>zNW (xs:=xs) hv a b c
   have k:ZV xs (sub s i r)=1/\∀ j,j<r->cls (bt s (i+j))=2:=by
    rcases key r h1 (by omega) with x | ⟨x,y⟩
    ·exact x
    ·exfalso
     have K:r=1:=by omega
     subst K
     exact y (fun j hj=>by
      have:j=0:=by omega
      subst this; exact c)
   refine ⟨c,k.1,k.2,fun p hd=>?_⟩
   have H:r+1<=m:=by
    rcases Nat.lt_or_ge r m with x | x
    ·exact x
    ·have:r=m:=by omega
     subst this
     exact yP (yQ hd) (hm p)
   have h6:=hq (r+1) (by omega) H
   rcases key (r+1) (by omega) (by omega) with ⟨x,_⟩ | ⟨_,y⟩
   ·omega
   ·refine y (fun j hj=>?_)
    by_cases e:j=r
    ·subst e; exact hd
    ·exact k.2 j (by omega)
  ·refine yR (yQ ?_)
   have H:r=m:=by
    rcases Nat.lt_or_ge r m with x | x
    ·have:=hq m x (yh _)
     rw [zJg (xs:=xs) J X c ha] at this
     omega
    ·omega
   subst H
   exact ⟨c,zJg J X c ha,ha,hm⟩
 ·have K:r=1:=by omega
  subst K
  rcases zNX (xs:=xs) hv X (by omega) with ⟨c,x⟩ | ⟨c,x⟩ | ⟨c,x⟩
  ·exact yR (yR (yQ ⟨c,x,rfl⟩))
  ·exact yR (yR (yR (yQ ⟨c,x,rfl⟩)))
  ·exact yR (yR (yR (yR (yR ⟨c,x,rfl⟩))))
structure zD where
 k:Int
 t:JZ
 a:Int
 b:Int
variable {xs:List zD}
def zD.zero:zD:=⟨0,⟨#[]⟩,0,0⟩
def atN (xs:List zD) (i:Nat):zD:=xs.getD i zD.zero
def zGW (w:JY) (b h:Nat) (xs:List zD) (i:Nat):Prop:=
 w.cell? ⟨b,h+i*4,none⟩=some (.int .i64 (atN xs i).k)/\w.cell? ⟨b,h+i*4+1,none⟩=some (.string (atN xs i).t)/\w.cell? ⟨b,h+i*4+2,none⟩=some (.int .i64 (atN xs i).a)/\w.cell? ⟨b,h+i*4+3,none⟩=some (.int .i64 (atN xs i).b)
def zBC (w:JY) (b h:Nat) (xs:List zD):Prop:=∀ i,i<xs.length->zGW w b h xs i
def zFB (xs:List zD):Prop:=∀ i,i<xs.length->(atN xs i).t.size<=maxLen
theorem zGW.below {w':JY} {b H:Nat} {B:Nat} (h:zGW w b H xs i) (hb:Below B w w') (hB:b<B):zGW w' b H xs i:=by
 obtain ⟨h0,h1,h2,h3⟩:=h
 exact ⟨(hb.cell (p:=⟨b,_,none⟩) hB).trans h0,(hb.cell (p:=⟨b,_,none⟩) hB).trans h1,(hb.cell (p:=⟨b,_,none⟩) hB).trans h2,(hb.cell (p:=⟨b,_,none⟩) hB).trans h3⟩
theorem zBC.below {w w':JY} {b H:Nat} {xs:List zD} {B:Nat} (h:zBC w b H xs) (hb:Below B w w') (hB:b<B):zBC w' b H xs:=
 fun i hi=>(h i hi).below hb hB
def ZL (w:JY) (g:Nat) (xs:List zD) (k:Nat):Prop:=
 g<w.heap.size/\w.there g 0 (xs.length*4)/\∀ i,i<k->zGW w g 0 xs i
theorem ZL.grown {w':JY} {g:Nat} {row:Option Nat} (h:ZL w g xs k) (hg:w.grownBy w' row) (H:some g≠row):ZL w' g xs k:=by
 obtain ⟨h1,h2,h3⟩:=h
 have hb:=hg.block g h1 H
 have e:∀ o,w'.cell? ⟨g,o,none⟩=w.cell? ⟨g,o,none⟩:=fun o=>yp (w:=w) hb
 have f:∀ o,w'.frozen? ⟨g,o,none⟩=w.frozen? ⟨g,o,none⟩:=fun o=>yA (w:=w) hb
 refine ⟨yi h1 hg.size,fun j hj=>⟨by rw [e]; exact (h2 j hj).1,by rw [f]; exact (h2 j hj).2⟩,fun i hi=>?_⟩
 obtain ⟨a0,a1,a2,a3⟩:=h3 i hi
 exact ⟨(e _).trans a0,(e _).trans a1,(e _).trans a2,(e _).trans a3⟩
theorem ZL.below {w w':JY} {g k:Nat} {xs:List zD} {B:Nat} (h:ZL w g xs k) (hb:Below B w w') (hB:g<B):ZL w' g xs k:=by
 obtain ⟨h1,h2,h3⟩:=h
 refine ⟨yi h1 hb.size,fun j hj=>?_,fun i hi=>(h3 i hi).below hb hB⟩
 have:=h2 j hj
 exact ⟨by rw [hb.cell (p:=⟨g,_,none⟩) hB]; exact this.1,by rw [hb.frozen (p:=⟨g,_,none⟩) hB]; exact this.2⟩
theorem ZL.setCell {w:JY} {g k:Nat} {xs:List zD} (h:ZL w g xs k) (b o:Nat) (v:Value) (hp:b≠g):ZL (w.setCell ⟨b,o,none⟩ v) g xs k:=
 h.grown (row:=some b) ⟨rfl,rfl,rfl,by simp [World.setCell],fun i _ hi=>yZ _ _ _ _ (fun e=>hi (by rw [e]))⟩ (fun e=>hp (Option.some.inj e).symm)
theorem ZL.ops {g:Nat} (h:ZL w g xs xs.length):zBC w g 0 xs:=fun i hi=>h.2.2 i hi
theorem zC7:(Tryz.prog.info? 144).map (fun i=>(i.zero,i.size,i.bytes))=some (some (.agg #[.int .i64 0,.string ⟨#[]⟩,.int .i64 0,.int .i64 0]),4,40):=by kernel_rfl
def ze (k:Int):Nat:=if k=4 then 2 else if k=3\/k=5\/k=6 then 1 else 0
theorem zEA (k:Int):ze k=0\/ze k=1\/ze k=2:=by
 unfold ze
 split
 ·exact yR (yR rfl)
 ·split
  ·exact yR (yQ rfl)
  ·exact yQ rfl
def zBn (o:zD):Prop:=o.t.size<=20000/\((o.k=1/\zD9 o.t)\/(o.k=2/\zA2 o.t)\/(o.k=6/\o.t.size=0)\/((o.k=3\/o.k=4\/o.k=5)/\zD8 o.t=true))
def frm (xs:List zD):Nat->Nat->Option Nat
 | 0,_=>none
 | n+1,i=>
  if ze (atN xs i).k=0 then (if (atN xs i).a=0/\(atN xs i).b=0 then some i else none)
  else if ze (atN xs i).k=1 then (if 1<=i/\(atN xs i).a=(i:Int)-1/\(atN xs i).b=0 then frm xs n (i-1) else none)
  else if 1<=i/\(atN xs i).b=(i:Int)-1 then
   (match frm xs n (i-1) with
   | none=>none
   | some f=>if 1<=f/\(atN xs i).a=(f:Int)-1 then frm xs n (f-1) else none)
  else none
theorem zGX (xs:List zD):∀ n i f,frm xs n i=some f->f<=i
 | 0,i,f,h=>by simp [frm] at h
 | n+1,i,f,h=>by
  unfold frm at h
  split at h
  ·split at h
   ·injection h with h; omega
   ·cases h
  ·split at h
   ·split at h
    ·have:=zGX xs n _ _ h; omega
    ·cases h
   ·split at h
    ·split at h
     ·cases h
     ·rename_i f' H
      have h1:=zGX xs n _ _ H
      split at h
      ·have:=zGX xs n _ _ h; omega
      ·cases h
    ·cases h
theorem zCY (xs:List zD):∀ n m i,i<n->i<m->frm xs n i=frm xs m i
 | 0,_,_,h,_=>yP h (yt _)
 | _+1,0,_,_,h=>yP h (yt _)
 | n+1,m+1,i,h,h'=>by
  unfold frm
  by_cases h1:1<=i
  ·have e:=zCY xs n m (i-1) (by omega) (by omega)
   rw [e]
   cases hf:frm xs m (i-1) with
   | none=>rfl
   | some f=>
    have H:=zGX xs _ _ _ hf
    have e':=zCY xs n m (f-1) (by omega) (by omega)
    simp only [e']
  ·simp [h1]
def frS (xs:List zD) (i:Nat):Option Nat:=frm xs (i+1) i
theorem zAV (h:frS xs i=some f):f<=i:=zGX xs _ _ _ h
theorem zEY (h:ze (atN xs i).k=0):frS xs i=if (atN xs i).a=0/\(atN xs i).b=0 then some i else none:=by
 unfold frS frm
 rw [yO h]
theorem zGC (h:ze (atN xs i).k=1):frS xs i=if 1<=i/\(atN xs i).a=(i:Int)-1/\(atN xs i).b=0 then frS xs (i-1) else none:=by
 have e:frS xs i=frm xs (i+1) i:=rfl
 rw [e]
 unfold frm
 rw [yN (by omega),yO h]
 by_cases h1:1<=i
 ·unfold frS
  rw [zCY xs i (i-1+1) (i-1) (by omega) (by omega)]
 ·simp [h1]
theorem zGD (h:ze (atN xs i).k=2) (h1:1<=i) (hb:(atN xs i).b=(i:Int)-1) (hf:frS xs (i-1)=some f) (H:1<=f) (ha:(atN xs i).a=(f:Int)-1):frS xs i=frS xs (f-1):=by
 have K:=zAV hf
 have e:frS xs i=frm xs (i+1) i:=rfl
 rw [e]
 unfold frm
 rw [yN (by omega),yN (by omega),yO ⟨h1,hb⟩]
 have e1:frm xs i (i-1)=some f:=by rw [<- hf]; exact zCY xs i (i-1+1) (i-1) (by omega) (by omega)
 rw [e1]
 simp only
 rw [yO ⟨H,ha⟩]
 exact zCY xs i (f-1+1) (f-1) (by omega) (by omega)
theorem zEZ (h:ze (atN xs i).k=2) (hn:¬ (1<=i/\(atN xs i).b=(i:Int)-1/\∃ f,frS xs (i-1)=some f/\1<=f/\(atN xs i).a=(f:Int)-1)):frS xs i=none:=by
 have e:frS xs i=frm xs (i+1) i:=rfl
 rw [e]
 unfold frm
 rw [yN (by omega),yN (by omega)]
 by_cases hc:1<=i/\(atN xs i).b=(i:Int)-1
 ·rw [yO hc]
  cases hf:frm xs i (i-1) with
  | none=>rfl
  | some f=>
   have:frS xs (i-1)=some f:=by rw [<- hf]; exact zCY xs (i-1+1) i (i-1) (by omega) (by omega)
   simp only
   rw [yN]
   intro H
   exact hn ⟨hc.1,hc.2,f,this,H.1,H.2⟩
 ·rw [yN hc]
theorem zB4 (h:frS xs i=some f) :
  (ze (atN xs i).k=0/\(atN xs i).a=0/\(atN xs i).b=0/\f=i) \/
  (ze (atN xs i).k=1/\1<=i/\(atN xs i).a=(i:Int)-1/\(atN xs i).b=0/\frS xs (i-1)=some f) \/
  (ze (atN xs i).k=2/\1<=i/\(atN xs i).b=(i:Int)-1/\∃ f2,frS xs (i-1)=some f2/\1<=f2/\(atN xs i).a=(f2:Int)-1/\frS xs (f2-1)=some f):=by
 rcases zEA (atN xs i).k with hk | hk | hk
 ·rw [zEY hk] at h
  split at h
  ·rename_i hc
   injection h with h
   exact yQ ⟨hk,hc.1,hc.2,h.symm⟩
  ·cases h
 ·rw [zGC hk] at h
  split at h
  ·rename_i hc
   exact yR (yQ ⟨hk,hc.1,hc.2.1,hc.2.2,h⟩)
  ·cases h
 ·by_cases hn:1<=i/\(atN xs i).b=(i:Int)-1/\∃ f,frS xs (i-1)=some f/\1<=f/\(atN xs i).a=(f:Int)-1
  ·obtain ⟨h1,hb,f2,H,h2,ha⟩:=hn
   rw [zGD hk h1 hb H h2 ha] at h
   exact yR (yR ⟨hk,h1,hb,f2,H,h2,ha,h⟩)
  ·rw [zEZ hk hn] at h
   cases h
def zH3 (o:zD) (k:Nat) (st:List Nat):Option (List Nat):=
 if ze o.k=0 then (if o.a=0/\o.b=0 then some (k::st) else none)
 else if ze o.k=1 then (match st with
  | t::r=>if o.a=(t:Int)/\o.b=0 then some (k::r) else none
  | []=>none)
 else (match st with
  | t2::t1::r=>if o.a=(t1:Int)/\o.b=(t2:Int) then some (k::r) else none
  | _=>none)
def stk (xs:List zD):Nat->Option (List Nat)
 | 0=>some []
 | k+1=>(match stk xs k with
  | none=>none
  | some st=>zH3 (atN xs k) k st)
theorem zEa {st:List Nat} (h:stk xs k=some st):stk xs (k+1)=zH3 (atN xs k) k st:=by
 simp only [stk,h]
theorem zJi {xs:List zD} {k:Nat} (h:stk xs k=none):∀ m,k<=m->stk xs m=none
 | 0,hm=>by
  obtain rfl:k=0:=by omega
  exact h
 | m+1,hm=>by
  by_cases e:k=m+1
  ·subst e; exact h
  ·simp only [stk,zJi h m (by omega)]
theorem zCm (xs:List zD):∀ n i f st,i<n->frS xs i=some f->stk xs f=some st->stk xs (i+1)=some (i::st)
 | 0,_,_,_,hi,_,_=>yP hi (yt _)
 | n+1,i,f,st,hi,h,hs=>by
  rcases zB4 h with ⟨hk,ha,hb,rfl⟩ | ⟨hk,h1,ha,hb,hf⟩ | ⟨hk,h1,hb,f2,H,h2,ha,hf⟩
  ·rw [zEa hs]
   simp [zH3,hk,ha,hb]
  ·have:=zCm xs n (i-1) f st (by omega) hf hs
   rw [Nat.sub_add_cancel h1] at this
   rw [zEa this]
   unfold zH3
   rw [yN (by omega),yO hk]
   simp only
   rw [yO ⟨by rw [ha]; omega,hb⟩]
  ·have k:=zAV H
   have s1:=zCm xs n (f2-1) f st (by omega) hf hs
   rw [Nat.sub_add_cancel h2] at s1
   have s2:=zCm xs n (i-1) f2 ((f2-1)::st) (by omega) H s1
   rw [Nat.sub_add_cancel h1] at s2
   rw [zEa s2]
   unfold zH3
   rw [yN (by omega),yN (by omega)]
   simp only
   rw [yO ⟨by rw [ha]; omega,by rw [hb]; omega⟩]
def zQq (xs:List zD):Nat->List Nat->Prop
 | k,[]=>k=0
 | k,s::r=>s+1=k/\∃ f,frS xs s=some f/\zQq xs f r
theorem zCn (xs:List zD):∀ k st,stk xs k=some st->zQq xs k st
 | 0,st,h=>by
  simp only [stk,Option.some.injEq] at h
  subst h
  rfl
 | k+1,st',h=>by
  cases hs:stk xs k with
  | none=>simp only [stk,hs] at h; cases h
  | some st=>
   have ih:=zCn xs k st hs
   rw [zEa hs] at h
   unfold zH3 at h
   split at h
   ·rename_i hk
    split at h
    ·rename_i hc
     injection h with h
     subst h
     exact ⟨rfl,k,by rw [zEY hk,yO hc],ih⟩
    ·cases h
   ·split at h
    ·rename_i hk
     split at h
     ·rename_i t r
      obtain ⟨e,f,hf,hr⟩:=ih
      split at h
      ·rename_i hc
       injection h with h
       subst h
       refine ⟨rfl,f,?_,hr⟩
       rw [zGC hk,yO ⟨by omega,by rw [hc.1]; omega,hc.2⟩]
       have:k-1=t:=by omega
       rw [this]; exact hf
      ·cases h
     ·cases h
    ·rename_i Q q
     have hk:ze (atN xs k).k=2:=by rcases zEA (atN xs k).k with h | h | h <;> omega
     split at h
     ·rename_i t2 t1 r
      obtain ⟨e,f2,K,e1,f1,H,hr⟩:=ih
      split at h
      ·rename_i hc
       injection h with h
       subst h
       refine ⟨rfl,f1,?_,hr⟩
       have e2:k-1=t2:=by omega
       rw [zGD hk (by omega) (by rw [hc.2]; omega) (f:=f2) (by rw [e2]; exact K) (by omega) (by rw [hc.1]; omega)]
       have:f2-1=t1:=by omega
       rw [this]; exact H
      ·cases h
     ·cases h
theorem zMk (h:1<=xs.length):frS xs (xs.length-1)=some 0↔∃ st,stk xs xs.length=some st/\st.length=1:=by
 constructor
 ·intro hf
  have:=zCm xs xs.length (xs.length-1) 0 [] (by omega) hf rfl
  rw [Nat.sub_add_cancel h] at this
  exact ⟨_,this,rfl⟩
 ·rintro ⟨st,hs,hl⟩
  have hc:=zCn xs _ _ hs
  match st,hl with
  | [x],_=>
   obtain ⟨e,f,hf,hr⟩:=hc
   have H:f=0:=hr
   subst H
   have:xs.length-1=x:=by omega
   rw [this]; exact hf
def zA6 (xs:List zD):Prop:=1<=xs.length/\xs.length<=20000/\frS xs (xs.length-1)=some 0/\∀ i,i<xs.length->zBn (atN xs i)
theorem zA6.stkS (h:zA6 xs) (hk:k<=xs.length):∃ st,stk xs k=some st:=by
 obtain ⟨st,hs,_⟩:=(zMk h.1).1 h.2.2.1
 cases e:stk xs k with
 | some st'=>exact ⟨st',rfl⟩
 | none=>rw [zJi e _ hk] at hs; cases hs
def zQ3 (xs:List zD) (k:Nat):Prop:=
 (ze (atN xs k).k=0/\(atN xs k).a=0/\(atN xs k).b=0) \/
 (ze (atN xs k).k=1/\1<=k/\(atN xs k).a=(k:Int)-1/\(atN xs k).b=0) \/
 (ze (atN xs k).k=2/\2<=k/\(atN xs k).b=(k:Int)-1/\0<=(atN xs k).a/\(atN xs k).a<(k:Int)-1)
theorem zA6.kidsAt (h:zA6 xs) (hk:k<xs.length):zQ3 xs k:=by
 obtain ⟨st,hs⟩:=h.stkS (k:=k+1) (by omega)
 have hc:=zCn xs _ _ hs
 match st,hc with
 | [],hc=>cases hc
 | s::r,hc=>
  obtain ⟨e,f,hf,_⟩:=hc
  obtain rfl:s=k:=by omega
  rcases zB4 hf with ⟨hk,ha,hb,rfl⟩ | ⟨hk,h1,ha,hb,hf⟩ | ⟨hk,h1,hb,f2,H,h2,ha,hf⟩
  ·exact yQ ⟨hk,ha,hb⟩
  ·exact yR (yQ ⟨hk,h1,ha,hb⟩)
  ·have:=zAV H
   exact yR (yR ⟨hk,by omega,hb,by omega,by omega⟩)
theorem zA6.first (h:zA6 xs):ze (atN xs 0).k=0:=by
 rcases h.kidsAt (k:=0) (by have:=h.1; omega) with h | h | h
 ·exact h.1
 ·omega
 ·omega
def cnt (xs:List zD):Nat->Nat
 | 0=>0
 | k+1=>if (atN xs k).k=6 then cnt xs k else cnt xs k+1
theorem zEB (xs:List zD):∀ k,cnt xs k<=k
 | 0=>yh _
 | k+1=>by
  have:=zEB xs k
  unfold cnt
  split <;> omega
theorem zJj (xs:List zD):∀ j k,j<=k->cnt xs j<=cnt xs k
 | j,0,h=>by
  obtain rfl:j=0:=by omega
  exact yh _
 | j,k+1,h=>by
  by_cases e:j=k+1
  ·subst e; exact yh _
  ·have:=zJj xs j k (by omega)
   have h2:cnt xs (k+1)=if (atN xs k).k=6 then cnt xs k else cnt xs k+1:=rfl
   rw [h2]
   split <;> omega
def mvd (xs:List zD) (a:Int):Int:=(cnt xs (a.toNat+1):Int)-1
def erN (xs:List zD) (o:zD):zD:=⟨o.k,o.t,if ze o.k=0 then 0 else mvd xs o.a,if ze o.k=2 then mvd xs o.b else 0⟩
def er (xs:List zD):Nat->List zD
 | 0=>[]
 | k+1=>if (atN xs k).k=6 then er xs k else er xs k++[erN xs (atN xs k)]
theorem zBj (xs:List zD):∀ k,(er xs k).length=cnt xs k
 | 0=>rfl
 | k+1=>by
  unfold er cnt
  split
  ·exact zBj xs k
  ·simp [zBj xs k]
theorem zJk (h:(atN xs k).k=6):er xs (k+1)=er xs k:=by
 show (if (atN xs k).k=6 then er xs k else er xs k++[erN xs (atN xs k)])=_
 rw [yO h]
theorem zDG (h:(atN xs k).k≠6):er xs (k+1)=er xs k++[erN xs (atN xs k)]:=by
 show (if (atN xs k).k=6 then er xs k else er xs k++[erN xs (atN xs k)])=_
 rw [yN h]
theorem zMl (h:zA6 xs):cnt xs 1=1:=by
 have:=h.first
 unfold cnt cnt
 rw [yN]
 intro e
 rw [e] at this
 simp [ze] at this
def zPV (xs us:List zD) (v:Bool):Prop:=(zA6 xs/\v=true/\us=er xs xs.length)\/(¬ zA6 xs/\v=false/\us=[])
theorem zBd (c:UInt8) (w:JY) :
  Calls Tryz.prog 28 #[.int .u8 (c.toNat:Int)] w fun e w'=>e = .returned (.bool (decide (cls c=2)))/\w'=w:=by
 go_enter Tryz.func28,Tryz.ntmps28
 go_wp2
 all_goals (go_ret; refine ⟨zj ?_,rfl⟩; go_light; rw [Bool.eq_iff_iff]; simp [zCj] <;> omega)
def zDx (v:Bool) (p:Prop):Prop:=v=true↔p
def zBs (e:Ending) (p:Prop):Prop:=∃ v:Bool,e = .returned (.bool v)/\zDx v p
theorem zAW (s:JZ) (w:JY) (hs:s.size<=maxLen) :
  Calls Tryz.prog 79 #[.string s] w fun e w'=>zBs e (zD9 s)/\w'=w:=by
 unfold maxLen at hs
 go_enter Tryz.func79,Tryz.ntmps79
 go_wp2
 go_loop [3] (fun i=>∃ k:Nat,k<=s.size/\i = .int .i64 k/\Hid (∀ j,j<k->cls (bt s j)=2)) (fun i=>s.size-(intOf i).toNat)
 case atStart=>exact ⟨0,yj _,rfl,zB (fun j h=>by omega)⟩
 case round=>
  obtain ⟨k,hk,rfl,hn⟩:=hrel
  by_cases H:k<s.size
  ·cases hb:decide (cls s[k]=2)
   ·have Hb:=zB hb
    go_wp2_with (go_at_call 28; refine (zBd _ _).mono ?_; rintro e w' ⟨rfl,rfl⟩)
    go_ret
    refine ⟨⟨_,rfl,⟨fun h=>(by cases h),fun h=>?_⟩⟩,rfl⟩
    have h2:=h.2 k H
    have:=zA Hb
    rw [ZP H] at this
    simp at this
    exact yP h2 this
   ·have Hb:=zB hb
    go_wp2_with (go_at_call 28; refine (zBd _ _).mono ?_; rintro e w' ⟨rfl,rfl⟩)
    refine ⟨⟨k+1,by omega,by go_num,zB (fun j hj=>?_)⟩,by simp [intOf]; omega⟩
    by_cases e:j=k
    ·subst e
     have:=zA Hb
     rw [ZP H] at this
     simpa using this
    ·exact (zA hn) j (by omega)
  ·by_cases h1:1<=s.size
   ·have K:(1:Int)<=(s.size:Int):=by omega
    go_wp2
    go_ret
    exact ⟨⟨_,rfl,⟨fun _=>⟨h1,fun j hj=>(zA hn) j (by omega)⟩,fun _=>by simp; omega⟩⟩,rfl⟩
   ·go_wp2
    go_ret
    exact ⟨⟨decide (0<s.size),rfl,⟨fun h=>yP (of_decide_eq_true h) (by omega),fun h=>yP h.1 h1⟩⟩,rfl⟩
theorem zCZ {a b:JZ} (h:a.toList=b.toList):a=b:=by
 rw [yC,yC] at h
 obtain ⟨⟨l⟩⟩:=a
 obtain ⟨⟨l'⟩⟩:=b
 simpa using h
theorem zBI (c:UInt8) (w:JY) :
  Calls Tryz.prog 27 #[.int .u8 (c.toNat:Int)] w fun e w'=>e = .returned (.bool (decide (cls c=3)))/\w'=w:=by
 go_enter Tryz.func27,Tryz.ntmps27
 go_wp2
 all_goals (go_ret; refine ⟨zj ?_,rfl⟩; go_light; rw [Bool.eq_iff_iff]; simp [zPR] <;> omega)
theorem zCo (s:JZ) (w:JY) (hs:s.size<=maxLen) :
  Calls Tryz.prog 12 #[.string s] w fun e w'=>zBs e (zA2 s)/\w'=w:=by
 unfold maxLen at hs
 go_enter Tryz.func12,Tryz.ntmps12
 go_wp2
 go_loop [3] (fun i=>∃ k:Nat,k<=s.size/\i = .int .i64 k/\Hid (∀ j,j<k->(cls (bt s j)=3\/(j≠0/\cls (bt s j)=2)))) (fun i=>s.size-(intOf i).toNat)
 case atStart=>exact ⟨0,yj _,rfl,zB (fun j h=>by omega)⟩
 case round=>
  obtain ⟨k,hk,rfl,hn⟩:=hrel
  by_cases H:k<s.size
  ·have y:=zB (ZP H)
   have no:(¬ cls (bt s k)=3)->(k=0\/¬ cls (bt s k)=2)->∀ v,v=false->zDx v (zA2 s):=fun h1 h2 v hv=>by
    subst hv
    refine ⟨fun h=>(by cases h),fun h=>?_⟩
    have:=h.2 k H
    omega
   have NO:=zB no
   clear no
   cases hb:decide (cls s[k]=3)
   ·have K:=zB (show ¬ cls (bt s k)=3 by rw [ZP H] at hb; simpa using hb)
    by_cases Q:k=0
    ·subst Q
     go_wp2_with (go_at_call 27; refine (zBI _ _).mono ?_; rintro e w' ⟨rfl,rfl⟩)
     go_ret
     exact ⟨⟨_,rfl,(zA NO) (zA K) (yQ trivial) _ rfl⟩,rfl⟩
    ·have x:((k:Int)==0)=false:=by simp; omega
     cases hd:decide (cls s[k]=2)
     ·have q:=zB (show ¬ cls (bt s k)=2 by rw [ZP H] at hd; simpa using hd)
      go_wp2_with (first | (go_at_call 27; refine (zBI _ _).mono ?_; rintro e w' ⟨rfl,rfl⟩) | (go_at_call 28; refine (zBd _ _).mono ?_; rintro e w' ⟨rfl,rfl⟩))
      go_ret
      exact ⟨⟨_,rfl,(zA NO) (zA K) (yR (zA q)) _ rfl⟩,rfl⟩
     ·have q:=zB (show cls (bt s k)=2 by rw [ZP H] at hd; simpa using hd)
      go_wp2_with (first | (go_at_call 27; refine (zBI _ _).mono ?_; rintro e w' ⟨rfl,rfl⟩) | (go_at_call 28; refine (zBd _ _).mono ?_; rintro e w' ⟨rfl,rfl⟩))
      refine ⟨⟨k+1,by omega,by go_num,zB (fun j hj=>?_)⟩,by simp [intOf]; omega⟩
      by_cases e:j=k
      ·subst e
       exact yR ⟨Q,zA q⟩
      ·exact (zA hn) j (by omega)
   ·have K:=zB (show cls (bt s k)=3 by rw [ZP H] at hb; simpa using hb)
    go_wp2_with (go_at_call 27; refine (zBI _ _).mono ?_; rintro e w' ⟨rfl,rfl⟩)
    refine ⟨⟨k+1,by omega,by go_num,zB (fun j hj=>?_)⟩,by simp [intOf]; omega⟩
    by_cases e:j=k
    ·subst e
     exact yQ (zA K)
    ·exact (zA hn) j (by omega)
  ·by_cases h1:1<=s.size
   ·have X:(1:Int)<=(s.size:Int):=by omega
    go_wp2
    go_ret
    exact ⟨⟨_,rfl,⟨fun _=>⟨h1,fun j hj=>(zA hn) j (by omega)⟩,fun _=>by simp; omega⟩⟩,rfl⟩
   ·go_wp2
    go_ret
    exact ⟨⟨decide (0<s.size),rfl,⟨fun h=>yP (of_decide_eq_true h) (by omega),fun h=>yP h.1 h1⟩⟩,rfl⟩
theorem zEC (c:UInt8) (w:JY) :
  Calls Tryz.prog 103 #[.int .u8 (c.toNat:Int)] w fun e w'=>e = .returned (.bool (sgB c))/\w'=w:=by
 go_enter Tryz.func103,Tryz.ntmps103
 go_wp2
 rw [run_callFunc_extern Tryz.func142 (by kernel_rfl) (by kernel_rfl) (by kernel_rfl) (e:=Extern.BytealgIndexByte.indexByte) (by kernel_rfl),Lib.run_indexByteString]
 simp only [Result.andThen]
 rw [Oper.upon_value]
 go_wp2
 go_ret
 refine ⟨?_,rfl⟩
 exact yS (fun b=>Ending.returned (.bool b)) (zQz c)
theorem Zc (c:UInt8) (w:JY) :
  Calls Tryz.prog 80 #[.int .u8 (c.toNat:Int)] w fun e w'=>e = .returned (.bool (sgB c))/\w'=w:=by
 go_enter Tryz.func80,Tryz.ntmps80
 go_wp2
 go_loop [4] (fun i=>∃ k:Nat,k<=18/\i = .int .i64 k/\∀ j,j<k->sgL.getD j 0≠c) (fun i=>18-(intOf i).toNat)
 case atStart=>exact ⟨0,by omega,rfl,fun j h=>by omega⟩
 case round=>
  obtain ⟨k,hk,rfl,hn⟩:=hrel
  by_cases H:k<18
  ·go_wp2
   ·go_ret
    exact ⟨zj (zNL c k H (by rw [<- zLz k H (by exact H)]; exact zRo _ _ ‹_›)).symm,rfl⟩
   ·refine ⟨⟨k+1,by omega,by go_num,?_⟩,by simp [intOf]; omega⟩
    intro j hj
    by_cases e:j=k
    ·subst e
     rw [<- zLz j H (by exact H)]
     exact zRp _ _ ‹_›
    ·exact hn j (by omega)
  ·go_wp2
   go_ret
   exact ⟨zj (zNK c (fun j hj=>hn j (by omega))).symm,rfl⟩
theorem zFg (c:UInt8) (w:JY) :
  Calls Tryz.prog 112 #[.int .u8 (c.toNat:Int)] w fun e w'=>e = .returned (.bool (decide (cls c=1)))/\w'=w:=by
 go_enter Tryz.func112,Tryz.ntmps112
 go_wp2
 all_goals (go_ret; refine ⟨zj ?_,rfl⟩; go_light; (try simp only [beq_iff_eq,yU,ne_eq] at *); rw [Bool.eq_iff_iff]; simp [zMh] <;> omega)
theorem zAy (b H cap:Nat) (xs:List OpR) (t:JZ) (kd:Int) (w:JY) (hm:xs.length<=1048576) (hw:Ops w b H xs) (hB:b<w.heap.size) :
  Calls Tryz.prog 106 #[.agg #[.slice (some ⟨b,H,none⟩) xs.length cap],.string t,.int .i64 kd] w fun e w'=>(∃ r:Int,e = .returned (.int .i64 r)/\(0<=r↔∃ j,j<xs.length/\(atO xs j).s=t/\(atO xs j).k=kd))/\Below w.heap.size w w':=by
 go_enter Tryz.func106,Tryz.ntmps106
 go_wp2
 have K:Ops (w.alloc (.cells #[.slice (some ⟨b,H,none⟩) xs.length cap] 33)) b H xs:=hw.below (zC _ _) hB
 have HO:=zB K
 clear K hw
 go_loop [7] (fun i=>∃ k:Nat,k<=xs.length/\i = .int .i64 k/\Hid (∀ j,j<k->¬ ((atO xs j).s=t/\(atO xs j).k=kd))) (fun i=>xs.length-(intOf i).toNat)
 case atStart=>exact ⟨0,yj _,rfl,zB (fun j h=>by omega)⟩
 case round=>
  obtain ⟨k,hk,rfl,hn⟩:=hrel
  by_cases Q:k<xs.length
  ·obtain ⟨a0,a1,a2,a3⟩:=(zA HO) k Q
   have q:=zB (show ∀ (_:¬ ((atO xs k).s=t/\(atO xs k).k=kd)),∀ j,j<k+1->¬ ((atO xs j).s=t/\(atO xs j).k=kd) from fun X j hj=>by
    by_cases e:j=k
    ·subst e; exact X
    ·exact (zA hn) j (by omega))
   go_wp2
   ·rename_i x y _
    go_ret
    exact ⟨⟨(k:Int),rfl,⟨fun _=>⟨k,Q,zCZ x,by simpa using y⟩,fun _=>by omega⟩⟩,zC _ _⟩
   ·refine ⟨⟨k+1,by omega,by go_num,zB ((zA q) ?_)⟩,by simp [intOf]; omega⟩
    rintro ⟨_,h⟩
    simp_all
   ·refine ⟨⟨k+1,by omega,by go_num,zB ((zA q) ?_)⟩,by simp [intOf]; omega⟩
    rintro ⟨h,_⟩
    simp_all
  ·go_wp2
   go_ret
   refine ⟨⟨-1,rfl,⟨fun h=>yP h (by decide),fun ⟨j,hj,h⟩=>yP h ((zA hn) j (by omega))⟩⟩,zC _ _⟩
theorem zEb (s:JZ) (k:Nat) (h:k<s.size) (hb:sgB s[k]=false):zD8 s=false:=by
 simp [zD8,zMg s k h hb]
theorem zNY (s:JZ) (k:Nat) (hk:¬ k<s.size) (h:zGQ (s.data.toList.take k)=true):zD8 s=(decide (1<=s.size)&&decide (s.size<=16)):=by
 rw [zNN s k hk] at h
 simp [zD8,h]
theorem zJl (s:JZ) (k:Nat) (h:k<s.size) (hs:zGQ (s.data.toList.take k)=true) (hb:sgB s[k]=true):zGQ (s.data.toList.take (k+1))=true:=by
 rw [zMf s k h,zNM,hs,hb]; rfl
theorem zDH (s:JZ) (w:JY) (hs:s.size<=maxLen) :
  Calls Tryz.prog 58 #[.string s] w fun e w'=>e = .returned (.bool (zD8 s))/\w'=w:=by
 unfold maxLen at hs
 go_enter Tryz.func58,Tryz.ntmps58
 go_wp2
 go_loop [3] (fun i=>∃ k:Nat,k<=s.size/\i = .int .i64 k/\Hid (zGQ (s.data.toList.take k)=true)) (fun i=>s.size-(intOf i).toNat)
 case atStart=>exact ⟨0,yj _,rfl,zB rfl⟩
 case round=>
  obtain ⟨k,hk,rfl,hn⟩:=hrel
  by_cases h:k<s.size
  ·cases hb:sgB s[k]
   ·have Hb:=zB hb
    go_wp2_with (go_at_call 80; refine (Zc _ _).mono ?_; rintro e w' ⟨rfl,rfl⟩)
    go_ret
    exact ⟨zj (zEb s k h (zA Hb)).symm,rfl⟩
   ·have Hb:=zB hb
    go_wp2_with (go_at_call 80; refine (Zc _ _).mono ?_; rintro e w' ⟨rfl,rfl⟩)
    exact ⟨⟨k+1,by omega,by go_num,zB (zJl s k h (zA hn) (zA Hb))⟩,by simp [intOf]; omega⟩
  ·have ht:=zB (zNY s k h (zA hn))
   by_cases h1:1<=s.size
   ·have H:(1:Int)<=(s.size:Int):=by omega
    go_wp2
    go_ret
    exact ⟨zj (by rw [zA ht]; simp [h1]; omega),rfl⟩
   ·go_wp2
    go_ret
    exact ⟨zj (by rw [zA ht]; simp [h1]),rfl⟩
theorem zBt (s:JZ) (w:JY) (hs:s.size<=maxLen) :
  Calls Tryz.prog 87 #[.string s] w fun e w'=>e = .returned (.bool (zD8 s))/\w'=w:=by
 unfold maxLen at hs
 by_cases h1:s.size<1
 ·go_enter Tryz.func87,Tryz.ntmps87
  go_wp2
  go_ret
  exact ⟨zj (by simp [zD8]; omega),rfl⟩
 by_cases h2:16<s.size
 ·go_enter Tryz.func87,Tryz.ntmps87
  go_wp2
  go_ret
  exact ⟨zj (by simp [zD8]; omega),rfl⟩
 go_enter Tryz.func87,Tryz.ntmps87
 go_wp2
 go_loop [14] (fun i=>∃ k:Nat,k<=s.size/\i = .int .i64 k/\Hid (zGQ (s.data.toList.take k)=true)) (fun i=>s.size-(intOf i).toNat)
 case atStart=>exact ⟨0,yj _,rfl,zB rfl⟩
 case round=>
  obtain ⟨k,hk,rfl,hn⟩:=hrel
  by_cases h:k<s.size
  ·cases hb:sgB s[k]
   ·have Hb:=zB hb
    go_wp2_with (go_at_call 103; refine (zEC _ _).mono ?_; rintro e w' ⟨rfl,rfl⟩)
    go_ret
    exact ⟨zj (zEb s k h (zA Hb)).symm,rfl⟩
   ·have Hb:=zB hb
    go_wp2_with (go_at_call 103; refine (zEC _ _).mono ?_; rintro e w' ⟨rfl,rfl⟩)
    exact ⟨⟨k+1,by omega,by go_num,zB (zJl s k h (zA hn) (zA Hb))⟩,by simp [intOf]; omega⟩
  ·have ht:=zB (zNY s k h (zA hn))
   go_wp2
   go_ret
   exact ⟨zj (by rw [zA ht]; simp; omega),rfl⟩
theorem zK6 (k:Int) (w:JY) :
  Calls Tryz.prog 94 #[.int .i64 k] w fun e w'=>e = .returned (.int .i64 (ze k:Int))/\w'=w:=by
 by_cases h4:k=4
 ·subst h4
  go_enter Tryz.func94,Tryz.ntmps94
  go_wp2
  go_ret
  exact ⟨zJ (by simp [ze]),rfl⟩
 by_cases h3:k=3
 ·subst h3
  go_enter Tryz.func94,Tryz.ntmps94
  go_wp2
  go_ret
  exact ⟨zJ (by simp [ze]),rfl⟩
 by_cases h5:k=5
 ·subst h5
  go_enter Tryz.func94,Tryz.ntmps94
  go_wp2
  go_ret
  exact ⟨zJ (by simp [ze]),rfl⟩
 by_cases h6:k=6
 ·subst h6
  go_enter Tryz.func94,Tryz.ntmps94
  go_wp2
  go_ret
  exact ⟨zJ (by simp [ze]),rfl⟩
 have e4:(k==4)=false:=by simpa using h4
 have e3:(k==3)=false:=by simpa using h3
 have e5:(k==5)=false:=by simpa using h5
 have e6:(k==6)=false:=by simpa using h6
 have HK:=zB (show ze k=0 by simp [ze,h4,h3,h5,h6])
 clear h4 h3 h5 h6
 go_enter Tryz.func94,Tryz.ntmps94
 go_wp2
 go_ret
 exact ⟨zJ (by rw [zA HK]; rfl),rfl⟩
theorem zP {k:Int} (h:ze k=n) (z:Int) (hz:(n:Int)=z) (w:JY) :
  Calls Tryz.prog 94 #[.int .i64 k] w fun e w'=>e = .returned (.int .i64 z)/\w'=w:=by
 subst hz
 subst h
 exact zK6 k w
def frI (xs:List zD) (i:Nat):Int:=match frS xs i with
 | some f=>(f:Int)
 | none=>-1
theorem zGY (h:frS xs i=some f):frI xs i=(f:Int):=by unfold frI; rw [h]
theorem zAX (h:frS xs i=none):frI xs i = -1:=by unfold frI; rw [h]
theorem zGZ (a:Option Addr) (n cap:Nat) (w:JY) :
  Calls Tryz.prog 127 #[.slice a n cap,.int .i64 (-1)] w fun e w'=>e = .returned (.int .i64 (-1))/\w'=w:=by
 go_enter Tryz.func127,Tryz.ntmps127
 go_wp2
 go_ret
 exact ⟨rfl,rfl⟩
theorem zED (b Q cap:Nat) (xs:List zD) (hm:xs.length<=1048576):∀ (n i:Nat) (w:JY),i<n->i<xs.length->zBC w b Q xs->b<w.heap.size ->
  Calls Tryz.prog 127 #[.slice (some ⟨b,Q,none⟩) xs.length cap,.int .i64 (i:Int)] w fun e w'=>e = .returned (.int .i64 (frI xs i))/\Below w.heap.size w w'
 | 0,_,_,h,_,_,_=>yP h (yt _)
 | n+1,i,w,hin,hi,hw,hB=>by
  obtain ⟨h0,h1,h2,h3⟩:=hw i hi
  have IH:=zB (zED b Q cap xs hm n)
  have HW:=zB hw
  have v:(i:Int)<(xs.length:Int):=by omega
  have j:¬ (i:Int)<0:=by omega
  clear hw
  rcases zEA (atN xs i).k with hk | hk | hk
  ·have HK:=zB hk
   have HF:=zB (zEY hk)
   clear hk
   by_cases ha:(atN xs i).a=0
   ·rw [ha] at h2
    by_cases hb:(atN xs i).b=0
    ·rw [hb] at h3
     have HR:=zB (show frI xs i=(i:Int) from zGY (by rw [zA HF,yO ⟨ha,hb⟩]))
     clear ha hb
     go_enter Tryz.func127,Tryz.ntmps127
     go_wp2_with (go_at_call 94; refine (zP (zA HK) 0 rfl _).mono ?_; rintro e w' ⟨rfl,rfl⟩)
     go_ret
     exact ⟨zJ (zA HR).symm,zC _ _⟩
    ·have x:((atN xs i).b==0)=false:=by simpa using hb
     have q:((atN xs i).b != 0)=true:=by simpa using hb
     have HR:=zB (show frI xs i = -1 from zAX (by rw [zA HF,yN (fun h=>hb h.2)]))
     clear ha hb
     go_enter Tryz.func127,Tryz.ntmps127
     go_wp2_with (go_at_call 94; refine (zP (zA HK) 0 rfl _).mono ?_; rintro e w' ⟨rfl,rfl⟩)
     go_ret
     exact ⟨zJ (zA HR).symm,zC _ _⟩
   ·have X:((atN xs i).a==0)=false:=by simpa using ha
    have K:((atN xs i).a != 0)=true:=by simpa using ha
    have HR:=zB (show frI xs i = -1 from zAX (by rw [zA HF,yN (fun h=>ha h.1)]))
    clear ha
    go_enter Tryz.func127,Tryz.ntmps127
    go_wp2_with (go_at_call 94; refine (zP (zA HK) 0 rfl _).mono ?_; rintro e w' ⟨rfl,rfl⟩)
    go_ret
    exact ⟨zJ (zA HR).symm,zC _ _⟩
  ·have HK:=zB hk
   have HF:=zB (zGC hk)
   clear hk
   by_cases ha:(atN xs i).a=(i:Int)-1
   ·rw [ha] at h2
    by_cases hb:(atN xs i).b=0
    ·rw [hb] at h3
     by_cases H:1<=i
     ·have HR:=zB (show frI xs i=frI xs (i-1) by unfold frI; rw [zA HF,yO ⟨H,ha,hb⟩])
      have ei:(i:Int)-1=((i-1:Nat):Int):=by omega
      clear ha hb
      go_enter Tryz.func127,Tryz.ntmps127
      go_wp2_with (first | (go_at_call 94; refine (zP (zA HK) 1 rfl _).mono ?_; rintro e w' ⟨rfl,rfl⟩) | (go_at_call 127; refine ((zA IH) (i-1) _ (by omega) (by omega) ((zA HW).below (zC _ _) hB) (by simp; omega)).mono ?_; rintro e w' ⟨rfl,hb1⟩))
      go_ret
      exact ⟨zJ (zA HR).symm,(zC _ _).trans (hb1.mono (by simp))⟩
     ·have HR:=zB (show frI xs i = -1 from zAX (by rw [zA HF,yN (fun h=>H h.1)]))
      have ei:(i:Int)-1 = -1:=by omega
      clear ha hb H
      go_enter Tryz.func127,Tryz.ntmps127
      go_wp2_with (first | (go_at_call 94; refine (zP (zA HK) 1 rfl _).mono ?_; rintro e w' ⟨rfl,rfl⟩) | (go_at_call 127; refine (zGZ _ _ _ _).mono ?_; rintro e w' ⟨rfl,rfl⟩))
      go_ret
      exact ⟨zJ (zA HR).symm,zC _ _⟩
    ·have x:((atN xs i).b==0)=false:=by simpa using hb
     have q:((atN xs i).b != 0)=true:=by simpa using hb
     have HR:=zB (show frI xs i = -1 from zAX (by rw [zA HF,yN (fun h=>hb h.2.2)]))
     clear ha hb
     go_enter Tryz.func127,Tryz.ntmps127
     go_wp2_with (go_at_call 94; refine (zP (zA HK) 1 rfl _).mono ?_; rintro e w' ⟨rfl,rfl⟩)
     go_ret
     exact ⟨zJ (zA HR).symm,zC _ _⟩
   ·have X:((atN xs i).a==(i:Int)-1)=false:=by simpa using ha
    have K:((atN xs i).a != (i:Int)-1)=true:=by simpa using ha
    have HR:=zB (show frI xs i = -1 from zAX (by rw [zA HF,yN (fun h=>ha h.2.1)]))
    clear ha
    go_enter Tryz.func127,Tryz.ntmps127
    go_wp2_with (go_at_call 94; refine (zP (zA HK) 1 rfl _).mono ?_; rintro e w' ⟨rfl,rfl⟩)
    go_ret
    exact ⟨zJ (zA HR).symm,zC _ _⟩
  ·have HK:=zB hk
   have HN:=zB (zEZ (xs:=xs) (i:=i) hk)
   have HP:=zB (fun (p1:1<=i) p2 f p3 p4 p5=>zGD (xs:=xs) (i:=i) (f:=f) hk p1 p2 p3 p4 p5)
   clear hk
   by_cases hb:(atN xs i).b=(i:Int)-1
   case neg=>
    have x:((atN xs i).b==(i:Int)-1)=false:=by simpa using hb
    have q:((atN xs i).b != (i:Int)-1)=true:=by simpa using hb
    have HR:=zB (show frI xs i = -1 from zAX ((zA HN) (fun h=>hb h.2.1)))
    clear hb
    go_enter Tryz.func127,Tryz.ntmps127
    go_wp2_with (go_at_call 94; refine (zP (zA HK) 2 rfl _).mono ?_; rintro e w' ⟨rfl,rfl⟩)
    go_ret
    exact ⟨zJ (zA HR).symm,zC _ _⟩
   rw [hb] at h3
   by_cases H:1<=i
   case neg=>
    have HR:=zB (show frI xs i = -1 from zAX ((zA HN) (fun h=>H h.1)))
    have ei:(i:Int)-1 = -1:=by omega
    clear hb H
    go_enter Tryz.func127,Tryz.ntmps127
    go_wp2_with (first | (go_at_call 94; refine (zP (zA HK) 2 rfl _).mono ?_; rintro e w' ⟨rfl,rfl⟩) | (go_at_call 127; refine (zGZ _ _ _ _).mono ?_; rintro e w' ⟨rfl,rfl⟩))
    go_ret
    exact ⟨zJ (zA HR).symm,zC _ _⟩
   have ei:(i:Int)-1=((i-1:Nat):Int):=by omega
   cases hf:frS xs (i-1) with
   | none=>
    have HR:=zB (show frI xs i = -1 from zAX ((zA HN) (fun ⟨_,_,f,h,_⟩=>by rw [hf] at h; cases h)))
    have HI:=zB (zAX hf)
    clear hb hf
    go_enter Tryz.func127,Tryz.ntmps127
    go_wp2_with (first | (go_at_call 94; refine (zP (zA HK) 2 rfl _).mono ?_; rintro e w' ⟨rfl,rfl⟩) | (go_at_call 127; refine ((zA IH) (i-1) _ (by omega) (by omega) ((zA HW).below (zC _ _) hB) (by simp; omega)).mono ?_; rw [zA HI]; rintro e w' ⟨rfl,hb1⟩))
    go_ret
    exact ⟨zJ (zA HR).symm,(zC _ _).trans (hb1.mono (by simp))⟩
   | some f=>
    have J:=zAV hf
    have HI:=zB (zGY hf)
    by_cases y:1<=f
    case neg=>
     have HR:=zB (show frI xs i = -1 from zAX ((zA HN) (fun ⟨_,_,f',h,h',_⟩=>by rw [hf] at h; injection h with h; omega)))
     have Y:(f:Int)<1:=by omega
     clear hb hf
     go_enter Tryz.func127,Tryz.ntmps127
     go_wp2_with (first | (go_at_call 94; refine (zP (zA HK) 2 rfl _).mono ?_; rintro e w' ⟨rfl,rfl⟩) | (go_at_call 127; refine ((zA IH) (i-1) _ (by omega) (by omega) ((zA HW).below (zC _ _) hB) (by simp; omega)).mono ?_; rw [zA HI]; rintro e w' ⟨rfl,hb1⟩))
     go_ret
     exact ⟨zJ (zA HR).symm,(zC _ _).trans (hb1.mono (by simp))⟩
    have Y:¬ (f:Int)<1:=by omega
    have P:(f:Int)<=1048576:=by omega
    by_cases ha:(atN xs i).a=(f:Int)-1
    case neg=>
     have X:((atN xs i).a==(f:Int)-1)=false:=by simpa using ha
     have K:((atN xs i).a != (f:Int)-1)=true:=by simpa using ha
     have HR:=zB (show frI xs i = -1 from zAX ((zA HN) (fun ⟨_,_,f',h,_,h'⟩=>by rw [hf] at h; injection h with h; subst h; exact ha h')))
     clear hb hf ha
     go_enter Tryz.func127,Tryz.ntmps127
     go_wp2_with (first | (go_at_call 94; refine (zP (zA HK) 2 rfl _).mono ?_; rintro e w' ⟨rfl,rfl⟩) | (go_at_call 127; refine ((zA IH) (i-1) _ (by omega) (by omega) ((zA HW).below (zC _ _) hB) (by simp; omega)).mono ?_; rw [zA HI]; rintro e w' ⟨rfl,hb1⟩; have c1:w'.cell? ⟨w.heap.size,2,none⟩=some (.int .i64 (atN xs i).a):=(hb1.cell (p:=⟨w.heap.size,2,none⟩) (by simp)).trans (by simp [go_sem])))
     go_ret
     exact ⟨zJ (zA HR).symm,(zC _ _).trans (hb1.mono (by simp))⟩
    rw [ha] at h2
    have HR:=zB (show frI xs i=frI xs (f-1) by unfold frI; rw [(zA HP) H hb f hf y ha])
    have ef:(f:Int)-1=((f-1:Nat):Int):=by omega
    clear hb hf ha
    go_enter Tryz.func127,Tryz.ntmps127
    go_wp2_with (go_at_call 94; refine (zP (zA HK) 2 rfl _).mono ?_; rintro e w' ⟨rfl,rfl⟩)
    refine ((zA IH) (i-1) _ (by omega) (by omega) ((zA HW).below (zC _ _) hB) (by simp; omega)).mono ?_
    rw [zA HI]
    rintro e w1 ⟨rfl,hb1⟩
    have c1:w1.cell? ⟨w.heap.size,2,none⟩=some (.int .i64 ((f:Int)-1)):=(hb1.cell (p:=⟨w.heap.size,2,none⟩) (by simp)).trans (by simp [go_sem,ef])
    go_wp2_with fail
    refine ((zA IH) (f-1) _ (by omega) (by omega) ((zA HW).below ((zC _ _).trans (hb1.mono (by simp))) hB) (by have:=hb1.size; simp at this; omega)).mono ?_
    rintro e w2 ⟨rfl,hb2⟩
    go_wp2_with fail
    go_ret
    exact ⟨zJ (zA HR).symm,((zC _ _).trans (hb1.mono (by simp))).trans (hb2.mono (by have:=hb1.size; simp at this; omega))⟩
end Go.Proofs.YtgbkgkdpdfdokaaGreatDoor
