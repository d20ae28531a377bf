import Derived.Test.YtadiaghhackbjaaGreatDoorU10
import Derived.Test.YtadiaghhackbjaaGreatDoorU11
import Derived.Test.YtadiaghhackbjaaGreatDoorU18
import Derived.Test.YtadiaghhackbjaaGreatDoorU25
namespace Go.Proofs.YtadiaghhackbjaaGreatDoor
set_option linter.all false
set_option maxHeartbeats 0
set_option maxRecDepth 100000
open Proofs.Tryz RowKit
open Go.Deep (BT)
variable{C R b bs i j k n:Nat}{G G':ByteArray -> Option Value}{T:Nat -> List OpR}{U:List UnR}{acc ns:List OpR}{ks rs:List ByteArray}{kv:Value}{ms:List zH}{nm:ByteArray -> Nat}{o:OpR}{pv:Option Nat}{rk:Nat -> Nat}{s:ByteArray}{w w' wr:World}{xs:List zD}
def trF(xs:List zD):Nat->Nat->ET
 |0,_=>.nil
 |n+1,i=>if zY (atN xs i).k=0 then .node (atN xs i).k.toNat 0 (atN xs i).t .nil .nil
  else if zY (atN xs i).k=1 then .node (atN xs i).k.toNat 0 (atN xs i).t (trF xs n (i-1)) .nil
  else .node (atN xs i).k.toNat 0 (atN xs i).t (trF xs n (atN xs i).a.toNat) (trF xs n (i-1))
theorem zTV:∀(T:ET)(s:Nat),Sh T->zGX xs T s->∀n,tsz T<=n->trF xs n (s+tsz T-1)=T:=by
 intro T;induction T with
 |nil=>intro s h;exact h.elim
 |node b o t l r ihl ihr=>
  rintro s ⟨rfl,hsh⟩ ⟨h1,h2,h3⟩ n hn;simp only[tsz] at hn;obtain⟨n,rfl⟩:∃m,n=m+1:=⟨n-1,Jo⟩;have e:s+tsz (.node b 0 t l r)-1=s+tsz l+tsz r:=by simp only[tsz];omega
  rw[e];have hK:(atN xs (s+tsz l+tsz r)).k=(b:Int):=by rw[h3];rfl
  have hT:(atN xs (s+tsz l+tsz r)).t=t:=by rw[h3];rfl
  have hb:((b:Int)).toNat=b:=Jo;rcases hsh with⟨hk,rfl,rfl⟩|⟨hk,hl,rfl⟩|⟨hk,hl,hr⟩
  ·simp only[trF,hK,hT,hk,if_true,hb]
  ·have hp:=hl.pos;have e2:s+tsz l+tsz (BT.nil:ET)-1=s+tsz l-1:=by simp[tsz]
   simp only[trF,hK,hT,hk,hb,e2,ihl s hl h1 n Jo];simp
  ·have hp:=hl.pos;have hq:=hr.pos;have ha:(atN xs (s+tsz l+tsz r)).a.toNat=s+tsz l-1:=by
    rw[h3];simp[tN,hk];omega
   simp only[trF,hK,hT,hk,hb,ha,ihl s hl h1 n Jo,ihr (s+tsz l) hr h2 n Jo];simp
def zGd(xs:List zD):ET:=trF xs xs.length (xs.length-1)
theorem zRN{T:ET}(h:Sh T):zGd (nd T 0)=T:=by
 have:=zTV T 0 h (zFw T) (tsz T) (yk _);unfold zGd;rw[ZX];simpa using this
def TxB:ET->Prop
 |.nil=>True
 |.node _ _ t l r=>t.size<=20000/\TxB l/\TxB r
theorem zTW(h:∀i,i<xs.length->zA6 (atN xs i)):∀(T:ET)(s:Nat),zGX xs T s->s+tsz T<=xs.length->TxB T:=by
 intro T;induction T with
 |nil=>intro s _ _;trivial
 |node b o t l r ihl ihr=>
  rintro s ⟨h1,h2,h3⟩ hz;simp only[tsz] at hz;have ht:=h (s+tsz l+tsz r) Jo;rw[h3] at ht;exact⟨ht.1,ihl s h1 Jo,ihr _ h2 Jo⟩
theorem zVO(ns:List OpR):∀(T:ET)(l:Int),TxB T->TxB (grT ns T l):=by
 intro T;induction T with
 |nil=>intro l _;trivial
 |node b o t l r ihl ihr=>
  rintro h ⟨h1,h2,h3⟩;simp only[grT];split
  ·exact ihl _ h2
  ·unfold clT;split
   ·exact⟨Jd,⟨h1,ihl _ h2,ihr _ h3⟩,trivial⟩
   ·exact⟨h1,ihl _ h2,ihr _ h3⟩
theorem zHt:∀(T:ET),TxB T->∀s∈ySy T,s.2.size<=20000:=by
 intro T;induction T with
 |nil=>intro _ s hs;simp[ySy] at hs
 |node b o t l r ihl ihr=>
  rintro⟨h1,h2,h3⟩ s hs;have e1:opn.size<=20000:=Jd;have e2:zCI.size<=20000:=Jd;simp only[ySy] at hs;split at hs
  ·simp only[List.mem_cons,List.mem_append,List.not_mem_nil,or_false] at hs;rcases hs with rfl|hs|rfl
   ·exact e1
   ·exact ihl h2 s hs
   ·exact e2
  ·split at hs
   ·simp only[List.mem_cons] at hs;rcases hs with rfl|hs
    ·exact h1
    ·exact ihl h2 s hs
   ·split at hs
    ·simp only[List.mem_cons,List.mem_append,List.not_mem_nil,or_false] at hs;rcases hs with hs|rfl
     ·exact ihl h2 s hs
     ·exact h1
    ·split at hs
     ·simp only[List.mem_cons,List.mem_append] at hs;rcases hs with hs|rfl|hs
      ·exact ihl h2 s hs
      ·exact h1
      ·exact ihr h3 s hs
     ·simp only[List.mem_cons,List.not_mem_nil,or_false] at hs;subst hs;exact h1
theorem zJ6:∀(T:ET),(ySy T).length<=2*tsz T
 |.nil=>by simp[ySy]
 |.node b o t l r=>by
  have h1:=zJ6 l;have h2:=zJ6 r;simp only[ySy,tsz];split
  ·simp;omega
  ·split
   ·simp;omega
   ·split
    ·simp;omega
    ·split
     ·simp;omega
     ·simp;omega
theorem zJ7(ws:List ZG)(h:∀x∈ws,x.t.size<=20000):∀k,k<=ws.length->(zCr ws k).length<=20001*k
 |0,_=>by simp[zCr]
 |k+1,hk=>by
  have ih:=zJ7 ws h k Jo;have hx:(atW ws k).t.size<=20000:=h _ (by simp[atW,List.getD,(Jo:k<ws.length)]);have H:(atW ws k).t.data.toList.length<=20000:=Ju hx
  simp only[zCr,yq];split
  ·simp only[yy,yZ];omega
  ·simp only[yZ];omega
def txT(T:ET):List UInt8:=zCr (yT T) (yT T).length
theorem zQe{T:ET}(h:TxB T)(n:Nat)(hn:tsz T<=n):(txT T).length<=20001*(2*n):=by
 have h1:=zJ6 T;have h2:=zJ7 (yT T) (fun x hx=>by
  simp only[yT,List.mem_map] at hx
  obtain⟨s,hs,rfl⟩:=hx
  exact zHt T h s hs) (yT T).length (yk _)
 have h3:(yT T).length=(ySy T).length:=by simp[yT]
 unfold txT;omega
def zCa(ns:List OpR)(xs:List zD)(s:JZ)(v:Bool):Prop:=
 (((zO ns 0/\Zk xs/\zCt ns xs)/\(gS ns xs (xs.length-1) 0 0).length<=20000)/\v=true/\s=⟨(txT (grT ns (zGd xs) 0)).toArray⟩) \/
 (¬ ((zO ns 0/\Zk xs/\zCt ns xs)/\(gS ns xs (xs.length-1) 0 0).length<=20000)/\v=false/\s=⟨#[]⟩)
theorem zCa.one{s':JZ}{v v':Bool}(h:zCa ns xs s v)(h':zCa ns xs s' v'):s=s'/\v=v':=by
 rcases h with⟨a,rfl,rfl⟩|⟨a,rfl,rfl⟩
 ·rcases h' with⟨_,rfl,rfl⟩|⟨a',_⟩
  ·exact⟨rfl,rfl⟩
  ·exact yR a a'
 ·rcases h' with⟨a',_⟩|⟨_,rfl,rfl⟩
  ·exact yR a' a
  ·exact⟨rfl,rfl⟩
theorem zGe(h:(zO ns 0/\Zk xs/\zCt ns xs)/\(gS ns xs (xs.length-1) 0 0).length<=20000):∃G,G=grT ns (zGd xs) 0/\zn ns G/\TxB G/\tsz G<=20000/\gS ns xs (xs.length-1) 0 0=nd G 0/\fS ns xs (xs.length-1) 0=exT ns G:=by
 obtain⟨⟨hv,k,Q⟩,q⟩:=h;obtain⟨T,hT,hz,hx⟩:=zOD k Q;have H:zGd xs=T:=by rw[hx];exact zRN hT.sh
 have K:zGX xs T 0:=by rw[hx];exact zFw T
 have hg:=zUd ns xs T 0 hT.sh K 0 0;have hf:=zUe ns xs T 0 hT.sh K 0;rw[yY,hz] at hg hf;refine⟨grT ns (zGd xs) 0,rfl,?_,?_,?_,?_,?_⟩
 ·rw[H];exact(zTO hv T 0 hT Jo).1
 ·rw[H];exact zVO ns T 0 (zTW k.2.2.2 T 0 K Jo)
 ·rw[H,<-ZX _ 0,<-hg];exact q
 ·rw[H];exact hg
 ·rw[H];exact hf
structure zAX where
 k:Int
 m:JZ
 o:OpR
 t:JZ
 l:Int
 sd:Int
def zC6(q:zAX):OpR:=if q.k=1 then⟨q.t,q.o.k,q.o.l,q.o.sd⟩ else⟨q.o.s,q.o.k,q.l,q.sd⟩
def zAa(q:zAX):Prop:=(q.k=1/\q.l=0/\q.sd=0)\/(q.k=2/\q.t=ByteArray.empty)
def zGf(o:OpR):List OpR->Nat
 |[]=>0
 |x::r=>(if ZV x o=true then 1 else 0)+zGf o r
theorem zOG(o x:OpR):∀xs:List OpR,zGf o (xs++[x])=zGf o xs+if ZV x o=true then 1 else 0
 |[]=>by simp[zGf]
 |y::r=>by simp only[List.cons_append,zGf,zOG o x r];omega
theorem zLc{xs:List OpR}(h:k<xs.length):zGf o (xs.take (k+1))=zGf o (xs.take k)+if ZV (atO xs k) o=true then 1 else 0:=by
 rw[List.take_succ_eq_append_getElem h,zOG];simp[atO,yn,h]
def zFC(U:List UnR)(o:OpR):Nat->List Nat
 |0=>[]
 |i+1=>zFC U o i++List.replicate (zGf o (atU U i).os) i
theorem zQf(U:List UnR)(o:OpR):∀n,∀j∈zFC U o n,j<n
 |0,j,h=>by simp[zFC] at h
 |n+1,j,h=>by
  rcases List.mem_append.1 h with h|h
  ·have:=zQf U o n j h;omega
  ·have:=(List.mem_replicate.1 h).2;omega
def zCE(ms:List zH)(U:List UnR)(q:zAX):Prop:=(zFC U q.o ms.length).map (fun i=>(atM ms i).n)=[q.m]
def swO(o b:OpR)(xs:List OpR):List OpR:=xs.map (fun x=>if ZV x o=true then b else x)
theorem zCF(o b:OpR)(xs:List OpR):(swO o b xs).length=xs.length:=by simp[swO]
theorem zTX{b:OpR}{xs:List OpR}(h:i<xs.length):atO (swO o b xs) i=if ZV (atO xs i) o=true then b else atO xs i:=by
 simp[swO,atO,yn,h]
def zPX(o:OpR)(n:zD):Bool:=decide (n.k=o.k+2)&&decide (n.t=o.s)
def reN(o b:OpR)(ns:List zD):List zD:=ns.map (fun n=>if zPX o n=true then⟨n.k,b.s,n.a,n.b⟩ else n)
theorem zC7(o b:OpR)(ns:List zD):(reN o b ns).length=ns.length:=by simp[reN]
theorem zTY{b:OpR}{ns:List zD}(h:i<ns.length):atN (reN o b ns) i=if zPX o (atN ns i)=true then⟨(atN ns i).k,b.s,(atN ns i).a,(atN ns i).b⟩ else atN ns i:=by
 simp[reN,atN,yn,h]
def zJ8(tabs:List (List OpR))(n:Nat)(q:zAX):Prop:=(zC6 q).ok=false\/∃i,i<n/\q.o∈zz tabs i/\zC6 q∈zz tabs i
def zPY(tabs:List (List OpR))(n:Nat)(q:zAX):Prop:=∃i,i<n/\q.o∈zz tabs i/\∃c,zO (swO q.o (zC6 q) (zz tabs i)) c/\c≠0
def HdQ(s:JZ)(o b:OpR)(t:JZ):Prop:=∃n,n=bgN s (pcs 10 s 0) 0/\HdI s o b (pcs 10 s 0) n t
def zKg(q:zAX)(xs:List OpR)(ns:List zD)(m m':zH):Prop:=m'.n=m.n /\
 ((q.o∈xs/\∃h b v,HdQ m.t q.o (zC6 q) h/\zCa (swO q.o (zC6 q) xs) (reN q.o (zC6 q) ns) b v/\m'.t=h++b)\/(q.o ∉ xs/\m'.t=m.t))
def zE7(q:zAX)(ms:List zH)(tabs:List (List OpR))(ts:List (List zD))(k:Nat)(ms':List zH):Prop:=ms'.length=k/\∀i,i<k->zKg q (zz tabs i) (zCK ts i) (atM ms i) (atM ms' i)
def zEW(ms:List zH)(q:zAX)(h:List zH)(c:Int):Prop:=∃ts ct wt,zAe ms ts ct wt /\
 ((ct≠0/\h=[]/\c=1)\/(ct=0/\∃tabs U,zAF ms tabs 0 0/\Zo ms U /\
  ((¬ zAa q/\h=[]/\c=2)\/(zAa q /\
  ((¬ zCE ms U q/\h=[]/\c=3)\/(zCE ms U q /\
  ((zJ8 tabs ms.length q/\h=[]/\c=4)\/(¬ zJ8 tabs ms.length q /\
  ((zPY tabs ms.length q/\h=[]/\c=5)\/(¬ zPY tabs ms.length q /\
  ∃ms' t2 c2 w2,zE7 q ms tabs ts ms.length ms'/\zAe ms' t2 c2 w2/\((c2≠0/\h=[]/\c=6)\/(c2=0/\h=ms'/\c=0))))))))))))
theorem zVP{b:OpR}{t t':JZ}(h:HdQ s o b t)(h':HdQ s o b t'):t=t':=by
 obtain⟨n,e,h⟩:=h;obtain⟨n',e',h'⟩:=h';have:n=n':=e.trans e'.symm;subst this;exact HdI.one h h'
theorem zKg.one{q:zAX}{xs:List OpR}{ns:List zD}{m a b:zH}(h:zKg q xs ns m a)(h':zKg q xs ns m b):a=b:=by
 obtain⟨e,h⟩:=h;obtain⟨e',h'⟩:=h';have ht:a.t=b.t:=by
  rcases h with⟨h0,x,y,v,h1,h2,h3⟩|⟨h0,h3⟩<;>rcases h' with⟨g0,x',y',v',g1,g2,g3⟩|⟨g0,g3⟩
  ·have e1:=zVP h1 g1;have e2:=(zCa.one h2 g2).1;subst e1 e2;rw[h3,g3]
  ·exact yR h0 g0
  ·exact yR g0 h0
  ·rw[h3,g3]
 cases a;cases b
 cases ht;cases(e.trans e'.symm)
 rfl
theorem zE7.one{q:zAX}{ms:List zH}{tabs:List (List OpR)}{ts:List (List zD)}{k:Nat}{a b:List zH}(h:zE7 q ms tabs ts k a)(h':zE7 q ms tabs ts k b):a=b:=by
 refine List.ext_getElem (by rw[h.1,h'.1]) fun i hi H=>?_
 have:=zKg.one (h.2 i (by rw[<-h.1];exact hi)) (h'.2 i (by rw[<-h.1];exact hi));simpa[atM,yn,hi,H] using this
theorem zE7.step{q:zAX}{tabs:List (List OpR)}{ts:List (List zD)}{a:List zH}{m:zH}(h:zE7 q ms tabs ts k a)(h':zKg q (zz tabs k) (zCK ts k) (atM ms k) m):zE7 q ms tabs ts (k+1) (a++[m]):=by
 refine⟨by simp[h.1],fun i hi=>?_⟩;by_cases e:i<k
 ·have:atM (a++[m]) i=atM a i:=by simp[atM,yn,yE (by rw[h.1];exact e:i<a.length)]
  rw[this];exact h.2 i e
 ·obtain rfl:i=k:=Jo;have:atM (a++[m]) i=m:=by rw[<-h.1];simp[atM,yn]
  rw[this];exact h'
def opV(o:OpR):Value:=.agg #[Qs o.s,Qi o.k,Qi o.l,Qi o.sd]
def zBQ(q:zAX):Value:=.agg #[Qi q.k,Qs q.m,Qs q.o.s,Qi q.o.k,Qi q.o.l,Qi q.o.sd,Qs q.t,Qi q.l,Qi q.sd]
theorem zWj(t:JZ):(t.toList==(⟨#[]⟩:JZ).toList)=decide (t=ByteArray.empty):=by
 have h:t.toList=(⟨#[]⟩:JZ).toList↔t=ByteArray.empty:=⟨fun h=>zBC h,fun h=>by rw[h];rfl⟩;by_cases e:t=ByteArray.empty
 ·rw[decide_eq_true e];exact beq_iff_eq.2 (h.2 e)
 ·rw[decide_eq_false e];exact Bool.eq_false_iff.2 fun x=>e (h.1 (beq_iff_eq.1 x))
theorem zOH(q:zAX)(w:JY):Calls prog 16 #[zBQ q] w fun e w'=>(∃v,e=.returned (.tuple #[opV (zC6 q),.bool v])/\(v=true↔zAa q))/\Qb w w':=by
 unfold zBQ opV;by_cases h1:q.k=1
 ·have g1:(q.k==1)=true:=by simp[h1]
  have EN:Hid (zC6 q=⟨q.t,q.o.k,q.o.l,q.o.sd⟩):=yQ h1;by_cases hl:q.l=0
  ·have gl:(q.l==0)=true:=by simp[hl]
   have HF:=zB (by simp[zAa,h1,hl]:zAa q↔(q.sd==0)=true);clear h1 hl;go_enter func16,ntmps16;go_wp2_with fail;go_region;all_goals
    go_wp2_with fail
    refine yN (v:=.tuple #[.agg #[Qs q.t,Qi q.o.k,Qi q.o.l,Qi q.o.sd],.bool (q.sd==0)]) ?res rfl ⟨⟨_,by rw[zA EN],?_⟩,?_⟩
    case res=>simp[results,results16,go_sem]
    ·exact HF.symm
    ·exact(((zC _ _).alloc Js _).alloc Jq _).drew
  ·have gl:(q.l==0)=false:=by simp[hl]
   have HF:=zB (by simp[zAa,h1,hl]:zAa q↔false=true);clear h1 hl;go_enter func16,ntmps16;go_wp2_with fail;go_region;all_goals
    go_wp2_with fail
    refine yN (v:=.tuple #[.agg #[Qs q.t,Qi q.o.k,Qi q.o.l,Qi q.o.sd],.bool (false)]) ?res rfl ⟨⟨_,by rw[zA EN],?_⟩,?_⟩
    case res=>simp[results,results16,go_sem]
    ·exact HF.symm
    ·exact(((zC _ _).alloc Js _).alloc Jq _).drew
 ·have g1:(q.k==1)=false:=by simp[h1]
  have EN:Hid (zC6 q=⟨q.o.s,q.o.k,q.l,q.sd⟩):=yP h1;by_cases hl:q.k=2
  ·have gl:(q.k==2)=true:=by simp[hl]
   have HF:=zB (by rw[zWj];simp[zAa,h1,hl]:zAa q↔(q.t.toList==(⟨#[]⟩:JZ).toList)=true);clear h1 hl;go_enter func16,ntmps16;go_wp2_with fail;go_region;all_goals
    go_wp2_with fail
    refine yN (v:=.tuple #[.agg #[Qs q.o.s,Qi q.o.k,Qi q.l,Qi q.sd],.bool (q.t.toList==(⟨#[]⟩:JZ).toList)]) ?res rfl ⟨⟨_,by rw[zA EN],?_⟩,?_⟩
    case res=>simp[results,results16,go_sem]
    ·exact HF.symm
    ·exact(((zC _ _).alloc Js _).alloc Jq _).drew
  ·have gl:(q.k==2)=false:=by simp[hl]
   have HF:=zB (by simp[zAa,h1,hl]:zAa q↔false=true);clear h1 hl;go_enter func16,ntmps16;go_wp2_with fail;go_region;all_goals
    go_wp2_with fail
    refine yN (v:=.tuple #[.agg #[Qs q.o.s,Qi q.o.k,Qi q.l,Qi q.sd],.bool (false)]) ?res rfl ⟨⟨_,by rw[zA EN],?_⟩,?_⟩
    case res=>simp[results,results16,go_sem]
    ·exact HF.symm
    ·exact(((zC _ _).alloc Js _).alloc Jq _).drew
theorem zWk:(prog.info? 3).map (fun i=>(i.zero,i.size,i.bytes))=some (some (Qi 0),1,8):=Jk
def zBg(ds:List Nat):List Value:=ds.map fun(n:Nat)=>Qi n
theorem zJ9(a b:List Nat):zBg (a++b)=zBg a++zBg b:=by simp[zBg]
def zFi(w:JY)(B:Nat)(v:Value)(ds:List Nat):Prop:=w.ownsRow B 3 1 v ds.length (zBg ds)
theorem zFi.below{B:Nat}{u:Value}{us:List Nat}(h:zFi w B u us)(hb:Qb w w'):zFi w' B u us:=
 World.ownsRow.kept h (zE hb none) (by cases u.ownBlock with
 |none=>exact yS rfl
 |some k=>exact yU Js)
theorem zOI(w:JY):zFi (w.alloc (.cells #[] 3)) w.heap.size (Ql w.heap.size 0 0) []:=by
 have:=yG (base:=w.heap.size) (e:=3) (size:=1) w #[] 0 (yk _) (ym _) rfl;simpa[zFi,zBg] using this
theorem zPZ(w:JY)(n:Nat):∀j u,(zBg [n])[j]?=some u->(w.alloc (.cells #[Qi n] 3)).cell? ((Qa w.heap.size 0).add j)=some u:=by
 intro j u hj;rw[Addr.add_mid];exact yC (w:=w.alloc (.cells #[Qi n] 3)) (b:=w.heap.size) (heap_alloc_new w _) 0 1 j u (by simpa[zBg] using hj)
theorem zOJ(l:List Nat):∀u∈zBg l,u.oneCell'=true:=by
 intro u hu;simp only[zBg,List.mem_map] at hu;obtain⟨b,_,rfl⟩:=hu;rfl
theorem zQg{W:JY}{o:Obj}(h:W.heap.size=n):Below n W (W.alloc o):=by rw[<-h];exact zC _ _
theorem zKA(g c:Nat)(vs:List UvR)(U:List UnR)(o:OpR)(w:JY)(hn:vs.length<=100)(hg:g<w.heap.size)(hV:zNV w g vs)(hU:zCu w w.heap.size vs U)(B:∀i,i<vs.length->(atU U i).os.length<=1048576):Calls prog 17 #[Ql g vs.length c,opV o] w fun e w'=>(∃v,e=.returned v/\zFi w' (w.heap.size+1) v (zFC U o vs.length))/\Below w.heap.size w w':=by
 unfold opV;obtain⟨i0,F,u,A,d⟩:=zS zWk;have HI:=zB F;have HZ:=zB (yK u (yK A d));clear F u A d;obtain⟨W,hW⟩:=Jx (w.alloc (.cells #[Qs o.s,Qi o.k,Qi o.l,Qi o.sd] 33));have j:W.heap.size=w.heap.size+1:=by rw[hW];simp
 have HE:=zB (by have:=zOI W;rw[j] at this;exact this:zFi (W.alloc (.cells #[] 3)) (w.heap.size+1) (Ql (w.heap.size+1) 0 0) []);have P:=zB (by rw[hW];exact zC _ _:Below w.heap.size w W);have HO:=zB (by rw[hW];exact⟨Jg,Jg,Jg,Jg⟩:zBO W w.heap.size o);have HV:=zB hV;have HU:=zB hU;have N:=zB B;have HW:=zB j;clear hV hU B;go_enter func17,ntmps17;go_wp2_with fail;rw[<-hW];clear hW j;go_loopw [5,6,7] (fun J i kk wr=>∃(n:Nat)(v:Value)(ds:List Nat),n<=vs.length/\J=v/\i=Qi n/\Hid (ds=zFC U o n)/\Hid (zFi wr (w.heap.size+1) v ds)/\Hid (ds.length<=1048576*n)/\Hid (Below (w.heap.size+1) W wr)) (fun _ i _ _=>vs.length-(intOf i).toNat);case atStart=>exact⟨0,_,[],ym _,rfl,rfl,zB rfl,HE,zB (ym _),zB (zQg HW)⟩
 case round=>
  clear HE;obtain⟨n,v,ds,t,rfl,rfl,b,HR,h,HB⟩:=hrel;by_cases y:n<vs.length
  ·have f:(n:Int)<(vs.length:Int):=Jo;obtain⟨os,x⟩:=Jx ((atU U n).os);have T:os.length<=1048576:=by rw[x];exact N n y
   obtain⟨ao,co,R,G⟩:∃ao co,Hid (W.cell? (Qa g (n*3+1))=some (.slice ao os.length co))/\Hid (0<os.length->∃gi,ao=some (Qa gi 0)/\gi<w.heap.size/\Ops W gi 0 os):=by
    obtain⟨⟨_,⟨a,ca,ev,hx⟩,_⟩,_,_⟩:=HU.2 n y;rw[<-x] at ev hx;have h1:=(P.cell (p:=(Qa g (n*3+1))) hg).trans (HV n y).2.1;rw[ev] at h1;refine⟨a,ca,zB h1,zB fun h0=>?_⟩;rcases hx with⟨h2,_⟩|⟨gi,h2,h3,h4⟩
    ·omega
    ·exact⟨gi,h2,h3,h4.below P h3⟩
   have O:=zB x;clear x;go_wp2_with fail;obtain⟨wo,rfl⟩:=Jx wr;go_loopw [5,7] (fun J kk wr=>∃(k:Nat)(v':Value)(ds':List Nat),k<=os.length/\J=v'/\kk=Qi k/\Hid (ds'=ds++List.replicate (zGf o (os.take k)) n)/\Hid (zFi wr (w.heap.size+1) v' ds')/\Hid (ds'.length<=1048576*n+k)/\Hid (Below (w.heap.size+1) W wr)) (fun _ kk _=>os.length-(intOf kk).toNat);case atStart=>exact⟨0,_,ds,ym _,rfl,rfl,zB (by simp[zGf]),HR,h,HB⟩
   case round=>
    clear HR HB h;obtain⟨k,v',ds',hk,rfl,rfl,Q,HR,h,HB⟩:=hrel;have x1:=(HB.cell (p:=(Qa g (n*3+1))) (Jo:g<w.heap.size+1)).trans R;by_cases V:k<os.length
    ·have r:(k:Int)<(os.length:Int):=Jo;obtain⟨gi,rfl,S,E⟩:=(zA G) Jo;obtain⟨a0,a1,a2,a3⟩:=(E k V).below HB Jo;simp only[yY] at a0 a1 a2 a3;obtain⟨c0,c1,c2,c3⟩:=zA HO;have d0:=Jc HB (Jo:w.heap.size<w.heap.size+1) c0;have d1:=Jc HB (Jo:w.heap.size<w.heap.size+1) c1;have d2:=Jc HB (Jo:w.heap.size<w.heap.size+1) c2;have d3:=Jc HB (Jo:w.heap.size<w.heap.size+1) c3;clear c0 c1 c2 c3 E;have hq:=fun W=>zBs (atO os k) o W
     have I:=zDm;go_wp2_with fail;go_quiet (fail);clear hq I;have HT:=zB (zLc (o:=o) V);cases hsm:ZV (atO os k) o
     ·have HS:=zB hsm;clear hsm;go_wp2;refine⟨⟨k+1,_,ds',Jo,rfl,Jn,zB ?_,zB (HR.below (below_drewN (yJ _ _) nq)),zB (Jy (zA h)),zB (below_drewN HB nq)⟩,Ji⟩;rw[zA HT,zA HS,zA Q];simp
     ·have HS:=zB hsm;clear hsm;have D:=zB (HR.below (below_drewN (yJ _ _) nq));have X:=zB (below_drewN HB nq);generalize wr.drewN nq=wq at *;clear HR HB;go_wp2_with (at_builtin;refine yL _ rfl (.tmp 35) (.tmp 37) 49 rfl (w.heap.size+1) 3 i0 _ 1 8 underlying49 HI HZ.1 HZ.2.1 HZ.2.2 rfl Jd _ ds'.length (zBg ds') rfl (D.below (zC _ _)) (Qa wq.heap.size 0) 1 1 (zBg [n]) rfl rfl (Ju (zPZ wq n)) (zOJ _) ?b1 ?b2 ?b3 ?next);case b1=>have:=zA h;unfold maxLen;omega
      case b2=>have:=zA h;omega
      case b3=>have:=X.size;have:=zA HW;simp;omega
      case next=>
       intro v4 w4 K H Y C;have M:=zB (by unfold zFi;rw[zJ9,yq];exact K:zFi w4 (w.heap.size+1) v4 (ds'++[n]));have L:Below (w.heap.size+1) W w4:=(X.alloc (by have:=X.size;have:=zA HW;omega) _).grown H (by have:=X.size;have:=zA HW;simp;omega) (fun q hq=>(World.ownsRow.lt D q hq).1);clear K H Y C;go_wp2;refine⟨⟨k+1,_,ds'++[n],Jo,rfl,Jn,zB ?_,M,zB (by have:=zA h;simp;omega),zB L⟩,Ji⟩;rw[zA HT,zA HS,zA Q,yA];simp[List.replicate_succ']
    ·have r:¬ (k:Int)<(os.length:Int):=Jo;obtain rfl:k=os.length:=Jo;have m:=zB (by rw[zA Q,zA b,zA O];simp[zFC]:ds'=zFC U o (n+1));go_wp2;exact⟨⟨n+1,_,ds',Jo,rfl,Jn,m,HR,zB (Jy (zA h)),HB⟩,Ji⟩
  ·have f:¬ (n:Int)<(vs.length:Int):=Jo;obtain rfl:n=vs.length:=Jo;have e:=zA b;subst e;have HG:Hid (Below w.heap.size w wr):=P.trans (HB.mono Jo);go_wp2;go_ret;exact⟨⟨_,rfl,HR⟩,HG⟩
open Go.Maps
def zVQ(ns:List OpR)(ts:List zU)(x:Ending):Prop:=
 (∃i,i<ts.length/\zCL ns ts i/\zZ ns ts i<0/\x=zV2 4 (zIY ts i:Int))\/(zCL ns ts ts.length/\x=.returned (.tuple #[]))
theorem zHu(bo bs g o c:Nat)(ns:List OpR)(ts:List zU)(w:JY)(hm:ts.length+Zf ts ts.length<=1048576)(hc:ts.length<=c)(p:c<=maxLen)(K:Idx w bo bs ns ns.length)(q:zO ns 0)(hw:zDf w g o ts)(y:zRq ts)(hB:g<w.heap.size)(hz:∀i,i<ts.length->(atT ts i).g.size<=1048576)(X:0<ts.length/\(atT ts (ts.length-1)).k=7):Calls prog 94 #[.agg #[.map (some bo),.map (some bs)],.slice (some (Qa g o)) ts.length c] w fun x w'=>zVQ ns ts x/\Qb w w':=by
 have HW:=zB hw;have HZ:=zB hz;have P:=zB X;have HC:=zB q;have H:=zC w (.cells #[.map (some bo),.map (some bs)] 161);have HX:=zPV bo bs g o c ns ts _ Jo (K.kept H) q (fun j hj=>(hw j hj).below H hB) y Jq;have J:=zB H;clear hw hz X K y q H;go_enter func94,ntmps94;go_wp2_with fail;go_call HX as x w1 ⟨⟨a,c1,us,v,rfl,_,hr⟩,hb1⟩;have h:Qb w w1:=J.trans (hb1.mono Js);clear HX J hb1;rcases hr with⟨hn,_⟩|⟨_,⟨i,hi,hf,Q,rfl,rfl⟩|⟨hf,⟨_,rfl,rfl⟩|⟨hn,_⟩⟩⟩
 ·exact yR HC hn
 ·have hb:((i:Int) != -1)=true:=by first|(simp;done)|(simp;omega)
  have HF:=zB (yK hf Q);have HX:=zG4 g o c i ts w1 hm hi hc p (fun j hj=>(HW j hj).below h hB) (Jy h.size) (HZ i hi);clear hf Q;go_wp2_with fail;go_call HX as x w2 ⟨rfl,hb2⟩;have Y:=h.trans (hb2.mono h.size);clear HX hb2;go_wp2_with fail;exact⟨rfl,yS ⟨i,hi,HF.1,HF.2,rfl⟩,Y⟩
 ·have HF:=zB hf;clear hf;go_wp2_with fail;go_end0;exact⟨yU ⟨HF,rfl⟩,h⟩
 ·exact yR P hn
theorem zTZ{m:Nat}:∀(T:ET),zn ns T->(∀x∈ySy T,x.2.size<=m)->∀(s:Nat),∀o∈nd T s,o.t.size<=m:=by
 intro T;induction T with
 |nil=>intro h;exact h.elim
 |node b o t l r ihl ihr=>
  rintro⟨rfl,h⟩ hy s q hq;rcases h with⟨K,rfl,rfl⟩|⟨rfl,rfl,hl,rfl⟩|⟨H,hk,hl,rfl,hh⟩|⟨rfl,hk,hl,hr,h1,h2⟩
  ·rw[zCA K] at hy;simp only[nd,List.nil_append,List.mem_singleton] at hq;subst hq;exact hy (b,t) Js
  ·rw[zC5] at hy;simp only[nd,List.append_nil,List.mem_append,List.mem_singleton] at hq;rcases hq with hq|rfl
   ·exact ihl hl (fun x hx=>hy x (by simp[hx])) s q hq
   ·exact ym _
  ·have k:∀x∈ySy l,x.2.size<=m:=by
    rcases H with rfl|rfl
    ·rw[zCY] at hy;exact fun x hx=>hy x (by simp[hx])
    ·rw[zCB] at hy;exact fun x hx=>hy x (by simp[hx])
   have Q:t.size<=m:=by
    rcases H with rfl|rfl
    ·rw[zCY] at hy;exact hy (3,t) Js
    ·rw[zCB] at hy;exact hy (5,t) Js
   simp only[nd,List.append_nil,List.mem_append,List.mem_singleton] at hq;rcases hq with hq|rfl
   ·exact ihl hl k s q hq
   ·exact Q
  ·rw[zDu] at hy;simp only[nd,List.mem_append,List.mem_singleton] at hq;rcases hq with(hq|hq)|rfl
   ·exact ihl hl (fun x hx=>hy x (by simp[hx])) s q hq
   ·exact ihr hr (fun x hx=>hy x (by simp[hx])) _ q hq
   ·exact hy (4,t) Js
theorem zTa{ts:List zU}{m:Nat}(h:(atT ts i).t.size<=m)(h1:1<=m):(sgT ns ts i).2.size<=m:=by
 unfold sgT;split
 ·exact h
 ·split
  ·exact h1
  ·split
   ·exact h1
   ·split
    ·exact ym _
    ·exact h
theorem zGg{us:List zD}{p:Int}(h:zAs ns s us 0 p):1<=us.length/\us.length<=20001/\zBb us:=by
 rcases h with⟨_,_,h,_⟩|⟨hv,⟨_,_,h,_⟩|⟨Q,ts,hx,⟨i,_,_,_,_,h,_⟩|⟨q,⟨i,_,_,_,_,h,_⟩|⟨hf,h⟩⟩⟩⟩
 ·omega
 ·omega
 ·omega
 ·omega
 ·rcases h with⟨_,_,h,_⟩|⟨T,r,hr,⟨_,_,h,_⟩|⟨_,rfl,_,_⟩⟩
  ·omega
  ·omega
  ·have hl:=zCT ts 0 hx;have k:=zQT hf hl 0 hl.1;rw[Nat.sub_zero] at k;have h1:=zAG hv _ _ none _ 0 _ Jo k (fun L e=>by cases e) hr;have e0:=h1.2.2.2.2;simp only[yM,List.nil_append] at e0;have e:=yV List.length e0;simp only[yq] at e;rw[zAq] at e;have:=zL8 T h1.2.1;have X:=(zF0 hx).2.1;rw[ZX];refine⟨Sh.pos h1.2.1.sh,Jo,fun i hi=>?_⟩;have hm:∀o∈nd T 0,o.t.size<=20000:=by
    refine zTZ T h1.2.1 (fun x K=>?_) 0;have H:x∈sgs ns ts 0 ts.length:=by rw[e0];exact List.mem_append_left _ K
    unfold sgs at H;obtain⟨i,hi,rfl⟩:=List.mem_map.1 H;rw[List.mem_range'_1] at hi;refine zTa ?_ Jo;have:=(zDY ts 0 hx i Jo).2;omega
   have:=hm (atN (nd T 0) i) (by
    unfold atN
    rw[yn,yr Jo]
    exact List.getElem_mem _)
   unfold maxLen;omega
theorem Z1.undrew{o B:Nat}(h:Z1 w.drew b o B kv pv ks w'):Z1 w b o B kv pv ks w':=by
 obtain⟨kv',pv',h1,h2,h3,h4⟩:=h;exact⟨kv',pv',h1,⟨h2.os,h2.tape,h2.output,h2.size,h2.blk,h2.cel⟩,h3,h4⟩
theorem Zx.get{ty e:TypeId}(h:Zx w b n G)(ht:prog.underlying ty=some (.map 9 e)){z:Value}(hz:(zeroValue e).run prog w=.ok z w){t:JZ}(hs:t.size<=maxLen):(Instr.lookup ty (.map (some b)) (.string t) false).run prog w=.ok ((G t).getD z) w:=by
 obtain⟨D,hD,h⟩:=h;obtain⟨v,ps,H,hv⟩:=hD.lookup (string_keyed underlying9) ht hz (zd:=.held z) (zp:=[]) rfl (zSG hs);have e:v=(G t).getD z:=by
  cases hg:G t with
  |none=>
   rw[(h t hs).2.2 hg] at hv;simp only[zCX,Option.some.injEq,Prod.mk.injEq,DataW.held.injEq] at hv;exact hv.1
  |some u=>
   rw[(h t hs).2.1 u hg] at hv;simp only[zCX,Option.some.injEq,Prod.mk.injEq,DataW.held.injEq] at hv;exact hv.1
 rw[<-e];exact H
theorem zKh(P C:Nat)(am:Option Addr)(cm:Nat)(ms:List zH)(kv:Value)(pv:Option Nat)(ks:List JZ)(k:Nat)(w:JY)(Q:w.cell? (Qa P 0)=some (.slice am ms.length cm))(hM:zB3 w am ms)(hk:k<ms.length)(hS:zCo w P 2 C kv pv ks)(hC:C<=w.heap.size)(hl:ks.length<=1048576)(H:(atM ms k).n.size<=maxLen):Calls prog 85 #[Qp P,Qi k] w fun e w'=>zBD e ((atM ms k).n ∉ ks)/\Z1 w P 2 C kv pv (zA3 ks (atM ms k).n) w':=by
 have q:(k:Int)<(ms.length:Int):=Jo;rcases hM with hM|⟨bA,x,rfl,h,K⟩
 ·omega
 obtain⟨m0,m1⟩:=h k hk;have HX:=zB (zNu P 2 C kv pv ks (atM ms k).n w.drew (hS.below (yJ _ _).drew) H hl hC);clear hS h;go_enter func85,ntmps85;go_wp2_with fail;go_region_with (first|(go_at_call 130;(with_reducible refine(zA HX).mono ?_);rintro e w1 ⟨⟨v,rfl,hv⟩,hpo⟩;have HV:=zB hv;have HP:=zB hpo.undrew;clear hv hpo));go_wp2_with fail;go_ret;exact⟨⟨v,rfl,HV⟩,HP⟩
theorem zKi(P B C:Nat)(am:Option Addr)(cm n:Nat)(v1:Value)(vs:List UvR)(U:List UnR)(kv:Value)(pv:Option Nat)(ks:List JZ)(k:Nat)(w:JY)(h:PgC w B C P am cm n v1 vs U)(hk:k<n)(hS:zCo w P 2 C kv pv ks)(hs:∀u∈(atU U k).us,u.size<=maxLen)(hn:n<=1048576)(E:(atU U k).us.length<=1048576):Calls prog 86 #[Qp P,Qi k] w fun e w'=>zBD e (∀u∈(atU U k).us,u∈ks)/\w'=w:=by
 obtain⟨g,c,rfl,q0,q1,q2⟩:=h.at hk;have d:k<vs.length:=Jy h.ln
 have G:(k:Int)<(vs.length:Int):=Jo;have d1:=h.c1;obtain⟨⟨X,_,_⟩,_,_⟩:=h.uns.2 k d;obtain⟨us,A⟩:=Jx ((atU U k).us);rw[<-A] at X hs E ⊢;have V:=zB X;have HH:=zB (fun t (ht:t.size<=maxLen)=>zJq P 2 C kv pv ks t w hS ht);have HS:=zB hs;obtain⟨a,cc,hv,_⟩:=X;rw[hv] at q0 V;clear h hS hs A hv;go_enter func86,ntmps86;go_wp2_with fail;go_loop [16] (fun i=>∃j:Nat,j<=us.length/\i=Qi j/\Hid (∀q u,q<j->us[q]?=some u->u∈ks)) (fun i=>us.length-(intOf i).toNat);case atStart=>exact⟨0,ym _,rfl,zB (fun q u h=>Jo)⟩
 case round=>
  obtain⟨j,hj,rfl,HJ⟩:=hrel;by_cases D:j<us.length
  ·have f:(j:Int)<(us.length:Int):=Jo;obtain⟨p,hp⟩:∃p,us[j]?=some p:=⟨_,yr D⟩;obtain⟨g',c',K,F,Y⟩:=V.lt Jo;obtain⟨rfl,rfl⟩:a=some (Qa g' 0)/\cc=c':=by injection K with x _ y;exact⟨x,y⟩
   have hc:=Y j p hp;have HX:=zB (HH p (HS p (yB hp)));by_cases H:p∈ks
   ·have HN:=zB (show ∀q u,q<j+1->us[q]?=some u->u∈ks from fun q u hq hu=>by
     by_cases e:q=j
     ·subst e;rw[hp] at hu;injection hu with hu;rw[<-hu];exact H
     ·exact HJ q u Jo hu)
    have Q:=zB H;clear K hp Y H;go_wp2_with (first|(go_at_call 131;(with_reducible refine(zA HX).mono ?_);rintro e w1 ⟨⟨v,rfl,hv⟩,hx⟩;obtain rfl:=hx.symm;obtain rfl:v=true:=hv.2 Q;clear hv hx));exact⟨⟨j+1,Jo,Jn,HN⟩,Ji⟩
   ·have b:Hid (¬ ∀u∈us,u∈ks):=fun h=>H (h p (yB hp))
    have Q:=zB H;clear K hp Y H;go_wp2_with (first|(go_at_call 131;(with_reducible refine(zA HX).mono ?_);rintro e w1 ⟨⟨v,rfl,hv⟩,hx⟩;obtain rfl:=hx.symm;obtain rfl:v=false:=(by cases v;rfl;exact yR (hv.1 rfl) Q);clear hv hx));go_ret;exact⟨⟨false,rfl,zQ b⟩,rfl⟩
  ·have J:=zB (show ∀u∈us,u∈ks from fun u hu=>by
    obtain⟨q,hq,e⟩:=List.getElem_of_mem hu
    exact HJ q u Jo (by rw[yr hq,e]))
   go_wp2;go_ret;exact⟨⟨true,rfl,Zb J⟩,rfl⟩
theorem zKB(P B C:Nat)(am:Option Addr)(cm n:Nat)(v1:Value)(vs:List UvR)(U:List UnR)(kv:Value)(pv:Option Nat)(ks:List JZ)(t:JZ)(k:Nat)(w:JY)(h:PgC w B C P am cm n v1 vs U)(hk:k<n)(hS:zCo w P 2 C kv pv ks)(ht:t.size<=maxLen)(hi:zGU ks t=some k):Calls prog 97 #[Qp P,Qs t] w fun e w'=>e=.returned (.agg #[(atV vs k).vu,(atV vs k).vo,Qs (atV vs k).b])/\Qb w w':=by
 obtain⟨g,c,rfl,q0,q1,q2⟩:=h.at hk;have y:k<vs.length:=Jy h.ln
 have J:(k:Int)<(vs.length:Int):=Jo;have d1:=h.c1;have s1:=hS.c1;have Q:=h.lt;obtain⟨bm,rfl,j,hm⟩:∃bm,pv=some bm/\C<=bm/\Zx w bm ks.length (gSS ks):=by
  rcases hS.mp with⟨_,e⟩|h
  ·rw[e] at hi;cases hi
  ·exact h
 obtain⟨W,hW⟩:=Jx (w.alloc (.cells #[.slice none 0 0,.slice none 0 0,Qs ⟨#[]⟩] 89));have hb:Qb w W:=by rw[hW];exact zC _ _
 have H:=((hm.kept (zE hb none) Js).kept (zE (show Qb W W.drew from(yJ _ _).drew) none) Js).get (ty:=114) underlying114 (zNt W.drew) ht;rw[(by unfold gSS;rw[hi];rfl:gSS ks t=some (Qi k))] at H;have X:(Instr.lookup 114 (.map (some bm)) (Qs t) false).run prog W.drew=.ok (Qi k) W.drew:=H;have K:g<w.heap.size:=World.block_lt_of_cell? _ _ q0;have e1:=Jc hb Q d1;have e3:=(hb.cell (p:=(Qa P (2+1))) Q).trans s1;have x0:=(hb.cell (p:=(Qa g (k*3))) K).trans q0;have x1:=(hb.cell (p:=(Qa g (k*3+1))) K).trans q1;have x2:=(hb.cell (p:=(Qa g (k*3+2))) K).trans q2;obtain⟨⟨⟨a,c',x,_⟩,⟨a2,c2,q,_⟩,Y⟩,_,_⟩:=h.uns.2 k y;clear Y;rw[x] at x0 ⊢;rw[q] at x1 ⊢;have z0:W.cell? (Qa w.heap.size 0)=some (.slice none 0 0):=by rw[hW];simp[go_sem]
 have z1:W.cell? (Qa w.heap.size 1)=some (.slice none 0 0):=by rw[hW];simp[go_sem]
 have z2:W.cell? (Qa w.heap.size 2)=some (Qs ⟨#[]⟩):=by rw[hW];simp[go_sem]
 have zf0:W.frozen? (Qa w.heap.size 0)=false:=by rw[hW];simp[go_sem]
 have zf1:W.frozen? (Qa w.heap.size 1)=false:=by rw[hW];simp[go_sem]
 have zf2:W.frozen? (Qa w.heap.size 2)=false:=by rw[hW];simp[go_sem]
 have HB:=zB hb;have HW:=zB hW;clear hW hb H hm hS h q0 q1 q2 x q;go_enter func97,ntmps97;go_wp2_with fail;rw[<-zA HW];go_region;go_wp2_with fail;refine yN (v:=.agg #[.slice a (atU U k).us.length c',.slice a2 (atU U k).os.length c2,Qs (atV vs k).b]) ?res rfl ?_;case res=>simp[results,results97,go_sem,z0,z1,z2]
 exact⟨rfl,(((HB.setCell (p:=Qa w.heap.size 0) (yk _) _).setCell (p:=Qa w.heap.size 1) (yk _) _).setCell (p:=Qa w.heap.size 2) (yk _) _).drew⟩
structure zCM(ms:List zH)(ks:List JZ):Prop where
 ln:ks.length=ms.length
 at':∀i,i<ms.length->ks[i]?=some (atM ms i).n
 nd:ks.Nodup
 sz:∀x∈ks,x.size<=maxLen
theorem zVR(h:ks.Nodup):∀{i:Nat}{t:JZ},ks[i]?=some t->zGU ks t=some i:=by
 induction ks with
 |nil=>intro i t h;simp at h
 |cons x r ih=>
  intro i t hi;rw[List.nodup_cons] at h;cases i with
  |zero=>
   simp at hi;unfold zGU;rw[yQ hi]
  |succ i=>
   have H:r[i]?=some t:=Ju hi
   have hx:x≠t:=fun e=>h.1 (by rw[e];exact yB H)
   unfold zGU;rw[yP hx,ih h.2 H];rfl
theorem zCM.idx(h:zCM ms ks)(hi:i<ms.length):zGU ks (atM ms i).n=some i:=zVR h.nd (h.at' i hi)
theorem zCM.mem(h:zCM ms ks){u:JZ}(hu:u∈ks):∃i,i<ms.length/\(atM ms i).n=u:=by
 obtain⟨i,hi,e⟩:=List.getElem_of_mem hu;have hl:=h.ln;have:=h.at' i Jo;rw[yr hi,e] at this;injection this with this;exact⟨i,Jo,this.symm⟩
theorem zCM.inj(h:zCM ms ks)(hi:i<ms.length)(hj:j<ms.length)(e:(atM ms i).n=(atM ms j).n):i=j:=by
 have h1:=h.idx hi;rw[e,h.idx hj] at h1;injection h1 with h1;exact h1.symm
structure Rch(ms:List zH)(U:List UnR)(k:Nat)(rs:List JZ)(j:Nat):Prop where
 nd:rs.Nodup
 reach:∀u∈rs,∃i,i<ms.length/\(atM ms i).n=u/\TC (Edg ms U) k i
 first:∀u∈(atU U k).us,u∈rs
 done:∀q u i,q<j->rs[q]?=some u->i<ms.length->(atM ms i).n=u->∀x∈(atU U i).us,x∈rs
theorem Rch.start{U:List UnR}(hN:zCM ms ks)(hk:k<ms.length)(hu:∀i,i<ms.length->∀u∈(atU U i).us,u∈ks):Rch ms U k ((atU U k).us.foldl zA3 []) 0:=
 ⟨zJA _ _ Js,fun u h=>by
  rcases(zBR _ _).1 h with h|h
  ·cases h
  ·obtain⟨i,hi,e⟩:=hN.mem (hu k hk u h)
   exact⟨i,hi,e,TC.one ⟨hk,hi,by rw[e];exact h⟩⟩,fun u h=>(zBR _ _).2 (yU h),fun q u i hq=>Jo⟩
theorem Rch.step{U:List UnR}{i:Nat}(hN:zCM ms ks)(hu:∀i,i<ms.length->∀u∈(atU U i).us,u∈ks)(h:Rch ms U k rs j)(hi:i<ms.length)(hj:rs[j]?=some (atM ms i).n):Rch ms U k ((atU U i).us.foldl zA3 rs) (j+1):=by
 have J:j<rs.length:=(jc.1 hj).1;have Q:∀q x,q<rs.length->((atU U i).us.foldl zA3 rs)[q]?=some x->rs[q]?=some x:=by
  have:∀(l acc:List JZ) q x,q<acc.length->(l.foldl zA3 acc)[q]?=some x->acc[q]?=some x:=by
   intro l;induction l with
   |nil=>intro acc q x _ h;exact h
   |cons a r ih=>
    intro acc q x hq h;have p:acc.length<=(zA3 acc a).length:=by
     by_cases e:a∈acc
     ·rw[zCe e];exact yk _
     ·rw[zCW e];simp
    have h1:=ih (zA3 acc a) q x Jo h;by_cases e:a∈acc
    ·rw[zCe e] at h1;exact h1
    ·rw[zCW e,yE hq] at h1;exact h1
  exact this _ _
 obtain⟨i0,Y,e0,ht⟩:=h.reach _ (yB hj);have e1:=hN.inj Y hi e0;subst e1;refine⟨zJA _ _ h.nd,fun u hm=>?_,fun u hm=>(zBR _ _).2 (yS (h.first u hm)),fun q u i' hq hx y e x X=>?_⟩
 ·rcases(zBR _ _).1 hm with hm|hm
  ·exact h.reach u hm
  ·obtain⟨m,K,e⟩:=hN.mem (hu _ hi u hm);exact⟨m,K,e,ht.trans (TC.one ⟨hi,K,by rw[e];exact hm⟩)⟩
 ·have H:=Q q u Jo hx;by_cases e2:q=j
  ·subst e2;rw[hj] at H;injection H with H;have:=hN.inj hi y (H.trans e.symm);subst this;exact(zBR _ _).2 (yU X)
  ·exact(zBR _ _).2 (yS (h.done q u i' Jo H y e x X))
theorem Rch.len(hN:zCM ms ks)(h:Rch ms U k rs j):rs.length<=ms.length:=by
 rw[<-hN.ln];exact zBe rs ks h.nd (fun u hu=>by
  obtain⟨i,hi,e,_⟩:=h.reach u hu
  rw[<-e]
  exact yB (hN.at' i hi))
theorem Rch.fin(hN:zCM ms ks)(h:Rch ms U k rs j)(hj:rs.length<=j)(hk:k<ms.length):(atM ms k).n∈rs↔TC (Edg ms U) k k:=by
 constructor
 ·intro hm;obtain⟨i,hi,e,ht⟩:=h.reach _ hm;have:=hN.inj hi hk e;subst this;exact ht
 ·rintro⟨q,hp⟩;refine TC.closed (P:=fun i=>(atM ms i).n∈rs) (fun a b ha H=>?_) hp (fun m hm=>h.first _ hm.2.2);obtain⟨q,hq,e⟩:=List.getElem_of_mem ha;exact h.done q _ a Jo (by rw[yr hq,e]) H.1 rfl _ H.2.2
theorem zPa(x y z:Value)(w:JY):(Instr.field 89 (.agg #[x,y,z]) 0).run prog w=.ok x w:=Jk
theorem zTb(acc:List JZ)(u:JZ):acc.length<=(zA3 acc u).length:=by
 by_cases e:u∈acc
 ·rw[zCe e];exact yk _
 ·rw[zCW e];simp
theorem zOK:∀(us acc:List JZ),acc.length<=(us.foldl zA3 acc).length
 |[],acc=>yk _
 |u::r,acc=>yw (zTb acc u) (zOK r (zA3 acc u))
theorem zPb(rs us:List JZ)(h:j+1<=rs.length):j+1<=(us.foldl zA3 rs).length:=yw h (zOK us rs)
theorem zMX(P B C:Nat)(am:Option Addr)(cm:Nat)(ms:List zH)(v1:Value)(vs:List UvR)(U:List UnR)(kv:Value)(pv:Option Nat)(ks:List JZ)(k:Nat)(w:JY)(h:PgC w B C P am cm ms.length v1 vs U)(hM:zB3 w am ms)(hk:k<ms.length)(hS:zCo w P 2 C kv pv ks)(hC:C<=w.heap.size)(hn:ms.length<=100)(hN:zCM ms ks)(hu:∀i,i<ms.length->∀u∈(atU U i).us,u∈ks)(G:∀i,i<ms.length->(atU U i).us.length<=20001):Calls prog 87 #[Qp P,Qi k] w fun e w'=>zBD e (¬ TC (Edg ms U) k k)/\Qb w w':=by
 obtain⟨g,c,rfl,q0,q1,q2⟩:=h.at hk;have hm:k<vs.length:=Jy h.ln
 have hy:(k:Int)<(vs.length:Int):=Jo;have ha:=h.lt;have d0:=h.c0;have d1:=h.c1;have hw:g<w.heap.size:=World.block_lt_of_cell? _ _ q0;have hr:(k:Int)<(ms.length:Int):=Jo;obtain⟨⟨Q,_,F⟩,q,_⟩:=h.uns.2 k hm;obtain⟨au,cu,Y,_⟩:=id Q;have I:=zB (show Calls prog 132 #[Qp w.heap.size,(atV vs k).vu] (w.alloc (.cells #[.slice none 0 0,.map none] 116)) fun e w'=>e=.returned (.tuple #[])/\Z1 (w.alloc (.cells #[.slice none 0 0,.map none] 116)) w.heap.size 0 w.heap.size (.slice none 0 0) none ((atU U k).us.foldl zA3 []) w' from
  zFa w.heap.size 0 w.heap.size _ none [] (atV vs k).vu (atU U k).us _ (zCo.new w _ _) (fun x hx=>hN.sz x (hu k hk x hx)) (by have:=G k hk;simp;omega) Js (Q.below (zC _ _)) (fun g e=>⟨Jy (q g e),Jb,Js⟩))
 rw[Y] at I q0;have l:=zB (Rch.start hN hk hu);have HN:=zB hN;have HU:=zB hu;have hh:=zB G;have HM:=zB hM;have ho:=zB h;have hg:=zB hS;clear h hM hS hN hu G Q q F Y q1 q2;go_enter func87,ntmps87;go_wp2_with (first|(go_at_call 132;(with_reducible refine(zA I).mono ?_);rintro e w1 ⟨rfl,kv0,pv0,hs1,he1,hk1,hp1⟩;have M:=zB hs1;have S:Qb w w1:=((zC _ _).trans (he1.below (B:=w.heap.size) Js (yk _) (fun g e=>by simp[Value.ownBlock] at e) (fun g e=>by simp at e)));clear hs1 he1 hk1 hp1 I));go_loopw [6] (fun i wr=>∃(j:Nat)(rs:List JZ)(kv':Value)(pv':Option Nat),i=Qi j/\j<=rs.length/\Hid (zCo wr w.heap.size 0 w.heap.size kv' pv' rs)/\Hid (Rch ms U k rs j)/\Qb w wr) (fun i _=>ms.length-(intOf i).toNat);case atStart=>exact⟨0,_,_,_,rfl,ym _,M,l,S⟩
 case round=>
  clear M l S;obtain⟨j,rs,kv',pv',rfl,hj,K,E,H⟩:=hrel;obtain⟨ar,cr,rfl⟩:∃a c,kv'=.slice a rs.length c:=zR K.row;have r0:=K.c0;have hz:=H.size;have ht:=E.len HN;by_cases hl:j<rs.length
  ·have t:(j:Int)<(rs.length:Int):=Jo;obtain⟨p,hp⟩:∃p,rs[j]?=some p:=⟨_,yr hl⟩;obtain⟨i,hi,d,_⟩:=E.reach p (yB hp);obtain⟨gk,ck,L,hs,r⟩:=K.row.strs.lt Jo;obtain⟨rfl,rfl⟩:ar=some (Qa gk 0)/\cr=ck:=by injection L with x _ y;exact⟨x,y⟩
   have hc:=r j p hp;have A:=ho.below hC H;have R:=hg.below H;have hq:i<vs.length:=Jy A.ln
   have D:=zB (zKB P B C am cm ms.length _ vs U kv pv ks p i wr A hi R (HN.sz p (by rw[<-d];exact yB (HN.at' i hi))) (by rw[<-d];exact HN.idx hi));obtain⟨⟨Q,hd,F⟩,q,_⟩:=A.uns.2 i hq;clear F;have J:=zB (E.step HN HU hi (by rw[hp,d]));have X:=zB (fun(w1:JY)(hb:Qb wr w1)=>zFa w.heap.size 0 w.heap.size _ pv' rs (atV vs i).vu (atU U i).us w1 (K.below hb) (fun x hx=>HN.sz x (HU i hi x hx)) (Jy ((zA hh) i hi)) (Jy hb.size) (Q.below hb) (fun g e=>⟨Jy (q g e),fun e2=>by have:=q g e;have:=(K.row.lt g e2).1;omega,fun e2=>by have:=q g e;have:=(K.plt g e2).1;omega⟩));obtain⟨a5,c5,Y,_⟩:=Q;obtain⟨a6,c6,o,_⟩:=hd;rw[Y] at D X;rw[o] at D;have m:=zB (yK (fun g e=>(K.row.lt g e).1) (fun g e=>(K.plt g e).1));clear L hp d r A R q Y o;go_wp2_with (first|(go_at_call 97;(with_reducible refine(zA D).mono ?_);rintro e w2 ⟨rfl,hb2⟩;have T:=zB hb2;have s:=zB (X w2 hb2);clear hb2 D X));rw[zPa];go_wp2_with (first|(go_at_call 132;(with_reducible refine(zA s).mono ?_);rintro e w3 ⟨rfl,kv3,pv3,hs3,he3,hk3,hp3⟩;have he:=zB hs3;have Z:Qb w w3:=((H.trans (T.mono Jo)).trans (he3.below (B:=w.heap.size) (Jy T.size) (yk _) m.1 m.2));clear hs3 he3 hk3 hp3 s));exact⟨⟨j+1,_,_,_,Jn,by have:=J.nd;exact zPb rs _ Jo,he,J,Z⟩,Ji⟩
  ·have O:=zB (E.fin HN Jo hk);have t:¬ (j:Int)<(rs.length:Int):=Jo;have N:=zB (zJq w.heap.size 0 w.heap.size _ pv' rs (atM ms k).n wr K (HN.sz _ (yB (HN.at' k hk))));obtain⟨bA,V,rfl,f,W⟩:∃b V,am=some (Qa b V)/\zLl w b V ms/\b<w.heap.size:=by
    rcases zA HM with h|h
    ·omega
    ·exact h
   obtain⟨m0,m1⟩:=f k hk;have e0:=(H.cell (p:=(Qa bA (V+k*2))) W).trans m0;have f0:=Jc H ha d0;clear m0 m1 f;go_wp2_with (first|(go_at_call 131;(with_reducible refine(zA N).mono ?_);rintro e w2 ⟨⟨v,rfl,hv⟩,hx⟩;obtain rfl:=hx.symm;have HV:=zB hv;clear hv hx));go_ret;refine⟨⟨!v,rfl,?_⟩,H⟩;have hv:=zA HV;have hf:=zA O;unfold zE9 at hv ⊢;cases v<;>simp_all
theorem zKC{nm:ByteArray->Nat}{T T':Nat->List OpR}:∀(us:List JZ)(acc:List OpR),(∀u∈us,T (nm u)=T' (nm u))->zDg nm T acc us=zDg nm T' acc us
 |[],_,_=>rfl
 |u::r,acc,h=>by
  simp only[zDg];rw[h u (by simp),zKC r _ (fun x hx=>h x (by simp[hx]))]
theorem zOL{nm:ByteArray->Nat}{T:Nat->List OpR}{x:OpR}:∀(us:List JZ)(acc:List OpR),x∈zDg nm T acc us->x∈acc\/∃u∈us,x∈T (nm u)
 |[],_,h=>yS h
 |u::r,acc,h=>by
  simp only[zDg] at h;split at h
  ·exact yS h
  ·rcases zOL r _ h with h|⟨u',h1,h2⟩
   ·rcases(Zu _ _).1 h with h|h
    ·exact yS h
    ·exact yU ⟨u,Js,h⟩
   ·exact yU ⟨u',by simp[h1],h2⟩
def BrE(n:Nat)(nm:ByteArray->Nat)(U:List UnR)(T:Nat->List OpR):Prop:=∀i,i<n->T i=zDg nm T (za [] (atU U i).os) (atU U i).us
def RkE(n:Nat)(nm:ByteArray->Nat)(U:List UnR)(rk:Nat->Nat):Prop:=(∀i,i<n->∀u∈(atU U i).us,nm u<n/\rk (nm u)<rk i)/\∀i,i<n->rk i<n
def brN(nm:ByteArray->Nat)(U:List UnR):Nat->Nat->List OpR
 |0,_=>[]
 |r+1,i=>zDg nm (brN nm U r) (za [] (atU U i).os) (atU U i).us
theorem zOM{n:Nat}{nm:ByteArray->Nat}{U:List UnR}{rk:Nat->Nat}(h:RkE n nm U rk):∀r i,i<n->rk i<r->brN nm U r i=brN nm U (r+1) i
 |0,i,_,hr=>Jo
 |r+1,i,hi,hr=>by
  show zDg nm (brN nm U r) _ _=zDg nm (brN nm U (r+1)) _ _;refine zKC _ _ (fun u hu=>?_);obtain⟨h1,h2⟩:=h.1 i hi u hu;exact zOM h r (nm u) h1 Jo
theorem zXO(h:RkE n nm U rk):∃T,BrE n nm U T:=
 ⟨brN nm U n,fun i hi=>zOM h n i hi (h.2 i hi)⟩
theorem BrE.nd(h:BrE n nm U T)(hi:i<n):(T i).Nodup:=by
 rw[h i hi];exact zPt _ _ _ _ (zA2 _ _ Js)
theorem BrE.sub{n:Nat}{nm:ByteArray->Nat}{U:List UnR}{T:Nat->List OpR}{rk:Nat->Nat}(h:BrE n nm U T)(hr:RkE n nm U rk)(hU:n<=U.length):∀r i,i<n->rk i<r->∀o∈T i,o∈Zm U
 |0,i,_,hr'=>Jo
 |r+1,i,hi,hr'=>fun o ho=>by
  rw[h i hi] at ho;rcases zOL _ _ ho with ho|⟨u,hu,ho⟩
  ·rcases(Zu _ _).1 ho with ho|ho
   ·cases ho
   ·exact List.mem_flatMap.2 ⟨_,zGs Jo,ho⟩
  ·obtain⟨h1,h2⟩:=hr.1 i hi u hu;exact BrE.sub h hr hU r (nm u) h1 Jo o ho
theorem BrE.near{n:Nat}{nm:ByteArray->Nat}{U U':List UnR}{S T:Nat->List OpR}{rk:Nat->Nat}(h:BrE n nm U' T)(hr:RkE n nm U' rk)(hS:∀i,i<n->S i=zAB nm S (za [] (atU U i).os) (atU U i).us)(hU:∀i,i<n->(atU U' i).os=(atU U i).os/\(atU U' i).us=dst (atU U i).us):∀r i,i<n->rk i<r->zRy (S i) (T i)
 |0,i,_,hr'=>Jo
 |r+1,i,hi,hr'=>by
  have e1:S i=zAB nm S (za [] (atU U' i).os) (atU U' i).us:=by
   rw[(hU i hi).1,(hU i hi).2,zOl];exact hS i hi
  rw[e1,h i hi];refine zK0 _ _ _ (fun u hu=>?_) ⟨fun _=>rfl,fun x=>x⟩;obtain⟨h1,h2⟩:=hr.1 i hi u hu;refine⟨BrE.near h hr hS hU r (nm u) h1 Jo,?_,h.nd h1⟩;rw[hS _ h1];exact zFJ _ _ _ _ (zA2 _ _ Js)
structure ScM(w:JY)(C bs:Nat)(ms:List zH)(T:Nat->List OpR)(G:ByteArray->Option Value):Prop where
 mp:∃(m:Nat)(M:List Nat),Zx w bs m G/\m<=M.length/\M.Nodup/\∀j∈M,j<ms.length/\(G (atM ms j).n).isSome=true
 at':∀j,j<ms.length->∀x,G (atM ms j).n=some x->∃v,x=.agg #[v]/\zAo w C v (T j)/\∀g,v.ownBlock=some g->C<=g/\g<w.heap.size
 apt:∀i j,i<ms.length->j<ms.length->i≠j->∀v v',G (atM ms i).n=some (.agg #[v])->G (atM ms j).n=some (.agg #[v'])->∀g,v.ownBlock=some g->v'.ownBlock≠some g
theorem Zx.same(h:Zx w b n G)(hs:w'.heap[b]?=w.heap[b]?):Zx w' b n G:=by
 obtain⟨D,⟨es,clock,hb,F,h1,h2⟩,h⟩:=h;exact⟨D,⟨es,clock,hs.trans hb,F,h1,h2⟩,h⟩
def Dj(ms:List zH)(G:ByteArray->Option Value)(b:Nat)(kv:Value)(pv:Option Nat):Prop:=∀j,j<ms.length->∀v,G (atM ms j).n=some (.agg #[v])->Apt v b kv pv
theorem ScM.eff{o:Nat}(h:ScM w C bs ms T G)(hd:Dj ms G b kv pv)(he:Eff w w' b o kv pv)(H:bs<w.heap.size)(h1:bs≠b)(h2:kv.ownBlock≠some bs)(h3:pv≠some bs):ScM w' C bs ms T G:=by
 refine⟨?_,fun j hj x hx=>?_,h.apt⟩
 ·obtain⟨m,M,hm,hM⟩:=h.mp;exact⟨m,M,hm.same (he.blk bs H h1 h2 h3),hM⟩
 ·obtain⟨v,rfl,hv,hb⟩:=h.at' j hj x hx;have ha:=hd j hj v hx;have hz:=he.size;exact⟨v,rfl,zCj hv (fun g e=>he.blk g (hb g e).2 (ha g e).1 (ha g e).2.1 (ha g e).2.2),fun g e=>⟨(hb g e).1,Jy ((hb g e).2)⟩⟩
theorem ScM.below{w w':JY}{C bs:Nat}{ms:List zH}{T:Nat->List OpR}{G:ByteArray->Option Value}(h:ScM w C bs ms T G)(hb:Qb w w'):ScM w' C bs ms T G:=by
 refine⟨?_,fun j hj x hx=>?_,h.apt⟩
 ·obtain⟨m,M,hm,hM⟩:=h.mp;exact⟨m,M,hm.same (hb.block bs hm.lt),hM⟩
 ·obtain⟨v,rfl,hv,hg⟩:=h.at' j hj x hx;exact⟨v,rfl,hv.below hb,fun g e=>⟨(hg g e).1,by have:=(hg g e).2;have:=hb.size;omega⟩⟩
theorem ScM.lt{w:JY}{C bs:Nat}{ms:List zH}{T:Nat->List OpR}{G:ByteArray->Option Value}(h:ScM w C bs ms T G):bs<w.heap.size:=by
 obtain⟨m,M,hm,_⟩:=h.mp;exact hm.lt
theorem ScM.cnt(h:ScM w C bs ms T G):∃m,Zx w bs m G/\m<=ms.length:=by
 obtain⟨m,M,hm,h1,h2,h3⟩:=h.mp;have:=zBe M (List.range ms.length) h2 (fun j hj=>List.mem_range.2 (h3 j hj).1);rw[List.length_range] at this;exact⟨m,hm,Jo⟩
theorem ScM.put{w3:JY}{v:Value}(hN:zCM ms ks)(h:ScM w C bs ms T G)(hi:i<ms.length)(hg:G (atM ms i).n=none)(hC:bs<C)(hv:zAo w C v (T i))(hd:∀j,j<ms.length->∀v',G (atM ms j).n=some (.agg #[v'])->∀g,v.ownBlock=some g->v'.ownBlock≠some g)(K:∀g,v.ownBlock=some g->C<=g/\g<w.heap.size)(hk:zJ w w3 bs)(hm:∀m,Zx w bs m G->m<=ms.length->Zx w3 bs (m+1) (fun t'=>if t'.data=(atM ms i).n.data then some (.agg #[v]) else G t')):ScM w3 C bs ms T (fun t'=>if t'.data=(atM ms i).n.data then some (.agg #[v]) else G t'):=by
 have dat:∀{a b:JZ},a.data=b.data->a=b:=fun{a b} e=>by cases a;cases b;simp at e;rw[e]
 have hz:=hk.size;have same:∀g,C<=g/\g<w.heap.size->w3.heap[g]?=w.heap[g]?:=fun g hg=>hk.block g hg.2 Jo
 refine⟨?_,fun j hj x hx=>?_,fun a b ha hb Q x y hx hy g e=>?_⟩
 ·obtain⟨m,M,Y,h1,h2,h3⟩:=h.mp;have p:=zBe M (List.range ms.length) h2 (fun j hj=>List.mem_range.2 (h3 j hj).1);rw[List.length_range] at p;refine⟨m+1,i::M,hm m Y Jo,Jq,?_,fun j hj=>?_⟩
  ·rw[List.nodup_cons];exact⟨fun X=>(by have:=(h3 i X).2;rw[hg] at this;simp at this),h2⟩
  ·rcases List.mem_cons.1 hj with rfl|hj
   ·exact⟨hi,Js⟩
   ·refine⟨(h3 j hj).1,?_⟩;show(if _ then _ else _:Option Value).isSome=true;split
    ·rfl
    ·exact(h3 j hj).2
 ·have H:(if(atM ms j).n.data=(atM ms i).n.data then some (.agg #[v]) else G (atM ms j).n)=some x:=hx;by_cases e:(atM ms j).n.data=(atM ms i).n.data
  ·rw[yQ e] at H;have P:=hN.inj hj hi (dat e);subst P;injection H with H;exact⟨v,H.symm,zCj hv (fun g e=>same g (K g e)),fun g e=>⟨(K g e).1,Jy ((K g e).2)⟩⟩
  ·rw[yP e] at H;obtain⟨v',rfl,J,q⟩:=h.at' j hj x H;exact⟨v',rfl,zCj J (fun g e=>same g (q g e)),fun g e=>⟨(q g e).1,Jy ((q g e).2)⟩⟩
 ·have H:(if(atM ms a).n.data=(atM ms i).n.data then some (.agg #[v]) else G (atM ms a).n)=some (.agg #[x]):=hx;have k:(if(atM ms b).n.data=(atM ms i).n.data then some (.agg #[v]) else G (atM ms b).n)=some (.agg #[y]):=hy;by_cases e1:(atM ms a).n.data=(atM ms i).n.data
  ·have i1:=hN.inj ha hi (dat e1);by_cases e2:(atM ms b).n.data=(atM ms i).n.data
   ·exact yR (i1.trans (hN.inj hb hi (dat e2)).symm) Q
   ·rw[yQ e1] at H;rw[yP e2] at k;have ex:v=x:=Ju H
    subst ex;exact hd b hb y k g e
  ·rw[yP e1] at H;by_cases e2:(atM ms b).n.data=(atM ms i).n.data
   ·rw[yQ e2] at k;have ey:v=y:=Ju k
    subst ey;exact fun e3=>hd a ha x H g e3 e
   ·rw[yP e2] at k;exact h.apt a b ha hb Q x y H k g e
theorem zV4(w:JY):(zeroValue 63).run prog w=.ok (.agg #[.slice none 0 0]) w:=Jk
theorem zRO(x:Value)(w:JY):(Instr.field 63 (.agg #[x]) 0).run prog w=.ok x w:=Jk
theorem zCo.same{w w':JY}{b o B:Nat}{kv:Value}{pv:Option Nat}{ks:List JZ}(h:zCo w b o B kv pv ks)(hs:∀i,i=b\/kv.ownBlock=some i\/pv=some i->w'.heap[i]?=w.heap[i]?):zCo w' b o B kv pv ks:=by
 have hc:=fun q=>yu (w:=w) (w':=w') (a:=Qa b q) (hs b (yS rfl))
 have hf:=fun q=>yD (w:=w) (w':=w') (a:=Qa b q) (hs b (yS rfl))
 exact⟨(hc o).trans h.c0,(hc _).trans h.c1,(hf o).trans h.f0,(hf _).trans h.f1,zCj h.row (fun g e=>hs g (yU (yS e))),h.mp.imp id (fun⟨bm,h1,h2,h3⟩=>⟨bm,h1,h2,h3.same (hs bm (yU (yU h1)))⟩),h.nk,h.np,h.nn⟩
theorem zCO.same{G:OpR->Option Value}(h:zCO w b n G)(hs:w'.heap[b]?=w.heap[b]?):zCO w' b n G:=by
 obtain⟨D,⟨es,clock,hb,F,h1,h2⟩,h⟩:=h;exact⟨D,⟨es,clock,hs.trans hb,F,h1,h2⟩,h⟩
theorem zD3.same{w w':JY}{b o B:Nat}{kv:Value}{pv:Option Nat}{ks:List OpR}(h:zD3 w b o B kv pv ks)(hs:∀i,i=b\/kv.ownBlock=some i\/pv=some i->w'.heap[i]?=w.heap[i]?):zD3 w' b o B kv pv ks:=by
 have hc:=fun q=>yu (w:=w) (w':=w') (a:=Qa b q) (hs b (yS rfl))
 have hf:=fun q=>yD (w:=w) (w':=w') (a:=Qa b q) (hs b (yS rfl))
 exact⟨(hc o).trans h.c0,(hc _).trans h.c1,(hf o).trans h.f0,(hf _).trans h.f1,zCj h.row (fun g e=>hs g (yU (yS e))),h.mp.imp id (fun⟨bm,h1,h2,h3⟩=>⟨bm,h1,h2,h3.same (hs bm (yU (yU h1)))⟩),h.nk,h.np,h.nn⟩
def zTc(w:JY)(C bs:Nat)(ms:List zH)(T:Nat->List OpR)(rk:Nat->Nat)(G:ByteArray->Option Value)(i:Nat)(e:Ending)(w':JY):Prop:=
 ∃v G',e=.returned (.agg #[v])/\G' (atM ms i).n=some (.agg #[v])/\ScM w' C bs ms T G'/\w.grownBy w' (some bs)/\(∀j,j<ms.length->∀x,G (atM ms j).n=some x->G' (atM ms j).n=some x)/\(∀j,j<ms.length->rk i<rk j->G' (atM ms j).n=G (atM ms j).n)/\∀j,j<ms.length->∀x,G' (atM ms j).n=some (.agg #[x])->G (atM ms j).n=some (.agg #[x])\/∀g,x.ownBlock=some g->w.heap.size<=g
structure ScH(w:JY)(B C P bs:Nat)(am:Option Addr)(cm:Nat)(ms:List zH)(v1:Value)(vs:List UvR)(U:List UnR)(kv:Value)(pv:Option Nat)(ks:List JZ):Prop where
 pg:PgC w B C P am cm ms.length v1 vs U
 nm:zCo w P 2 C kv pv ks
 c4:w.cell? (Qa P 4)=some (.map (some bs))
 hC:C<=w.heap.size
 hP:P<B
 hbs:bs<B
 hBC:B<=C
 hne:bs≠P
theorem ScH.keep{w w':JY}{B C P bs:Nat}{am:Option Addr}{cm:Nat}{ms:List zH}{v1:Value}{vs:List UvR}{U:List UnR}{kv:Value}{pv:Option Nat}{ks:List JZ}(h:ScH w B C P bs am cm ms v1 vs U kv pv ks)(hg:w.grownBy w' (some bs)):ScH w' B C P bs am cm ms v1 vs U kv pv ks:=by
 have hC:=h.hC;have k:=h.hbs;have K:=h.hBC;have H:=h.pg.lt;have hz:=hg.size;have sm:∀i,i<w.heap.size->i≠bs->w'.heap[i]?=w.heap[i]?:=fun i h1 h2=>hg.block i h1 (fun e=>h2 (by injection e))
 have kc:=fun q=>yu (w:=w) (w':=w') (a:=Qa P q) (sm P H (Ne.symm h.hne))
 exact⟨h.pg.keep hz (fun i h1 h2=>sm i Jo Jo) (kc 0) (kc 1),h.nm.same (fun i hi=>by
  rcases hi with rfl|hi|hi
  ·exact sm _ H (Ne.symm h.hne)
  ·have:=h.nm.row.lt i hi;exact sm i this.2 Jo
  ·have:=h.nm.plt i hi;exact sm i this.2 Jo),(kc 4).trans h.c4,Jo,h.hP,h.hbs,h.hBC,h.hne⟩
structure ScI(w wr:JY)(R C bs:Nat)(ms:List zH)(T:Nat->List OpR)(rk:Nat->Nat)(G:ByteArray->Option Value)(i:Nat)(U:List UnR)(acc:List OpR)(kv:Value)(pv:Option Nat)(G':ByteArray->Option Value):Prop where
 qs:zD3 wr R 0 R kv pv acc
 sc:ScM wr C bs ms T G'
 gr:w.grownBy wr (some bs)
 dj:Dj ms G' R kv pv
 hi:∀j,j<ms.length->rk i<=rk j->G' (atM ms j).n=G (atM ms j).n
 ol:∀j,j<ms.length->∀x,G' (atM ms j).n=some (.agg #[x])->G (atM ms j).n=some (.agg #[x])\/∀g,x.ownBlock=some g->w.heap.size<g
 ps:∀j,j<ms.length->∀x,G (atM ms j).n=some x->G' (atM ms j).n=some x
 rb:wr.cell? (Qa w.heap.size 0)=some (.slice none 0 0)/\wr.frozen? (Qa w.heap.size 0)=false
 su:∀o∈acc,o∈Zm U
 nd:acc.Nodup
 hR:w.heap.size<R
 hb:bs<w.heap.size
theorem ScI.dj'{w6:JY}{j:Nat}{G'':ByteArray->Option Value}(h:ScI w wr R C bs ms T rk G i U acc kv pv G')(h6:∀j,j<ms.length->∀x,G'' (atM ms j).n=some (.agg #[x])->G' (atM ms j).n=some (.agg #[x])\/∀g,x.ownBlock=some g->wr.heap.size<=g):Dj ms G'' R kv pv:=fun j hj v hv g e=>by
 rcases h6 j hj v hv with h1|h1
 ·exact h.dj j hj v h1 g e
 ·have hg:=h1 g e;refine⟨?_,fun e2=>?_,fun e2=>?_⟩
  ·have:=h.qs.lt;omega
  ·have:=(h.qs.row.lt g e2).2;omega
  ·have:=(h.qs.plt g e2).2;omega
theorem ScI.q6{w6:JY}(h:ScI w wr R C bs ms T rk G i U acc kv pv G')(hg:wr.grownBy w6 (some bs)):zD3 w6 R 0 R kv pv acc:=by
 have hR:=h.hR;have hb:=h.hb;refine h.qs.same (fun q hq=>?_);rcases hq with rfl|hq|hq
 ·exact hg.block _ h.qs.lt (fun e=>by injection e with e;omega)
 ·have:=h.qs.row.lt q hq;exact hg.block q this.2 (fun e=>by injection e with e;omega)
 ·have:=h.qs.plt q hq;exact hg.block q this.2 (fun e=>by injection e with e;omega)
theorem ScI.step{w wr w6 w7:JY}{R C bs:Nat}{ms:List zH}{T:Nat->List OpR}{rk:Nat->Nat}{G:ByteArray->Option Value}{i j:Nat}{U:List UnR}{acc:List OpR}{kv:Value}{pv:Option Nat}{G' G'':ByteArray->Option Value}(h:ScI w wr R C bs ms T rk G i U acc kv pv G')(hj:rk j<rk i)(h3:ScM w6 C bs ms T G'')(hg:wr.grownBy w6 (some bs))(h5:∀q,q<ms.length->rk j<rk q->G'' (atM ms q).n=G' (atM ms q).n)(h6:∀q,q<ms.length->∀x,G'' (atM ms q).n=some (.agg #[x])->G' (atM ms q).n=some (.agg #[x])\/∀g,x.ownBlock=some g->wr.heap.size<=g)(Q:∀q,q<ms.length->∀x,G' (atM ms q).n=some x->G'' (atM ms q).n=some x)(hT:∀o∈T j,o∈Zm U)(hp:ZT w6 R 0 R kv pv (za acc (T j)) w7):∃kv7 pv7,ScI w w7 R C bs ms T rk G i U (za acc (T j)) kv7 pv7 G'':=by
 obtain⟨kv7,pv7,q7,e7,k7,p7⟩:=hp;have hR:=h.hR;have hb:=h.hb;have y:=h.qs.lt;have Y:=hg.size;have X:=h.gr.size;have hd:=h.dj' (w6:=w6) (j:=j) h6;have nkb:∀q,q<R->kv.ownBlock≠some q:=fun q hq e=>Jy ((h.qs.row.lt q e).1)
 have npb:∀q,q<R->pv≠some q:=fun q hq e=>Jy ((h.qs.plt q e).1)
 refine⟨kv7,pv7,q7,h3.eff hd e7 Jo Jo (nkb bs Jo) (npb bs Jo),?_,?_,?_,?_,fun q hq x hx=>Q q hq x (h.ps q hq x hx),?_,?_,zA2 _ _ h.nd,hR,hb⟩
 ·exact⟨e7.os.trans (hg.os.trans h.gr.os),e7.tape.trans (hg.tape.trans h.gr.tape),e7.output.trans (hg.output.trans h.gr.output),Jy e7.size,fun q hq H=>(e7.blk q Jo Jo (nkb q Jo) (npb q Jo)).trans ((hg.block q Jo H).trans (h.gr.block q hq H))⟩
 ·intro q hq v hv;obtain⟨v',e1,_,K⟩:=h3.at' q hq _ hv;have e2:v=v':=Ju e1
  subst e2;exact Apt.step (hd q hq v hv) (fun g e=>(K g e).2) k7 p7
 ·exact fun q hq hr=>(h5 q hq Jo).trans (h.hi q hq hr)
 ·intro q hq x hx;rcases h6 q hq x hx with h1|h1
  ·exact h.ol q hq x h1
  ·exact yU (fun g e=>Jy (h1 g e))
 ·have k:w7.heap[w.heap.size]?=wr.heap[w.heap.size]?:=(e7.blk w.heap.size Jo Jo (nkb _ hR) (npb _ hR)).trans (hg.block _ Jo (fun e=>by injection e with e;omega));exact⟨(yu (w:=wr) (w':=w7) (a:=Qa w.heap.size 0) k).trans h.rb.1,(yD (w:=wr) (w':=w7) (a:=Qa w.heap.size 0) k).trans h.rb.2⟩
 ·intro o ho;rcases(Zu _ _).1 ho with ho|ho
  ·exact h.su o ho
  ·exact hT o ho
theorem ScI.len(h:ScI w wr R C bs ms T rk G i U acc kv pv G')(hA:(Zm U).length<=400000):acc.length<=400000:=
 yw (zBe acc _ h.nd h.su) hA
theorem ScM.set{X:Nat}(h:ScM w C bs ms T G)(hX:bs≠X)(hd:∀j,j<ms.length->∀v,G (atM ms j).n=some (.agg #[v])->v.ownBlock≠some X)(V:Value):ScM (w.setCell (Qa X 0) V) C bs ms T G:=by
 have hz:(w.setCell (Qa X 0) V).heap.size=w.heap.size:=Jt;have sm:∀g,g≠X->(w.setCell (Qa X 0) V).heap[g]?=w.heap[g]?:=fun g hg=>je _ _ _ _ (Ju hg)
 refine⟨?_,fun j hj x hx=>?_,h.apt⟩
 ·obtain⟨m,M,hm,hM⟩:=h.mp;exact⟨m,M,hm.same (sm bs hX),hM⟩
 ·obtain⟨v,rfl,hv,hb⟩:=h.at' j hj x hx;exact⟨v,rfl,zCj hv (fun g e=>sm g (fun e2=>hd j hj v hx (by rw[e,e2]))),fun g e=>⟨(hb g e).1,by rw[hz];exact(hb g e).2⟩⟩
theorem ScI.fin(hN:zCM ms ks)(h:ScI w wr R C bs ms T rk G i U (T i) kv pv G')(hi:i<ms.length)(hn:ms.length<=100)(hg:G (atM ms i).n=none)(hG:ScM w C bs ms T G)(D:bs<C)(hC:C<=w.heap.size):∃w9,(Instr.mapUpdate 117 (.map (some bs)) (Qs (atM ms i).n) (.agg #[kv])).run prog (wr.alloc (.cells #[kv] 63)).drew=.ok () w9/\w9.cell? (Qa w.heap.size 0)=some (.slice none 0 0)/\w9.frozen? (Qa w.heap.size 0)=false/\w9.cell? (Qa wr.heap.size 0)=some kv/\w.heap.size<wr.heap.size /\
   zTc w C bs ms T rk G i (.returned (.agg #[kv])) (w9.setCell (Qa w.heap.size 0) kv):=by
 have hR:=h.hR;have hb:=h.hb;have M:=h.qs.lt;have I:=h.gr.size;have P:w.heap.size<wr.heap.size:=Jo;have u:(atM ms i).n.size<=maxLen:=hN.sz _ (yB (hN.at' i hi));obtain⟨W8,X⟩:=Jx ((wr.alloc (.cells #[kv] 63)).drew);have H:Qb wr W8:=by rw[X];exact(zC _ _).drew
 have l:W8.heap.size=wr.heap.size+1:=by rw[X];simp
 have k8:W8.cell? (Qa wr.heap.size 0)=some kv:=by rw[X];show(wr.alloc (.cells #[kv] 63)).cell? (Qa wr.heap.size 0)=some kv;simp[go_sem]
 rw[<-X];have A:=h.sc.below H;obtain⟨m,hm,f⟩:=A.cnt;obtain⟨w9,J,_,k⟩:=hm.update (ty:=117) underlying117 Jm (t:=(atM ms i).n) u (.agg #[kv]);have F:=k.size;have d:G' (atM ms i).n=none:=(h.hi i hi (yk _)).trans hg;have V:∀g,kv.ownBlock=some g->R<=g/\g<wr.heap.size:=h.qs.row.lt;have B:=ScM.put (v:=kv) hN A hi d D ((h.qs.row.base Jo).below H) (fun j hj v' K g e e2=>(h.dj j hj v' K g e2).2.1 e) (fun g e=>Jy (V g e)) k (fun m' E L=>by
  obtain⟨w9',Q,h1,_⟩:=E.update (ty:=117) underlying117 Jm (t:=(atM ms i).n) u (.agg #[kv])
  rw[J] at Q
  injection Q with _ e
  rw[e];exact h1)
 have c9:=fun(b:Nat)(hb:b<W8.heap.size)(y:b≠bs)(q:Nat)=>k.cell hb y q
 have c8:=fun q=>H.cell (p:=Qa w.heap.size q) P
 have dat:∀{a b:JZ},a.data=b.data->a=b:=fun{a b} e=>by cases a;cases b;simp at e;rw[e]
 refine⟨w9,J,(c9 _ Jo Jo 0).trans ((c8 0).trans h.rb.1),(k.frozen Jo Jo 0).trans ((H.frozen (p:=Qa w.heap.size 0) P).trans h.rb.2),(c9 _ Jo Jo 0).trans k8,P,?_⟩;refine⟨kv,_,rfl,?_,B.set Jo ?_ kv,?_,?_,?_,?_⟩
 ·exact yQ rfl
 ·intro j hj v hv e;have K:(if(atM ms j).n.data=(atM ms i).n.data then some (.agg #[kv]) else G' (atM ms j).n)=some (.agg #[v]):=hv;by_cases e1:(atM ms j).n.data=(atM ms i).n.data
  ·rw[yQ e1] at K;have e2:kv=v:=Ju K
   rw[<-e2] at e;have:=(V _ e).1;omega
  ·rw[yP e1] at K;rcases h.ol j hj v K with h1|h1
   ·obtain⟨v',e3,_,c⟩:=hG.at' j hj _ h1;have e4:v=v':=Ju e3
    subst e4;have:=(c _ e).2;omega
   ·have:=h1 _ e;omega
 ·refine⟨k.os.trans (H.os.trans h.gr.os),k.tape.trans (H.tape.trans h.gr.tape),k.output.trans (H.output.trans h.gr.output),by simp[World.setCell];omega,fun q hq y=>?_⟩;rw[je _ _ _ _ (by simp;omega)];exact(k.block q Jo (fun e=>y (by rw[e]))).trans ((H.block q Jo).trans (h.gr.block q hq y))
 ·intro j hj x hx;show(if(atM ms j).n.data=(atM ms i).n.data then some (.agg #[kv]) else G' (atM ms j).n)=_;rw[yP (fun e=>by have:=hN.inj hj hi (dat e);subst this;rw[hg] at hx;cases hx)];exact h.ps j hj x hx
 ·intro j hj hr;show(if(atM ms j).n.data=(atM ms i).n.data then some (.agg #[kv]) else G' (atM ms j).n)=_;rw[yP (fun e=>by have:=hN.inj hj hi (dat e);subst this;omega)];exact h.hi j hj Jo
 ·intro j hj x hx;have Y:(if(atM ms j).n.data=(atM ms i).n.data then some (.agg #[kv]) else G' (atM ms j).n)=some (.agg #[x]):=hx;by_cases e1:(atM ms j).n.data=(atM ms i).n.data
  ·rw[yQ e1] at Y;have e2:kv=x:=Ju Y
   subst e2;exact yU (fun g e=>Jy ((V g e).1))
  ·rw[yP e1] at Y;rcases h.ol j hj x Y with h1|h1
   ·exact yS h1
   ·exact yU (fun g e=>Jy (h1 g e))
theorem ScI.start{W3 w5:JY}{os:List OpR}{t:TypeId}(hG:ScM w C bs ms T G)(hb:Qb w W3)(hz:w.heap.size<W3.heap.size)(k:W3.cell? (Qa w.heap.size 0)=some (.slice none 0 0)/\W3.frozen? (Qa w.heap.size 0)=false)(hu:∀o∈os,o∈Zm U)(hp:ZT (W3.alloc (.cells #[.slice none 0 0,.map none] t)) W3.heap.size 0 W3.heap.size (.slice none 0 0) none (za [] os) w5):∃kv pv,ScI w w5 W3.heap.size C bs ms T rk G i U (za [] os) kv pv G/\Qb w w5:=by
 obtain⟨kv7,pv7,q7,e7,k7,p7⟩:=hp;have q:=hG.lt;have H:Qb W3 w5:=(zC _ _).trans (e7.below (B:=W3.heap.size) Js (yk _) (fun g e=>by simp[Value.ownBlock] at e) (fun g e=>by simp at e));have h:Qb w w5:=hb.trans (H.mono Jo);refine⟨kv7,pv7,⟨q7,hG.below h,zE h _,?_,fun _ _ _=>rfl,fun _ _ x hx=>yS hx,fun _ _ x hx=>hx,⟨Jc H hz k.1,(H.frozen (p:=Qa w.heap.size 0) hz).trans k.2⟩,?_,zA2 _ _ Js,hz,q⟩,h⟩
 ·intro j hj v hv g e;obtain⟨v',e1,_,K⟩:=hG.at' j hj _ hv;have e2:v=v':=Ju e1
  subst e2;have:=(K g e).2;exact⟨Jo,fun e2=>Jy ((q7.row.lt g e2).1),fun e2=>Jy ((q7.plt g e2).1)⟩
 ·intro o ho;rcases(Zu _ _).1 ho with ho|ho
  ·cases ho
  ·exact hu o ho
theorem zRP(us:List JZ)(h:500<acc.length):zDg nm T acc us=acc:=by
 cases us with
 |nil=>rfl
 |cons u r=>simp only[zDg];rw[yQ h]
theorem zVS{us:List JZ}{q:Nat}{u:JZ}(hu:us[q]?=some u)(h:¬ 500<acc.length):zDg nm T acc (us.drop q)=zDg nm T (za acc (T (nm u))) (us.drop (q+1)):=by
 have hq:q<us.length:=(jc.1 hu).1;have e:us.drop q=u::us.drop (q+1):=by
  rw[List.drop_eq_getElem_cons hq];congr 1;rw[yr hq] at hu;injection hu
 rw[e];simp only[zDg];rw[yP h]
theorem zIO(P bs m n c:Nat)(a:Option Addr)(t:JZ)(G:ByteArray->Option Value)(w:JY)(Q:P<w.heap.size)(c4:w.cell? (Qa P 4)=some (.map (some bs)))(hm:Zx w bs m G)(hg:G t=some (.agg #[.slice a n c]))(q:t.size<=maxLen):Calls prog 53 #[Qp P,Qs t] w fun e w'=>e=.returned (.agg #[.slice a n c])/\Qb w w':=by
 obtain⟨W1,k⟩:=Jx (w.alloc (.cells #[.slice none 0 0] 63));have K:Qb w W1:=by rw[k];exact zC _ _
 have h:=(hm.same (K.block bs hm.lt)).look (ty:=117) underlying117 (zV4 W1) q;rw[hg] at h;have H:(Instr.lookup 117 (.map (some bs)) (Qs t) true).run prog W1=.ok (.tuple #[.agg #[.slice a n c],.bool true]) W1:=h;rw[k] at H;clear h hm hg k K;go_enter func53,ntmps53;go_wp2_with fail;refine yN (v:=.agg #[.slice a n c]) ?res rfl ⟨rfl,(zC _ _).alloc Js _⟩;case res=>simp[results,results53,go_sem]
theorem zIP(B C P bs:Nat)(am:Option Addr)(cm:Nat)(ms:List zH)(v1:Value)(vs:List UvR)(U:List UnR)(kv:Value)(pv:Option Nat)(ks:List JZ)(T:Nat->List OpR)(rk:Nat->Nat)(hn:ms.length<=100)(hN:zCM ms ks)(hR:RkE ms.length (nmF ms) U rk)(hT:BrE ms.length (nmF ms) U T)(hA:(Zm U).length<=400000)(hF:∀o∈Zm U,zEs o)(h3:∀i,i<ms.length->(atU U i).us.length<=20001):∀(r i:Nat),i<ms.length->rk i<r->∀(w:JY)(G:ByteArray->Option Value),ScH w B C P bs am cm ms v1 vs U kv pv ks->ScM w C bs ms T G ->
  Calls prog 53 #[Qp P,Qs (atM ms i).n] w (zTc w C bs ms T rk G i):=by
 intro r;induction r with
 |zero=>intro i _ h;omega
 |succ r ih=>
  intro i hi H1 w G hH hG;have hy:=hH.pg.lt;have c4:=hH.c4;have O:(atM ms i).n.size<=maxLen:=hN.sz _ (yB (hN.at' i hi));obtain⟨m,hm,Hx⟩:=hG.cnt;obtain⟨W1,Y⟩:=Jx (w.alloc (.cells #[.slice none 0 0] 63));have W:Below w.heap.size w W1:=by rw[Y];exact zC _ _
  have Hl:W1.heap.size=w.heap.size+1:=by rw[Y];simp
  have d4:=Jc W hy c4;have J:=(hm.same (W.block bs hm.lt)).look (ty:=117) underlying117 (zV4 W1) O;have r1:W1.cell? (Qa w.heap.size 0)=some (.slice none 0 0):=by rw[Y];simp[go_sem]
  have r2:W1.frozen? (Qa w.heap.size 0)=false:=by rw[Y];simp[go_sem]
  have Hy:=zB Y;have H0:=zB W;obtain⟨t,ht⟩:=Jx ((atM ms i).n);have hK:=zB ht;rw[<-ht] at J O;cases hgt:G t with
  |some x=>
   obtain⟨v,rfl,hv,Hq⟩:=hG.at' i hi x (by rw[<-ht];exact hgt);obtain⟨a,c,rfl,_⟩:=id hv.ops;rw[<-ht];go_call zIO P bs m _ c a t G w hy c4 hm hgt O as e w' ⟨rfl,hb⟩;exact⟨_,G,rfl,by rw[<-ht];exact hgt,hG.below hb,zE hb _,fun _ _ _ h=>h,fun _ _ _=>rfl,fun _ _ _ h=>yS h⟩
  |none=>
   rw[hgt] at J;have hs:(Instr.lookup 117 (.map (some bs)) (Qs t) true).run prog W1=.ok (.tuple #[.agg #[.slice none 0 0],.bool false]) W1:=J;rw[Y] at hs;have hD:G (atM ms i).n=none:=by rw[<-ht];exact hgt
   obtain⟨W2,d⟩:=Jx ((w.alloc (.cells #[.slice none 0 0] 63)).alloc (.cells #[.slice none 0 0] 63));have hE:Below w.heap.size w W2:=by rw[d];exact(zC _ _).alloc Js _
   have Hs:W2.heap.size=w.heap.size+2:=by rw[d];simp
   have s1:W2.cell? (Qa w.heap.size 0)=some (.slice none 0 0):=by rw[d];simp[go_sem]
   have s2:W2.frozen? (Qa w.heap.size 0)=false:=by rw[d];simp[go_sem]
   have S:=hH.keep (zE hE (some bs));have h9:i<vs.length:=Jy hH.pg.ln
   have HU:=zB (zKB P B C am cm ms.length v1 vs U kv pv ks t i W2 S.pg hi S.nm O (by rw[ht];exact hN.idx hi));obtain⟨⟨hZ,E,He⟩,Hf,s⟩:=S.pg.uns.2 i h9;obtain⟨us,V⟩:=Jx ((atU U i).us);obtain⟨os,f⟩:=Jx ((atU U i).os);obtain⟨au,cu,R,Hj⟩:=hZ;obtain⟨ao,co,I,hU⟩:=id E;rw[R,I] at HU;rw[I] at E s;rw[<-V] at HU R;rw[<-f] at HU E s I;have hC:=hH.hC;have Hv:=hH.hBC;have Hn:=hH.hbs;have hP:Hid (∀o∈os,o∈Zm U):=fun o ho=>List.mem_flatMap.2 ⟨_,zGs (i:=i) (Jy hH.pg.uns.1),by rw[<-f];exact ho⟩
   have Hp:os.length<=400000:=by
    have h1:∀(l:List UnR)(u:UnR),u∈l->u.os.length<=(Zm l).length:=by
     intro l;induction l with
     |nil=>intro u h;cases h
     |cons x r ih=>
      intro u h;show _<=(x.os++Zm r).length;rw[yq];rcases List.mem_cons.1 h with rfl|h
      ·omega
      ·have:=ih u h;omega
    have:=h1 U _ (zGs (i:=i) (Jy hH.pg.uns.1));rw[<-f] at this;omega
   obtain⟨bd,h7⟩:=Jx ((atV vs i).b);rw[<-h7] at HU;have Z:=zB (fun(w3:JY)(Q:Below W2.heap.size W2 w3)=>show Calls prog 98 #[Qp (w3.heap.size+1),.slice ao os.length co] ((w3.alloc (.cells #[.slice au us.length cu,.slice ao os.length co,Qs bd] 89)).alloc (.cells #[.slice none 0 0,.map none] 173)) (fun e w'=>e=.returned (.tuple #[])/\∃kv0 pv0,ScI w w' (w3.heap.size+1) C bs ms T rk G i U (za [] os) kv0 pv0 G/\w'.cell? (Qa w3.heap.size 0)=some (.slice au us.length cu)) from(by
    have Hm:=Q.size
    obtain⟨W3,L⟩:=Jx (w3.alloc (.cells #[.slice au us.length cu,.slice ao os.length co,Qs bd] 89))
    have Ha:W3.heap.size=w3.heap.size+1:=by rw[L];simp
    have N:Below w3.heap.size w3 W3:=by rw[L];exact zC _ _
    have ku:W3.cell? (Qa w3.heap.size 0)=some (.slice au us.length cu):=by rw[L];simp[go_sem]
    rw[<-L,<-Ha]
    have Hk:Below w.heap.size w W3:=(hE.trans (Q.mono Jo)).trans (N.mono Jo)
    go_call zIL W3.heap.size 0 W3.heap.size _ none [] (.slice ao os.length co) os (W3.alloc (.cells #[.slice none 0 0,.map none] 173)) (zD3.new W3 _ _) (fun x hx=>hF x (hP x hx)) Jq Js (((E.below Q).below N).below (zC _ _)) (fun g e=>⟨Jy (s g e),Jb,Js⟩) as e w5 ⟨rfl,hp⟩
    have Hg:=(Jc Q Jh s1)
    have Hh:=((Q.frozen (p:=Qa w.heap.size 0) (Jo:w.heap.size<W2.heap.size)).trans s2)
    have hY:=hp
    obtain⟨kv0,pv0,hI,_⟩:=ScI.start (U:=U) (rk:=rk) (i:=i) hG Hk Jo ⟨Jc N Jh Hg,(N.frozen (p:=Qa w.heap.size 0) (Jo:w.heap.size<w3.heap.size)).trans Hh⟩ hP hp
    obtain⟨_,_,_,e7,_,_⟩:=hY
    refine⟨rfl,kv0,pv0,hI,?_⟩
    have hW:Below W3.heap.size W3 w5:=(zC _ _).trans (e7.below (B:=W3.heap.size) Js (yk _) (fun g e=>by simp[Value.ownBlock] at e) (fun g e=>by simp at e))
    exact Jc hW Jh ku))
   have hB:=zB (fun(wr:JY)(A:ScH wr B C P bs am cm ms v1 vs U kv pv ks)=>show ZO wr (.slice au us.length cu) us from(by
    have:=(A.pg.uns.2 i h9).1.1
    rw[R,<-V] at this
    exact this))
   have hS:=zB d;have HH:=zB hH;have HG:=zB hG;have h5:=zB hD;have Hd:=zB ih;have HN:=zB hN;have Hc:Hid (∀u∈us,nmF ms u<ms.length/\rk (nmF ms u)<rk i):=fun u hu=>hR.1 i hi u (by rw[<-V];exact hu)
   have hw:=zB (fun j (hj:j<ms.length)=>hT.sub hR (by have:=hH.pg.uns.1;have:=hH.pg.ln;omega) (rk j+1) j hj Jo);have hX:=zB (fun j (hj:j<ms.length)=>hT.nd hj);have hd:=zB (by rw[hT i hi,f,V];rfl:zDg (nmF ms) T (za [] os) (us.drop 0)=T i);have HF:=zB hF;have Ht:=hH.hne;have Ho:us.length<=20001:=by rw[V];exact h3 i hi
   rw[<-ht];clear J hm hG hH ih hgt ht Y W hN hR hT hF h3 d4 r1 r2 Hl hD d S R I Hj hU V f h7 He Hf E s;go_enter func53,ntmps53;go_wp2_with (first|(go_at_call 97;rw[<-zA hS];(with_reducible refine(zA HU).mono ?_);rintro e w3 ⟨rfl,Q⟩;have hJ:=zB (Z w3 Q);have Hm:w.heap.size+2<=w3.heap.size:=(Jy Q.size);clear Q HU Z)|(go_at_call 98;(with_reducible refine(zA hJ).mono ?_);rintro e w5 ⟨rfl,kv0,pv0,hI5,ku5⟩;have h0:=zB hI5;clear hI5 hJ));go_loopw [32] (fun x wr=>∃(q:Nat)(acc:List OpR)(kv':Value)(pv':Option Nat)(G':ByteArray->Option Value),q<=us.length/\x=Qi q/\Hid (ScI w wr (w3.heap.size+1) C bs ms T rk G i U acc kv' pv' G')/\Hid (zDg (nmF ms) T acc (us.drop q)=T i)) (fun x _=>us.length-(intOf x).toNat);case atStart=>exact⟨0,_,kv0,pv0,G,ym _,rfl,h0,hd⟩
   case round=>
    clear h0 hd ku5;obtain⟨q,acc,kv',pv',G',hq,rfl,HI,M⟩:=hrel;obtain⟨ak,ck,rfl⟩:∃a c,kv'=.slice a acc.length c:=zR HI.qs.row;have Hz:=HI.len hA;by_cases hV:q<us.length
    ·have hQ:(q:Int)<(us.length:Int):=Jo;have q0:=HI.qs.c0;obtain⟨u,hu⟩:∃u,us[q]?=some u:=⟨_,yr hV⟩;have A:=HH.keep HI.gr;obtain⟨gu,cu',hg,Hr,hl⟩:=((hB) wr A).lt Jo;obtain⟨rfl,rfl⟩:au=some (Qa gu 0)/\cu=cu':=by injection hg with x _ y;exact⟨x,y⟩
     have hc:=hl q u hu;by_cases he:500<acc.length
     ·have hf:(500:Int)<(acc.length:Int):=Jo;obtain rfl:acc=T i:=by have:=zA M;rwa[zRP _ he] at this
      clear hg hl A hu;obtain⟨w9,k,x0,x1,x2,x3,H⟩:=HI.fin HN hi hn h5 HG Jo hC;rw[<-zA hK] at k;have X:=zB H;have e4:=(HH.keep HI.gr).c4;have hk:P<wr.heap.size:=Jo;obtain⟨W8,K⟩:=Jx (wr.alloc (.cells #[.slice ak (T i).length ck] 63));have y4:W8.cell? (Qa P 4)=some (.map (some bs)):=by rw[K];exact Jc (zC wr _) hk e4
      have y0:W8.cell? (Qa wr.heap.size 0)=some (.slice ak (T i).length ck):=by rw[K];simp[go_sem]
      rw[<-K] at k;have hh:=zB K;clear K H;go_wp2_with fail;rw[<-zA hh];go_region;go_wp2_with fail;refine yN (v:=.agg #[.slice ak (T i).length ck]) ?res rfl X;case res=>simp[results,results53,go_sem,x0]
     ·have hf:¬ (500:Int)<(acc.length:Int):=Jo;obtain⟨hj,hO⟩:=(zA Hc) u (yB hu);obtain⟨j,D⟩:=Jx (nmF ms u);rw[<-D] at hj hO;have hr:(atM ms j).n=u:=by rw[D];exact(zAx ms u).1 (by rw[<-D];exact hj)
      have HX:=zB (Hd j hj Jo wr G' A HI.sc);rw[hr] at HX;have Hb:=zB (by rw[D,<-zVS hu he];exact zA M:zDg (nmF ms) T (za acc (T j)) (us.drop (q+1))=T i);have H2:=zB hr;have Hu:w3.heap.size+1<wr.heap.size:=HI.qs.lt;have Hw:(T j).length<=1048576-acc.length:=by
       have h1:=(zA hw) j hj;have h2:=zBe (T j) (Zm U) (hX j hj) h1;omega
      clear hg hl A hu hr D M;go_wp2_with (first|(go_at_call 53;(with_reducible refine(zA HX).mono ?_);rintro e w6 ⟨v,G'',rfl,g1,g2,g3,gp,g4,g5⟩;obtain⟨v',h8,ha,_⟩:=g2.at' j hj _ g1;have h6:=ha.ops;clear ha;obtain rfl:v=v':=(Ju h8);have h4:Apt v (w3.heap.size+1) (.slice ak acc.length ck) pv':=(HI.dj' (w6:=w6) (j:=j) g5) j hj v g1;have F:=zB (zIL (w3.heap.size+1) 0 (w3.heap.size+1) _ pv' acc v (T j) w6 (HI.q6 g3) (fun x hx=>HF x (hw j hj x hx)) Jo (Jy g3.size) h6 h4);have hz:=zB (fun w7 hp=>HI.step (w7:=w7) hO g2 g3 g4 g5 gp (hw j hj) hp);obtain⟨a6,c6,rfl,_⟩:=h6;clear g1 g2 g3 g4 g5 gp h8 h4 HX));rw[zRO];go_wp2_with (first|(go_at_call 98;(with_reducible refine(zA F).mono ?_);rintro e w7 ⟨rfl,hp7⟩;obtain⟨kv7,pv7,hM⟩:=(zA hz) w7 hp7;have Hi:=zB hM;clear hM hp7 F hz));exact⟨⟨q+1,_,kv7,pv7,G'',Jo,Jn,Hi,Hb⟩,Ji⟩
    ·have hQ:¬ (q:Int)<(us.length:Int):=Jo;obtain rfl:acc=T i:=by have:=zA M;rwa[List.drop_eq_nil_of_le Jo] at this
     have q0:=HI.qs.c0;obtain⟨w9,k,x0,x1,x2,x3,H⟩:=HI.fin HN hi hn h5 HG Jo hC;rw[<-zA hK] at k;have X:=zB H;have e4:=(HH.keep HI.gr).c4;have hk:P<wr.heap.size:=Jo;obtain⟨W8,K⟩:=Jx (wr.alloc (.cells #[.slice ak (T i).length ck] 63));have y4:W8.cell? (Qa P 4)=some (.map (some bs)):=by rw[K];exact Jc (zC wr _) hk e4
     have y0:W8.cell? (Qa wr.heap.size 0)=some (.slice ak (T i).length ck):=by rw[K];simp[go_sem]
     rw[<-K] at k;have hh:=zB K;clear K H;go_wp2_with fail;rw[<-zA hh];go_region;go_wp2_with fail;refine yN (v:=.agg #[.slice ak (T i).length ck]) ?res rfl X;case res=>simp[results,results53,go_sem,x0]
end Go.Proofs.YtadiaghhackbjaaGreatDoor
