import Derived.BigQuiet
import Derived.Lib.SmallJoins
import Derived.Test.YtadiaghhackbjaaGreatDoorU00
namespace Go.Proofs.YtadiaghhackbjaaGreatDoor
set_option linter.all false
set_option maxHeartbeats 0
set_option maxRecDepth 100000
open Proofs.Tryz RowKit
variable{W:Nat -> Nat -> Bool}{acc ns zs:List OpR}{cap f g i j k n off:Nat}{kd:Int}{o:OpR}{t u:ByteArray}{v:Value}{w w' w1:World}
def ZV(a b:OpR):Bool:=a.s.toList==b.s.toList&&a.k==b.k&&a.l==b.l&&a.sd==b.sd
theorem ZD{a b:OpR}:ZV a b=true↔a=b:=by
 obtain⟨s,k,l,sd⟩:=a;obtain⟨s',k',l',sd'⟩:=b;simp only[ZV,Bool.and_eq_true,beq_iff_eq];constructor
 ·rintro⟨⟨⟨h1,h2⟩,h3⟩,h4⟩;rw[zBC h1,h2,h3,h4]
 ·intro h;injection h with h1 h2 h3 h4;exact⟨⟨⟨by rw[h1],h2⟩,h3⟩,h4⟩
theorem zRu:prog.underlying 33=some (.struct (prog.fieldsOf 33)):=Jk
theorem zWA:prog.stoodInHeld 33=false:=Jk
theorem zDm:prog.eqGuardType prog.depth 33=false:=Jk
theorem zBs(a b:OpR)(w:JY):(binOp .eql 33 (.agg #[Qs a.s,Qi a.k,Qi a.l,Qi a.sd]) (.agg #[Qs b.s,Qi b.k,Qi b.l,Qi b.sd])).run prog w=.ok (.bool (ZV a b)) w:=by
 rw[run_eql_struct,run_equalIn_agg _ _ _ _ _ zRu zWA];unfold Program.fieldsOf ZV;rw[underlying33];cases h1:(a.s.toList==b.s.toList)<;>cases h2:(a.k==b.k)<;>cases h3:(a.l==b.l)<;>cases h4:(a.sd==b.sd)<;>simp[go_sem,h1,h2,h3,h4]
theorem zKv(g cap k:Nat)(zs:List OpR)(o:OpR)(w:JY)(hm:zs.length<=1048576)(hk:k<=zs.length)(hw:Ops w g 0 zs)(hB:g<w.heap.size):Calls prog 22 #[Ql g k cap,.agg #[Qs o.s,Qi o.k,Qi o.l,Qi o.sd]] w fun e w'=>(∃v,e=.returned (.bool v)/\(v=true↔∃j,j<k/\atO zs j=o))/\Qb w w':=by
 go_enter func22,ntmps22;go_wp2;go_loopw [5] (fun i wr=>∃n:Nat,n<=k/\i=Qi n/\Hid (∀j,j<n->atO zs j≠o)/\Below (w.heap.size+1) (w.alloc (.cells #[Qs o.s,Qi o.k,Qi o.l,Qi o.sd] 33)) wr) (fun i _=>k-(intOf i).toNat);case atStart=>exact⟨0,ym _,rfl,zB (fun j h=>Jo),yJ _ _⟩
 case round=>
  obtain⟨n,hn,rfl,q,H⟩:=hrel;by_cases X:n<k
  ·obtain⟨a0,a1,a2,a3⟩:=((hw n Jo).below (zC _ _) hB).below H Jo;simp only[yY] at a0 a1 a2 a3;have c0:wr.cell? (Qa w.heap.size 0)=some (Qs o.s):=by rw[H.cell (p:=Qa w.heap.size 0) (show w.heap.size<_ by omega)];simp[go_sem]
   have c1:wr.cell? (Qa w.heap.size 1)=some (Qi o.k):=by rw[H.cell (p:=Qa w.heap.size 1) (show w.heap.size<_ by omega)];simp[go_sem]
   have c2:wr.cell? (Qa w.heap.size 2)=some (Qi o.l):=by rw[H.cell (p:=Qa w.heap.size 2) (show w.heap.size<_ by omega)];simp[go_sem]
   have c3:wr.cell? (Qa w.heap.size 3)=some (Qi o.sd):=by rw[H.cell (p:=Qa w.heap.size 3) (show w.heap.size<_ by omega)];simp[go_sem]
   have y:(n:Int)<(k:Int):=Jo;have K:=zB H;clear H;have hq:=fun W=>zBs (atO zs n) o W
   have hg:=zDm;go_wp2_with fail;go_quiet (fail);clear hq hg;cases hsm:ZV (atO zs n) o
   ·have Q:Hid (atO zs n≠o):=fun e=>by rw[ZD.2 e] at hsm;cases hsm
    go_wp2;refine⟨⟨n+1,Jo,Jn,zB ?_,below_drewN K nq⟩,Ji⟩;intro j hj;by_cases e:j=n
    ·subst e;exact Q
    ·exact q j Jo
   ·have x:=zB (ZD.1 hsm);go_wp2;go_ret;exact⟨⟨true,rfl,⟨fun _=>⟨n,X,x⟩,fun _=>rfl⟩⟩,below_drewN ((zC _ _).trans (K.mono Jo)) nq⟩
  ·go_wp2;go_ret;refine⟨⟨false,rfl,⟨fun h=>(by cases h),fun⟨j,hj,he⟩=>yR he (q j Jo)⟩⟩,(zC _ _).trans (H.mono Jo)⟩
def zA5(zs:List OpR):Nat->List OpR
 |0=>[]
 |k+1=>if(List.range k).any (fun j=>ZV (atO zs j) (atO zs k)) then zA5 zs k else zA5 zs k++[atO zs k]
theorem zPq(h:∃j,j<k/\atO zs j=atO zs k):zA5 zs (k+1)=zA5 zs k:=by
 obtain⟨j,hj,e⟩:=h;have hp:((List.range k).any fun j=>ZV (atO zs j) (atO zs k))=true:=by
  rw[List.any_eq_true];exact⟨j,List.mem_range.2 hj,ZD.2 e⟩
 show(if _ then _ else _)=_;rw[yQ hp]
theorem zM9(h:¬ ∃j,j<k/\atO zs j=atO zs k):zA5 zs (k+1)=zA5 zs k++[atO zs k]:=by
 have hp:¬ ((List.range k).any fun j=>ZV (atO zs j) (atO zs k))=true:=by
  rw[List.any_eq_true];rintro⟨j,hj,e⟩;exact h ⟨j,List.mem_range.1 hj,ZD.1 e⟩
 show(if _ then _ else _)=_;rw[yP hp]
theorem zPr(zs:List OpR):∀k,(zA5 zs k).length<=k
 |0=>yk _
 |k+1=>by
  have:=zPr zs k;unfold zA5;split
  ·omega
  ·simp;omega
def zDz(acc:List OpR)(o:OpR):List OpR:=if acc.any (fun x=>ZV x o)=true then acc else acc++[o]
def za(acc xs:List OpR):List OpR:=xs.foldl zDz acc
theorem zI6:acc.any (fun x=>ZV x o)=true↔o∈acc:=by
 rw[List.any_eq_true];constructor
 ·rintro⟨x,h1,h2⟩;rw[<-ZD.1 h2];exact h1
 ·intro h;exact⟨o,h,ZD.2 rfl⟩
theorem zDI(h:o∈acc):zDz acc o=acc:=by unfold zDz;rw[yQ (zI6.2 h)]
theorem zEi(h:o ∉ acc):zDz acc o=acc++[o]:=by unfold zDz;rw[yP (fun x=>h (zI6.1 x))]
theorem zRv{x:OpR}:x∈zDz acc o↔x∈acc\/x=o:=by
 by_cases h:o∈acc
 ·rw[zDI h];exact⟨yS,fun e=>e.elim id (fun e=>e ▸ h)⟩
 ·rw[zEi h];simp
theorem Zu{x:OpR}:∀(xs acc:List OpR),x∈za acc xs↔x∈acc\/x∈xs
 |[],acc=>by simp[za]
 |o::r,acc=>by
  show x∈za (zDz acc o) r↔_;rw[Zu r,zRv];simp only[List.mem_cons];constructor
  ·rintro((h|h)|h)
   ·exact yS h
   ·exact yU (yS h)
   ·exact yU (yU h)
  ·rintro(h|h|h)
   ·exact yS (yS h)
   ·exact yS (yU h)
   ·exact yU h
theorem zI7:∀(xs acc:List OpR),(∀o∈xs,o∈acc)->za acc xs=acc
 |[],_,_=>rfl
 |o::r,acc,h=>by
  show za (zDz acc o) r=acc;rw[zDI (h o Js)];exact zI7 r acc (fun x hx=>h x (by simp[hx]))
theorem zD0(acc xs ys:List OpR):za acc (xs++ys)=za (za acc xs) ys:=List.foldl_append
theorem zT9(h:acc.Nodup):(zDz acc o).Nodup:=by
 by_cases ho:o∈acc
 ·rw[zDI ho];exact h
 ·rw[zEi ho];rw[List.nodup_append];exact⟨h,Js,fun a ha b hb e=>by simp at hb;subst hb;subst e;exact ho ha⟩
theorem zA2:∀(xs acc:List OpR),acc.Nodup->(za acc xs).Nodup
 |[],_,h=>h
 |o::r,acc,h=>zA2 r _ (zT9 h)
theorem zKw:∀(xs acc:List OpR),(acc++xs).Nodup->za acc xs=acc++xs
 |[],acc,_=>by simp[za]
 |o::r,acc,h=>by
  have ho:o ∉ acc:=fun ho=>by
   rw[List.nodup_append] at h;exact h.2.2 o ho o Js rfl
  show za (zDz acc o) r=_;rw[zEi ho,zKw r (acc++[o]) (Ju h)];simp
theorem zRw(acc:List OpR)(o:OpR):acc.length<=(zDz acc o).length:=by
 by_cases h:o∈acc
 ·rw[zDI h];exact yk _
 ·rw[zEi h];simp
theorem zGN:∀(xs acc:List OpR),acc.length<=(za acc xs).length
 |[],_=>yk _
 |o::r,acc=>yw (zRw acc o) (zGN r _)
theorem zBe{α:Type}:∀(xs ys:List α),xs.Nodup->(∀x∈xs,x∈ys)->xs.length<=ys.length
 |[],_,_,_=>ym _
 |x::r,ys,h,hs=>by
  rw[List.nodup_cons] at h;obtain⟨a,b,rfl⟩:=List.append_of_mem (hs x Js);have:=zBe r (a++b) h.2 (fun z hz=>by
   have h1:=hs z (by simp[hz])
   simp only[List.mem_append,List.mem_cons] at h1 ⊢
   rcases h1 with h1|h1|h1
   ·exact yS h1
   ·subst h1;exact yR hz h.1
   ·exact yU h1)
  simp only[yq,yy] at *;omega
theorem zIk(h:k<zs.length):atO zs k∈zs:=by
 unfold atO;rw[yn,yr h];exact List.getElem_mem h
theorem zUA(h:k<zs.length):zs.take (k+1)=zs.take k++[atO zs k]:=by
 rw[List.take_add_one,yr h];unfold atO;rw[yn,yr h];rfl
theorem zH7(hk:k<=zs.length):o∈zs.take k↔∃j,j<k/\atO zs j=o:=by
 constructor
 ·intro h;obtain⟨j,hj,e⟩:=List.getElem_of_mem h;have H:j<k:=by rw[List.length_take] at hj;omega
  refine⟨j,H,?_⟩;rw[<-e,List.getElem_take];unfold atO;rw[yn,yr Jo];rfl
 ·rintro⟨j,hj,rfl⟩;have hl:j<(zs.take k).length:=by rw[List.length_take];omega
  have:(zs.take k)[j]=atO zs j:=by
   rw[List.getElem_take];unfold atO;rw[yn,yr Jo];rfl
  rw[<-this];exact List.getElem_mem hl
theorem zLo(zs:List OpR):∀k,k<=zs.length->zA5 zs k=za [] (zs.take k)
 |0,_=>by simp[zA5,za]
 |k+1,hk=>by
  have ih:=zLo zs k Jo;rw[zUA Jo,zD0];show _=zDz (za [] (zs.take k)) (atO zs k);rw[<-ih];by_cases h:∃j,j<k/\atO zs j=atO zs k
  ·rw[zPq h,zDI];rw[ih,Zu];exact yU ((zH7 Jo).2 h)
  ·rw[zM9 h,zEi];rw[ih,Zu];rintro(h1|h1)
   ·cases h1
   ·exact h ((zH7 Jo).1 h1)
theorem zUB{t s:List OpR}(ht:t.Nodup):zA5 (t++s) (t++s).length=za t s:=by
 rw[zLo _ _ (yk _),List.take_length,zD0,zKw t [] (Ju ht)];rfl
def Pth(E:Nat->Nat->Prop):Nat->Nat->Nat->Prop
 |0,i,j=>E i j
 |k+1,i,j=>∃m,E i m/\Pth E k m j
def TC(E:Nat->Nat->Prop)(i j:Nat):Prop:=∃k,Pth E k i j
theorem Pth.trans{E:Nat->Nat->Prop}:∀{k l i j m:Nat},Pth E k i m->Pth E l m j->TC E i j
 |0,l,i,j,m,h1,h2=>⟨l+1,m,h1,h2⟩
 |k+1,l,i,j,m,h1,h2=>by
  obtain⟨q,h3,h4⟩:=h1;obtain⟨n,h5⟩:=Pth.trans h4 h2;exact⟨n+1,q,h3,h5⟩
theorem TC.trans{E:Nat->Nat->Prop}{i j m:Nat}(h1:TC E i m)(h2:TC E m j):TC E i j:=by
 obtain⟨k,h1⟩:=h1;obtain⟨l,h2⟩:=h2;exact h1.trans h2
theorem TC.one{E:Nat->Nat->Prop}(h:E i j):TC E i j:=⟨0,h⟩
theorem TC.closed{E:Nat->Nat->Prop}{P:Nat->Prop}(hc:∀i j,P i->E i j->P j):∀{k i j:Nat},Pth E k i j->(∀m,E i m->P m)->P j
 |0,i,j,h,h0=>h0 j h
 |k+1,i,j,h,h0=>by
  obtain⟨m,h1,h2⟩:=h;exact TC.closed hc h2 (fun q hq=>hc m q (h0 m h1) hq)
def wr1(M:Nat->Nat->Bool)(m:Nat):Nat->Nat->Bool:=fun i j=>M i j||(M i m&&M m j)
def wrN(M:Nat->Nat->Bool):Nat->Nat->Nat->Bool
 |0=>M
 |m+1=>wr1 (wrN M m) m
theorem zFr{E:Nat->Nat->Prop}{M:Nat->Nat->Bool}(h:∀i j,M i j=true->TC E i j):∀m i j,wrN M m i j=true->TC E i j
 |0,i,j,hm=>h i j hm
 |m+1,i,j,hm=>by
  simp only[wrN,wr1,Bool.or_eq_true,Bool.and_eq_true] at hm;rcases hm with hm|⟨h1,h2⟩
  ·exact zFr h m i j hm
  ·exact(zFr h m _ _ h1).trans (zFr h m _ _ h2)
theorem zI8{M:Nat->Nat->Bool}:∀m i j,M i j=true->wrN M m i j=true
 |0,_,_,h=>h
 |m+1,i,j,h=>by
  simp only[wrN,wr1,Bool.or_eq_true];exact yS (zI8 m i j h)
theorem zKx{M:Nat->Nat->Bool}:∀m k,k<m->∀i j,wrN M m i k=true->wrN M m k j=true->wrN M m i j=true
 |0,k,hk,_,_,_,_=>Jo
 |m+1,k,hk,i,j,h1,h2=>by
  simp only[wrN,wr1,Bool.or_eq_true,Bool.and_eq_true] at h1 h2 ⊢;by_cases e:k=m
  ·subst e;have a:wrN M k i k=true:=by rcases h1 with h|⟨h,_⟩<;>exact h
   have b:wrN M k k j=true:=by rcases h2 with h|⟨_,h⟩<;>exact h
   exact yU ⟨a,b⟩
  ·have ih:=zKx (M:=M) m k Jo;rcases h1 with h1|⟨h1,K⟩<;>rcases h2 with h2|⟨h2,H⟩
   ·exact yS (ih i j h1 h2)
   ·exact yU ⟨ih i m h1 h2,H⟩
   ·exact yU ⟨h1,ih m j K h2⟩
   ·exact yU ⟨h1,H⟩
theorem zWB{E:Nat->Nat->Prop}{M:Nat->Nat->Bool}(hM:∀i j,M i j=true↔E i j)(hE:∀i j,E i j->i<n/\j<n)(i j:Nat):wrN M n i j=true↔TC E i j:=by
 refine⟨zFr (fun i j h=>TC.one ((hM i j).1 h)) n i j,?_⟩;rintro⟨k,hk⟩;induction k generalizing i with
 |zero=>exact zI8 n i j ((hM i j).2 hk)
 |succ k ih=>
  obtain⟨m,h1,h2⟩:=hk;exact zKx n m (hE _ _ h1).2 i j (zI8 n i m ((hM i m).2 h1)) (ih m h2)
def rkW(W:Nat->Nat->Bool)(n i:Nat):Nat:=((List.range n).filter (fun j=>W i j)).length
theorem zHX{p q:Nat->Bool}:∀(l:List Nat),(∀x∈l,q x=true->p x=true)->(∃x∈l,p x=true/\q x=false)->(l.filter q).length<(l.filter p).length
 |[],_,h=>by obtain⟨x,h,_⟩:=h;cases h
 |a::r,hs,h=>by
  have k:(r.filter q).length<=(r.filter p).length:=by
   have:∀(l:List Nat),(∀x∈l,q x=true->p x=true)->(l.filter q).length<=(l.filter p).length:=by
    intro l;induction l with
    |nil=>intro _;exact yk _
    |cons b t ih=>
     intro hb;have:=ih (fun x hx=>hb x (by simp[hx]));have H:=hb b Js;by_cases h1:q b=true
     ·rw[List.filter_cons_of_pos h1,List.filter_cons_of_pos (H h1)];simp;omega
     ·by_cases h2:p b=true
      ·rw[List.filter_cons_of_neg h1,List.filter_cons_of_pos h2];simp;omega
      ·rw[List.filter_cons_of_neg h1,List.filter_cons_of_neg h2];exact this
   exact this r (fun x hx=>hs x (by simp[hx]))
  have ha:=hs a Js;obtain⟨x,hx,h1,h2⟩:=h;rcases List.mem_cons.1 hx with rfl|hx
  ·rw[List.filter_cons_of_pos h1,List.filter_cons_of_neg (by simp[h2])];simp;omega
  ·have ih:=zHX r (fun y hy=>hs y (by simp[hy])) ⟨x,hx,h1,h2⟩;by_cases h3:q a=true
   ·rw[List.filter_cons_of_pos h3,List.filter_cons_of_pos (ha h3)];simp;omega
   ·by_cases h4:p a=true
    ·rw[List.filter_cons_of_neg h3,List.filter_cons_of_pos h4];simp;omega
    ·rw[List.filter_cons_of_neg h3,List.filter_cons_of_neg h4];exact ih
theorem zUC{E:Nat->Nat->Prop}(hW:∀i j,W i j=true↔TC E i j){i j:Nat}(he:E i j)(hj:j<n)(hn:¬ TC E j j):rkW W n j<rkW W n i:=by
 unfold rkW;refine zHX _ (fun x _ h=>(hW i x).2 ((TC.one he).trans ((hW j x).1 h))) ⟨j,List.mem_range.2 hj,(hW i j).2 (TC.one he),?_⟩;cases h:W j j
 ·rfl
 ·exact yR ((hW j j).1 h) hn
theorem zW8{E:Nat->Nat->Prop}(hW:∀i j,W i j=true↔TC E i j){i:Nat}(hi:i<n)(hn:¬ TC E i i):rkW W n i<n:=by
 have h:=zHX (p:=fun _=>true) (q:=fun j=>W i j) (List.range n) (fun _ _ _=>rfl) ⟨i,List.mem_range.2 hi,rfl,by
  cases h:W i i
  ·rfl
  ·exact yR ((hW i i).1 h) hn⟩
 have e:((List.range n).filter (fun _=>true)).length=n:=by rw[List.filter_eq_self.2 (fun _ _=>rfl),List.length_range]
 rw[e] at h;exact h
def zAB(nm:ByteArray->Nat)(S:Nat->List OpR)(acc:List OpR)(us:List JZ):List OpR:=us.foldl (fun a u=>za a (S (nm u))) acc
theorem zDJ(nm:ByteArray->Nat)(S:Nat->List OpR)(acc:List OpR)(u:JZ)(r:List JZ):zAB nm S acc (u::r)=zAB nm S (za acc (S (nm u))) r:=rfl
theorem zI9(nm:ByteArray->Nat)(S:Nat->List OpR)(acc:List OpR)(us:List JZ)(u:JZ):zAB nm S acc (us++[u])=za (zAB nm S acc us) (S (nm u)):=by
 unfold zAB;rw[List.foldl_append];rfl
theorem zKy(nm:ByteArray->Nat)(S:Nat->List OpR):∀(us:List JZ)(acc:List OpR),acc.length<=(zAB nm S acc us).length
 |[],_=>yk _
 |u::r,acc=>yw (zGN _ acc) (zKy nm S r _)
theorem zFJ(nm:ByteArray->Nat)(S:Nat->List OpR):∀(us:List JZ)(acc:List OpR),acc.Nodup->(zAB nm S acc us).Nodup
 |[],_,h=>h
 |u::r,acc,h=>zFJ nm S r _ (zA2 _ _ h)
theorem zFs(nm:ByteArray->Nat)(S:Nat->List OpR){x:OpR}:∀(us:List JZ)(acc:List OpR),x∈zAB nm S acc us↔x∈acc\/∃u∈us,x∈S (nm u)
 |[],acc=>by simp[zAB]
 |u::r,acc=>by
  rw[zDJ,zFs nm S r,Zu];simp only[List.mem_cons,exists_eq_or_imp];constructor
  ·rintro((h|h)|h)
   ·exact yS h
   ·exact yU (yS h)
   ·exact yU (yU h)
  ·rintro(h|h|h)
   ·exact yS (yS h)
   ·exact yS (yU h)
   ·exact yU h
theorem zFK{nm:ByteArray->Nat}{S T:Nat->List OpR}:∀(us:List JZ)(acc:List OpR),(∀u∈us,S (nm u)=T (nm u))->zAB nm S acc us=zAB nm T acc us
 |[],_,_=>rfl
 |u::r,acc,h=>by
  rw[zDJ,zDJ,h u Js];exact zFK r _ (fun x hx=>h x (by simp[hx]))
def zA3(acc:List JZ)(u:JZ):List ByteArray:=if acc.any (fun x=>decide (x=u))=true then acc else acc++[u]
def dst(us:List JZ):List ByteArray:=us.foldl zA3 []
theorem zPs{acc:List JZ}:acc.any (fun x=>decide (x=u))=true↔u∈acc:=by
 rw[List.any_eq_true];constructor
 ·rintro⟨x,h1,h2⟩;rw[<-of_decide_eq_true h2];exact h1
 ·intro h;exact⟨u,h,decide_eq_true rfl⟩
theorem zCe{acc:List JZ}(h:u∈acc):zA3 acc u=acc:=by unfold zA3;rw[yQ (zPs.2 h)]
theorem zCW{acc:List JZ}(h:u ∉ acc):zA3 acc u=acc++[u]:=by unfold zA3;rw[yP (fun x=>h (zPs.1 x))]
theorem zRx{acc:List JZ}{x:JZ}:x∈zA3 acc u↔x∈acc\/x=u:=by
 by_cases h:u∈acc
 ·rw[zCe h];exact⟨yS,fun e=>e.elim id (fun e=>e ▸ h)⟩
 ·rw[zCW h];simp
theorem zBR{x:JZ}:∀(us acc:List JZ),x∈us.foldl zA3 acc↔x∈acc\/x∈us
 |[],acc=>Js
 |u::r,acc=>by
  rw[List.foldl_cons,zBR r,zRx];simp only[List.mem_cons];constructor
  ·rintro((h|h)|h)
   ·exact yS h
   ·exact yU (yS h)
   ·exact yU (yU h)
  ·rintro(h|h|h)
   ·exact yS (yS h)
   ·exact yS (yU h)
   ·exact yU h
theorem zUD{acc:List JZ}(h:acc.Nodup):(zA3 acc u).Nodup:=by
 by_cases ho:u∈acc
 ·rw[zCe ho];exact h
 ·rw[zCW ho,List.nodup_append];exact⟨h,Js,fun a ha b hb e=>by simp at hb;subst hb;subst e;exact ho ha⟩
theorem zJA:∀(us acc:List JZ),acc.Nodup->(us.foldl zA3 acc).Nodup
 |[],_,h=>h
 |u::r,acc,h=>zJA r _ (zUD h)
theorem zHY(us:List JZ):∀(acc:List JZ),(us.foldl zA3 acc).length<=acc.length+us.length:=by
 induction us with
 |nil=>intro acc;exact yk _
 |cons u r ih=>
  intro acc;rw[List.foldl_cons];have:=ih (zA3 acc u);have h2:(zA3 acc u).length<=acc.length+1:=by
   by_cases h:u∈acc
   ·rw[zCe h];omega
   ·rw[zCW h];simp
  simp only[yy];omega
theorem zKz(nm:ByteArray->Nat)(S:Nat->List OpR):∀(us D:List JZ)(a:List OpR),zAB nm S a (us.foldl zA3 D)=zAB nm S (zAB nm S a D) us
 |[],D,a=>rfl
 |u::r,D,a=>by
  rw[List.foldl_cons,zKz nm S r,zDJ];congr 1;by_cases h:u∈D
  ·rw[zCe h,zI7];intro o ho;rw[zFs];exact yU ⟨u,h,ho⟩
  ·rw[zCW h,zI9]
theorem zOl(nm:ByteArray->Nat)(S:Nat->List OpR)(us:List JZ)(a:List OpR):zAB nm S a (dst us)=zAB nm S a us:=zKz nm S us [] a
def zDg(nm:ByteArray->Nat)(T:Nat->List OpR):List OpR->List ByteArray->List OpR
 |acc,[]=>acc
 |acc,u::r=>if 500<acc.length then acc else zDg nm T (za acc (T (nm u))) r
def zRy(s t:List OpR):Prop:=(s.length<=500->t=s)/\(500<s.length->500<t.length)
theorem zK0{nm:ByteArray->Nat}{S T:Nat->List OpR}:∀(us:List JZ)(a b:List OpR),(∀u∈us,zRy (S (nm u)) (T (nm u))/\(S (nm u)).Nodup/\(T (nm u)).Nodup)->zRy a b->zRy (zAB nm S a us) (zDg nm T b us)
 |[],a,b,_,h=>h
 |u::r,a,b,hu,h=>by
  rw[zDJ];simp only[zDg];obtain⟨h1,h2,h3⟩:=hu u Js;by_cases hb:500<b.length
  ·rw[yQ hb];have ha:500<a.length:=by
    by_cases ha:a.length<=500
    ·rw[h.1 ha] at hb;omega
    ·omega
   have hl:a.length<=(zAB nm S (za a (S (nm u))) r).length:=yw (zGN _ a) (zKy nm S r _);exact⟨fun e=>Jo,fun _=>hb⟩
  ·rw[yP hb];have ha:a.length<=500:=by
    by_cases ha:500<a.length
    ·exact yR (h.2 ha) hb
    ·omega
   obtain rfl:=h.1 ha;refine zK0 r _ _ (fun x hx=>hu x (by simp[hx])) ?_;by_cases hs:(S (nm u)).length<=500
   ·rw[h1.1 hs];exact⟨fun _=>rfl,fun x=>x⟩
   ·have q1:=zBe (S (nm u)) (za b (S (nm u))) h2 (fun x hx=>(Zu _ _).2 (yU hx));have q2:=zBe (T (nm u)) (za b (T (nm u))) h3 (fun x hx=>(Zu _ _).2 (yU hx));have q3:=h1.2 Jo;exact⟨fun e=>Jo,fun _=>Jo⟩
theorem zPt(nm:ByteArray->Nat)(T:Nat->List OpR):∀(us:List JZ)(b:List OpR),b.Nodup->(zDg nm T b us).Nodup
 |[],_,h=>h
 |u::r,b,h=>by
  simp only[zDg];split
  ·exact h
  ·exact zPt nm T r _ (zA2 _ _ h)
theorem zQp(b off cap:Nat)(xs:List OpR)(w:JY)(Q:xs.length<=1048576)(hw:Ops w b off xs)(hs:ZA xs)(hB:b<w.heap.size):Calls prog 133 #[.slice (some (Qa b off)) xs.length cap] w fun e w'=>(∃v,e=.returned (.bool v)/\(v=true↔zBi xs xs.length))/\Qb w w':=by
 go_enter func133,ntmps133;go_wp2;go_loopw [7] (fun i wr=>∃k:Nat,k<=xs.length/\i=Qi k/\zBi xs k/\Qb w wr) (fun i _=>xs.length-(intOf i).toNat);case atStart=>exact⟨0,ym _,rfl,fun j h=>Jo,yJ _ _⟩
 case round=>
  obtain⟨k,hk,rfl,q,H⟩:=hrel;by_cases K:k<xs.length
  ·obtain⟨h0,h1,h2,h3⟩:=(hw k K).below H hB;cases ht:(atO xs k).ok
   ·have Ht:=zB ht;unfold OpR.ok at ht;go_wp2_with (go_at_call 58;refine(zAf _ _ _ _ _ (hs k K)).mono ?_;rintro e w' ⟨rfl,hb⟩);go_ret;refine⟨⟨false,rfl,⟨fun h=>(by cases h),fun h=>?_⟩⟩,?_⟩
    ·have:=h k K;rw[zA Ht] at this;cases this
    ·exact H.trans (((zC _ _).trans (hb.mono Js)).mono H.size)
   ·have Ht:=zB ht;unfold OpR.ok at ht;go_wp2_with (go_at_call 58;refine(zAf _ _ _ _ _ (hs k K)).mono ?_;rintro e w' ⟨rfl,hb⟩);exact⟨⟨k+1,Jo,Jn,zKr q Ht,H.trans (((zC _ _).trans (hb.mono Js)).mono H.size)⟩,Ji⟩
  ·have:k=xs.length:=Jo;go_wp2;go_ret;exact⟨⟨true,rfl,⟨fun _=>this ▸ q,fun _=>rfl⟩⟩,H⟩
def srt(k sd:Int):Int:=if k=1 then 2 else if k=3 then 1 else sd
theorem zGO(s:JZ)(k l sd:Int)(w:JY):Calls prog 74 #[.agg #[Qs s,Qi k,Qi l,Qi sd]] w fun e w'=>e=.returned (Qi (srt k sd))/\Qb w w':=by
 by_cases h1:k=1
 ·have h:(k==1)=true:=Ju h1
  have H:=zB h1;clear h1;go_enter func74,ntmps74;go_wp2;go_ret;exact⟨zF (by simp[srt,zA H]),zC _ _⟩
 ·by_cases h3:k=3
  ·have h:(k==1)=false:=Ju h1
   have K:(k==3)=true:=Ju h3
   have H:=zB h3;clear h3 h1;go_enter func74,ntmps74;go_wp2;go_ret;exact⟨zF (by simp[srt,zA H]),zC _ _⟩
  ·have h:(k==1)=false:=Ju h1
   have K:(k==3)=false:=Ju h3
   go_enter func74,ntmps74;go_wp2;go_ret;exact⟨zF (by simp[srt,h1,h3]),zC _ _⟩
theorem zWC{s:JZ}{k l sd:Int}(h:okB s k l sd=true):(k=3\/sd=1->srt k sd=1)/\(¬ (k=3\/sd=1)->(k=1\/sd=2)->srt k sd=2)/\(¬ (k=3\/sd=1)->¬ (k=1\/sd=2)->srt k sd=3):=by
 obtain⟨_,h⟩:=zB1 s k l sd h;unfold srt;rcases h with⟨rfl,rfl⟩|⟨rfl,rfl⟩|⟨rfl,rfl⟩|⟨rfl,rfl⟩|⟨rfl,rfl⟩<;>decide
theorem zJB(s:JZ)(k l sd:Int)(w:JY)(ho:okB s k l sd=true):Calls prog 176 #[.agg #[Qs s,Qi k,Qi l,Qi sd]] w fun e w'=>e=.returned (Qi (srt k sd))/\Qb w w':=by
 have h:=zB (zWC ho);clear ho;go_enter func176,ntmps176;go_wp2;all_goals(go_ret;refine⟨zF ?_,zC _ _⟩;obtain⟨p1,p2,p3⟩:=zA h;go_light;(try simp only[beq_iff_eq,yX,ne_eq] at *);first|(rw[p1 Jo])|(rw[p2 Jo Jo])|(rw[p3 Jo Jo]))
theorem zLp(s t:JZ)(k l sd k' l' sd':Int)(w:JY):Calls prog 44 #[.agg #[Qs s,Qi k,Qi l,Qi sd],.agg #[Qs t,Qi k',Qi l',Qi sd'],Qi 3] w fun e w'=>(∃v,e=.returned (.bool v)/\(v=true↔(s=t/\(k=1↔k'=1))))/\Qb w w':=by
 go_enter func44,ntmps44;go_wp2
 ·go_ret;refine⟨⟨_,rfl,?_⟩,(zC _ _).alloc Js _⟩;go_light;have e:=zBC ‹_›;rw[beq_iff_eq,Bool.eq_iff_iff];simp[e]
 ·go_ret;refine⟨⟨_,rfl,?_⟩,(zC _ _).alloc Js _⟩;go_light;have e:s≠t:=fun e=>(‹¬ s.toList=t.toList›) (by rw[e])
  simp[e]
theorem zQq{W:JY}(hb:Qb W w1)(h:w.heap.size+1<W.heap.size)(hB:Qb w W):(∀o,w1.cell? (Qa w.heap.size o)=W.cell? (Qa w.heap.size o))/\(∀o,w1.cell? (Qa (w.heap.size+1) o)=W.cell? (Qa (w.heap.size+1) o))/\w.heap.size+1<w1.heap.size/\Qb w w1:=
 ⟨fun _=>hb.cell (p:=Qa _ _) (show w.heap.size<_ by omega),fun _=>hb.cell (p:=Qa _ _) h,yl h hb.size,hB.trans (hb.mono Jo)⟩
theorem zLq(s t:JZ)(k l sd k' l' sd':Int)(w:JY):Calls prog 44 #[.agg #[Qs s,Qi k,Qi l,Qi sd],.agg #[Qs t,Qi k',Qi l',Qi sd'],Qi 4] w fun e w'=>(∃v,e=.returned (.bool v)/\(v=true↔(l=l'/\srt k sd≠srt k' sd')))/\Qb w w':=by
 by_cases hl:l=l'
 ·have h:(l==l')=true:=Ju hl
  have H:=zB hl;clear hl;go_enter func44,ntmps44;go_wp2_with fail;go_region_held (fun w'=>(w'.cell? (Qa w.heap.size 0)=some (Qs s)/\w'.cell? (Qa w.heap.size 1)=some (Qi k)/\w'.cell? (Qa w.heap.size 2)=some (Qi l)/\w'.cell? (Qa w.heap.size 3)=some (Qi sd)) /\
   (w'.cell? (Qa (w.heap.size+1) 0)=some (Qs t)/\w'.cell? (Qa (w.heap.size+1) 1)=some (Qi k')/\w'.cell? (Qa (w.heap.size+1) 2)=some (Qi l')/\w'.cell? (Qa (w.heap.size+1) 3)=some (Qi sd'))) (go_keep)
   (first|(go_at_call 74;refine(zGO _ _ _ _ _).mono ?_;rintro e w1 ⟨rfl,hb1⟩;obtain⟨t0,t1,z1,hB⟩:=zQq (w:=w) hb1 (by first|assumption|(simp[heap_drew];done)) (by first|assumption|exact((zC _ _).alloc Js _).drew)))
  go_wp2;go_ret;refine⟨⟨_,rfl,?_⟩,hB⟩;have e:=zA H;simp[e]
 ·have h:(l==l')=false:=Ju hl
  go_enter func44,ntmps44;go_wp2_with fail;go_quiet (fail);go_wp2;go_ret;refine⟨⟨_,rfl,?_⟩,below_drewN ((zC _ _).alloc Js _) _⟩;simp[hl]
def cl(c:Int)(a b:OpR):Prop:=if c=3 then(a.s=b.s/\(a.k=1↔b.k=1)) else(a.l=b.l/\srt a.k a.sd≠srt b.k b.sd)
theorem zNA(a b:OpR)(c:Int)(w:JY)(hc:c=3\/c=4):Calls prog 44 #[.agg #[Qs a.s,Qi a.k,Qi a.l,Qi a.sd],.agg #[Qs b.s,Qi b.k,Qi b.l,Qi b.sd],Qi c] w fun e w'=>(∃v,e=.returned (.bool v)/\(v=true↔cl c a b))/\Qb w w':=by
 rcases hc with rfl|rfl
 ·exact zLp _ _ _ _ _ _ _ _ _
 ·exact zLq _ _ _ _ _ _ _ _ _
def Pr(c:Int)(xs:List OpR):Prop:=∃i j,j<i/\i<xs.length/\cl c (atO xs i) (atO xs j)
def zJC(c:Int)(xs:List OpR)(k:Nat):Prop:=∀i j,j<i->i<k->¬ cl c (atO xs i) (atO xs j)
theorem zHZ{c:Int}{xs:List OpR}(h:zJC c xs k)(hk:∀j,j<k->¬ cl c (atO xs k) (atO xs j)):zJC c xs (k+1):=by
 intro i j hj hi;by_cases e:i=k
 ·subst e;exact hk j hj
 ·exact h i j hj Jo
theorem zJD{c:Int}{xs:List OpR}(h:zJC c xs xs.length):¬ Pr c xs:=fun⟨i,j,hj,hi,hc⟩=>h i j hj hi hc
def zO(xs:List OpR)(c:Int):Prop:=
 (c=1/\500<xs.length)\/(xs.length<=500/\((c=2/\¬ zBi xs xs.length)\/(zBi xs xs.length/\((c=3/\Pr 3 xs)\/(¬ Pr 3 xs/\((c=4/\Pr 4 xs)\/(c=0/\¬ Pr 4 xs)))))))
theorem zAC{xs:List OpR}{c c':Int}(h:zO xs c)(h':zO xs c'):c=c':=by
 unfold zO at h h';by_cases a:500<xs.length
 ·have a':¬ xs.length<=500:=Jo;simp only[a,a',and_true,false_and,or_false] at h h';omega
 ·have a':xs.length<=500:=Jo;by_cases b:zBi xs xs.length
  ·by_cases p3:Pr 3 xs
   ·simp only[a,a',b,p3,and_true,and_false,true_and,false_and,or_false,false_or,not_true] at h h';omega
   ·by_cases p4:Pr 4 xs
    ·simp only[a,a',b,p3,p4,and_true,and_false,true_and,or_false,false_or,not_true,not_false_iff] at h h';omega
    ·simp only[a,a',b,p3,p4,and_true,and_false,true_and,false_or,not_true,not_false_iff] at h h';omega
  ·simp only[a,a',b,and_true,and_false,true_and,false_and,or_false,false_or,not_false_iff] at h h';omega
structure Bx(w:JY)(b off cap:Nat)(xs:List OpR)(wr:JY):Prop where
 box:wr.cell? (Qa w.heap.size 0)=some (.slice (some (Qa b off)) xs.length cap)
 ops:Ops wr b off xs
 lt:w.heap.size<wr.heap.size
 blt:b<wr.heap.size
 bel:Qb w wr
theorem Bx.step{b:Nat}{xs:List OpR}{wr:JY}(h:Bx w b off cap xs wr)(hb:Qb wr w'):Bx w b off cap xs w':=
 ⟨Jc hb h.lt h.box,h.ops.below hb h.blt,yl h.lt hb.size,yl h.blt hb.size,h.bel.trans (hb.mono (Nat.le_of_lt h.lt))⟩
theorem Bx.drew{w:JY}{b off cap:Nat}{xs:List OpR}{wr:JY}(h:Bx w b off cap xs wr):Bx w b off cap xs wr.drew:=
 h.step (yJ _ _).drew
theorem Bx.start{b:Nat}{xs:List OpR}(h:Ops w b off xs)(hB:b<w.heap.size)(t:TypeId):Bx w b off cap xs (w.alloc (.cells #[.slice (some (Qa b off)) xs.length cap] t)):=
 ⟨Jg,h.below (zC _ _) hB,Js,Jq,zC _ _⟩
structure zD where
 k:Int
 t:JZ
 a:Int
 b:Int
variable{xs:List zD}
def zD.zero:zD:=⟨0,⟨#[]⟩,0,0⟩
def atN(xs:List zD)(i:Nat):zD:=xs.getD i zD.zero
def zFL(w:JY)(b off:Nat)(xs:List zD)(i:Nat):Prop:=
 w.cell? (Qa b (off+i*4))=some (Qi (atN xs i).k)/\w.cell? (Qa b (off+i*4+1))=some (Qs (atN xs i).t)/\w.cell? (Qa b (off+i*4+2))=some (Qi (atN xs i).a)/\w.cell? (Qa b (off+i*4+3))=some (Qi (atN xs i).b)
def Zv(w:JY)(b off:Nat)(xs:List zD):Prop:=∀i,i<xs.length->zFL w b off xs i
def zBb(xs:List zD):Prop:=∀i,i<xs.length->(atN xs i).t.size<=maxLen
theorem zFL.below{b:Nat}{B:Nat}(h:zFL w b off xs i)(hb:Below B w w')(hB:b<B):zFL w' b off xs i:=by
 obtain⟨h0,h1,h2,h3⟩:=h;exact⟨Jc hb hB h0,Jc hb hB h1,Jc hb hB h2,Jc hb hB h3⟩
theorem Zv.below{w w':JY}{b off:Nat}{xs:List zD}{B:Nat}(h:Zv w b off xs)(hb:Below B w w')(hB:b<B):Zv w' b off xs:=
 fun i hi=>(h i hi).below hb hB
def Zn(w:JY)(g:Nat)(xs:List zD)(k:Nat):Prop:=
 g<w.heap.size/\w.there g 0 (xs.length*4)/\∀i,i<k->zFL w g 0 xs i
theorem Zn.grown{row:Option Nat}(h:Zn w g xs k)(hg:w.grownBy w' row)(H:some g≠row):Zn w' g xs k:=by
 obtain⟨h1,h2,h3⟩:=h;have hb:=hg.block g h1 H;have e:∀o,w'.cell? (Qa g o)=w.cell? (Qa g o):=fun o=>yu (w:=w) hb
 have f:∀o,w'.frozen? (Qa g o)=w.frozen? (Qa g o):=fun o=>yD (w:=w) hb
 refine⟨yl h1 hg.size,fun j hj=>⟨by rw[e];exact(h2 j hj).1,by rw[f];exact(h2 j hj).2⟩,fun i hi=>?_⟩;obtain⟨a0,a1,a2,a3⟩:=h3 i hi;exact⟨(e _).trans a0,(e _).trans a1,(e _).trans a2,(e _).trans a3⟩
theorem Zn.below{w w':JY}{g k:Nat}{xs:List zD}{B:Nat}(h:Zn w g xs k)(hb:Below B w w')(hB:g<B):Zn w' g xs k:=by
 obtain⟨h1,h2,h3⟩:=h;refine⟨yl h1 hb.size,fun j hj=>?_,fun i hi=>(h3 i hi).below hb hB⟩;have:=h2 j hj;exact⟨by rw[hb.cell (p:=Qa g _) hB];exact this.1,by rw[hb.frozen (p:=Qa g _) hB];exact this.2⟩
theorem Zn.setCell{w:JY}{g k:Nat}{xs:List zD}(h:Zn w g xs k)(b o:Nat)(v:Value)(hp:b≠g):Zn (w.setCell (Qa b o) v) g xs k:=
 h.grown (row:=some b) ⟨rfl,rfl,rfl,Jt,fun i _ hi=>je _ _ _ _ (fun e=>hi (by rw[e]))⟩ (fun e=>hp (Option.some.inj e).symm)
theorem Zn.ops(h:Zn w g xs xs.length):Zv w g 0 xs:=fun i hi=>h.2.2 i hi
theorem zDK:(prog.info? 106).map (fun i=>(i.zero,i.size,i.bytes))=some (some (.agg #[Qi 0,Qs ⟨#[]⟩,Qi 0,Qi 0]),4,40):=Jk
def zY(k:Int):Nat:=if k=4 then 2 else if k=3\/k=5\/k=6 then 1 else 0
theorem zCN(k:Int):zY k=0\/zY k=1\/zY k=2:=by
 unfold zY;split
 ·exact yU (yU rfl)
 ·split
  ·exact yU (yS rfl)
  ·exact yS rfl
def zA6(o:zD):Prop:=o.t.size<=20000/\((o.k=1/\zGI o.t)\/(o.k=2/\zBr o.t)\/(o.k=6/\o.t.size=0)\/((o.k=3\/o.k=4\/o.k=5)/\zGH o.t=true))
def frm(xs:List zD):Nat->Nat->Option Nat
 |0,_=>none
 |n+1,i=>
  if zY (atN xs i).k=0 then(if(atN xs i).a=0/\(atN xs i).b=0 then some i else none)
  else if zY (atN xs i).k=1 then(if 1<=i/\(atN xs i).a=(i:Int)-1/\(atN xs i).b=0 then frm xs n (i-1) else none)
  else if 1<=i/\(atN xs i).b=(i:Int)-1 then
   (match frm xs n (i-1) with
   |none=>none
   |some f=>if 1<=f/\(atN xs i).a=(f:Int)-1 then frm xs n (f-1) else none)
  else none
theorem zJE(xs:List zD):∀n i f,frm xs n i=some f->f<=i
 |0,i,f,h=>by simp[frm] at h
 |n+1,i,f,h=>by
  unfold frm at h;split at h
  ·split at h
   ·injection h with h;omega
   ·cases h
  ·split at h
   ·split at h
    ·have:=zJE xs n _ _ h;omega
    ·cases h
   ·split at h
    ·split at h
     ·cases h
     ·rename_i f' H;have h1:=zJE xs n _ _ H;split at h
      ·have:=zJE xs n _ _ h;omega
      ·cases h
    ·cases h
theorem zEB(xs:List zD):∀n m i,i<n->i<m->frm xs n i=frm xs m i
 |0,_,_,h,_=>yR h (yx _)
 |_+1,0,_,_,h=>yR h (yx _)
 |n+1,m+1,i,h,h'=>by
  unfold frm;by_cases h1:1<=i
  ·have e:=zEB xs n m (i-1) Jo Jo;rw[e];cases hf:frm xs m (i-1) with
   |none=>rfl
   |some f=>
    have H:=zJE xs _ _ _ hf;have e':=zEB xs n m (f-1) Jo Jo;simp only[e']
  ·simp[h1]
def frS(xs:List zD)(i:Nat):Option Nat:=frm xs (i+1) i
theorem zAD(h:frS xs i=some f):f<=i:=zJE xs _ _ _ h
theorem zGl(h:zY (atN xs i).k=0):frS xs i=if(atN xs i).a=0/\(atN xs i).b=0 then some i else none:=by
 unfold frS frm;rw[yQ h]
theorem zIl(h:zY (atN xs i).k=1):frS xs i=if 1<=i/\(atN xs i).a=(i:Int)-1/\(atN xs i).b=0 then frS xs (i-1) else none:=by
 have e:frS xs i=frm xs (i+1) i:=rfl;rw[e];unfold frm;rw[yP Jo,yQ h];by_cases h1:1<=i
 ·unfold frS;rw[zEB xs i (i-1+1) (i-1) Jo Jo]
 ·simp[h1]
theorem zIm(h:zY (atN xs i).k=2)(h1:1<=i)(hb:(atN xs i).b=(i:Int)-1)(hf:frS xs (i-1)=some f)(H:1<=f)(ha:(atN xs i).a=(f:Int)-1):frS xs i=frS xs (f-1):=by
 have K:=zAD hf;have e:frS xs i=frm xs (i+1) i:=rfl;rw[e];unfold frm;rw[yP Jo,yP Jo,yQ ⟨h1,hb⟩];have e1:frm xs i (i-1)=some f:=by rw[<-hf];exact zEB xs i (i-1+1) (i-1) Jo Jo
 rw[e1];simp only;rw[yQ ⟨H,ha⟩];exact zEB xs i (f-1+1) (f-1) Jo Jo
theorem zGm(h:zY (atN xs i).k=2)(hn:¬ (1<=i/\(atN xs i).b=(i:Int)-1/\∃f,frS xs (i-1)=some f/\1<=f/\(atN xs i).a=(f:Int)-1)):frS xs i=none:=by
 have e:frS xs i=frm xs (i+1) i:=rfl;rw[e];unfold frm;rw[yP Jo,yP Jo];by_cases hc:1<=i/\(atN xs i).b=(i:Int)-1
 ·rw[yQ hc];cases hf:frm xs i (i-1) with
  |none=>rfl
  |some f=>
   have:frS xs (i-1)=some f:=by rw[<-hf];exact zEB xs (i-1+1) i (i-1) Jo Jo
   simp only;rw[yP];intro H;exact hn ⟨hc.1,hc.2,f,this,H.1,H.2⟩
 ·rw[yP hc]
theorem zBG(h:frS xs i=some f):(zY (atN xs i).k=0/\(atN xs i).a=0/\(atN xs i).b=0/\f=i) \/
  (zY (atN xs i).k=1/\1<=i/\(atN xs i).a=(i:Int)-1/\(atN xs i).b=0/\frS xs (i-1)=some f) \/
  (zY (atN xs i).k=2/\1<=i/\(atN xs i).b=(i:Int)-1/\∃f2,frS xs (i-1)=some f2/\1<=f2/\(atN xs i).a=(f2:Int)-1/\frS xs (f2-1)=some f):=by
 rcases zCN (atN xs i).k with hk|hk|hk
 ·rw[zGl hk] at h;split at h
  ·rename_i hc;injection h with h;exact yS ⟨hk,hc.1,hc.2,h.symm⟩
  ·cases h
 ·rw[zIl hk] at h;split at h
  ·rename_i hc;exact yU (yS ⟨hk,hc.1,hc.2.1,hc.2.2,h⟩)
  ·cases h
 ·by_cases hn:1<=i/\(atN xs i).b=(i:Int)-1/\∃f,frS xs (i-1)=some f/\1<=f/\(atN xs i).a=(f:Int)-1
  ·obtain⟨h1,hb,f2,H,h2,ha⟩:=hn;rw[zIm hk h1 hb H h2 ha] at h;exact yU (yU ⟨hk,h1,hb,f2,H,h2,ha,h⟩)
  ·rw[zGm hk hn] at h;cases h
def zCs(o:zD)(k:Nat)(st:List Nat):Option (List Nat):=
 if zY o.k=0 then(if o.a=0/\o.b=0 then some (k::st) else none)
 else if zY o.k=1 then(match st with
  |t::r=>if o.a=(t:Int)/\o.b=0 then some (k::r) else none
  |[]=>none)
 else(match st with
  |t2::t1::r=>if o.a=(t1:Int)/\o.b=(t2:Int) then some (k::r) else none
  |_=>none)
def stk(xs:List zD):Nat->Option (List Nat)
 |0=>some []
 |k+1=>(match stk xs k with
  |none=>none
  |some st=>zCs (atN xs k) k st)
theorem zDL{st:List Nat}(h:stk xs k=some st):stk xs (k+1)=zCs (atN xs k) k st:=by
 simp only[stk,h]
theorem zNB{xs:List zD}{k:Nat}(h:stk xs k=none):∀m,k<=m->stk xs m=none
 |0,hm=>by
  obtain rfl:k=0:=Jo;exact h
 |m+1,hm=>by
  by_cases e:k=m+1
  ·subst e;exact h
  ·simp only[stk,zNB h m Jo]
theorem zEj(xs:List zD):∀n i f st,i<n->frS xs i=some f->stk xs f=some st->stk xs (i+1)=some (i::st)
 |0,_,_,_,hi,_,_=>yR hi (yx _)
 |n+1,i,f,st,hi,h,hs=>by
  rcases zBG h with⟨hk,ha,hb,rfl⟩|⟨hk,h1,ha,hb,hf⟩|⟨hk,h1,hb,f2,H,h2,ha,hf⟩
  ·rw[zDL hs];simp[zCs,hk,ha,hb]
  ·have:=zEj xs n (i-1) f st Jo hf hs;rw[Nat.sub_add_cancel h1] at this;rw[zDL this];unfold zCs;rw[yP Jo,yQ hk];simp only;rw[yQ ⟨by rw[ha];omega,hb⟩]
  ·have k:=zAD H;have s1:=zEj xs n (f2-1) f st Jo hf hs;rw[Nat.sub_add_cancel h2] at s1;have s2:=zEj xs n (i-1) f2 ((f2-1)::st) Jo H s1;rw[Nat.sub_add_cancel h1] at s2;rw[zDL s2];unfold zCs;rw[yP Jo,yP Jo];simp only;rw[yQ ⟨by rw[ha];omega,by rw[hb];omega⟩]
def zVw(xs:List zD):Nat->List Nat->Prop
 |k,[]=>k=0
 |k,s::r=>s+1=k/\∃f,frS xs s=some f/\zVw xs f r
theorem zEk(xs:List zD):∀k st,stk xs k=some st->zVw xs k st
 |0,st,h=>by
  simp only[stk,Option.some.injEq] at h;subst h;rfl
 |k+1,st',h=>by
  cases hs:stk xs k with
  |none=>simp only[stk,hs] at h;cases h
  |some st=>
   have ih:=zEk xs k st hs;rw[zDL hs] at h;unfold zCs at h;split at h
   ·rename_i hk;split at h
    ·rename_i hc;injection h with h;subst h;exact⟨rfl,k,by rw[zGl hk,yQ hc],ih⟩
    ·cases h
   ·split at h
    ·rename_i hk;split at h
     ·rename_i t r;obtain⟨e,f,hf,hr⟩:=ih;split at h
      ·rename_i hc;injection h with h;subst h;refine⟨rfl,f,?_,hr⟩;rw[zIl hk,yQ ⟨Jo,by rw[hc.1];omega,hc.2⟩];have:k-1=t:=Jo;rw[this];exact hf
      ·cases h
     ·cases h
    ·rename_i Q q;have hk:zY (atN xs k).k=2:=by rcases zCN (atN xs k).k with h|h|h<;>omega
     split at h
     ·rename_i t2 t1 r;obtain⟨e,f2,K,e1,f1,H,hr⟩:=ih;split at h
      ·rename_i hc;injection h with h;subst h;refine⟨rfl,f1,?_,hr⟩;have e2:k-1=t2:=Jo;rw[zIm hk Jo (by rw[hc.2];omega) (f:=f2) (by rw[e2];exact K) Jo (by rw[hc.1];omega)];have:f2-1=t1:=Jo;rw[this];exact H
      ·cases h
     ·cases h
theorem zHa(h:1<=xs.length):frS xs (xs.length-1)=some 0↔∃st,stk xs xs.length=some st/\st.length=1:=by
 constructor
 ·intro hf;have:=zEj xs xs.length (xs.length-1) 0 [] Jo hf rfl;rw[Nat.sub_add_cancel h] at this;exact⟨_,this,rfl⟩
 ·rintro⟨st,hs,hl⟩;have hc:=zEk xs _ _ hs;match st,hl with
  |[x],_=>
   obtain⟨e,f,hf,hr⟩:=hc;have H:f=0:=hr;subst H;have:xs.length-1=x:=Jo;rw[this];exact hf
def Zk(xs:List zD):Prop:=1<=xs.length/\xs.length<=20000/\frS xs (xs.length-1)=some 0/\∀i,i<xs.length->zA6 (atN xs i)
theorem Zk.stkS(h:Zk xs)(hk:k<=xs.length):∃st,stk xs k=some st:=by
 obtain⟨st,hs,_⟩:=(zHa h.1).1 h.2.2.1;cases e:stk xs k with
 |some st'=>exact⟨st',rfl⟩
 |none=>rw[zNB e _ hk] at hs;cases hs
def zWD(xs:List zD)(k:Nat):Prop:=
 (zY (atN xs k).k=0/\(atN xs k).a=0/\(atN xs k).b=0) \/
 (zY (atN xs k).k=1/\1<=k/\(atN xs k).a=(k:Int)-1/\(atN xs k).b=0) \/
 (zY (atN xs k).k=2/\2<=k/\(atN xs k).b=(k:Int)-1/\0<=(atN xs k).a/\(atN xs k).a<(k:Int)-1)
theorem Zk.kidsAt(h:Zk xs)(hk:k<xs.length):zWD xs k:=by
 obtain⟨st,hs⟩:=h.stkS (k:=k+1) Jo;have hc:=zEk xs _ _ hs;match st,hc with
 |[],hc=>cases hc
 |s::r,hc=>
  obtain⟨e,f,hf,_⟩:=hc;obtain rfl:s=k:=Jo;rcases zBG hf with⟨hk,ha,hb,rfl⟩|⟨hk,h1,ha,hb,hf⟩|⟨hk,h1,hb,f2,H,h2,ha,hf⟩
  ·exact yS ⟨hk,ha,hb⟩
  ·exact yU (yS ⟨hk,h1,ha,hb⟩)
  ·have:=zAD H;exact yU (yU ⟨hk,Jo,hb,Jo,Jo⟩)
theorem Zk.first(h:Zk xs):zY (atN xs 0).k=0:=by
 rcases h.kidsAt (k:=0) (Jy h.1) with h|h|h
 ·exact h.1
 ·omega
 ·omega
def cnt(xs:List zD):Nat->Nat
 |0=>0
 |k+1=>if(atN xs k).k=6 then cnt xs k else cnt xs k+1
theorem zGP(xs:List zD):∀k,cnt xs k<=k
 |0=>yk _
 |k+1=>by
  have:=zGP xs k;unfold cnt;split<;>omega
theorem zNC(xs:List zD):∀j k,j<=k->cnt xs j<=cnt xs k
 |j,0,h=>by
  obtain rfl:j=0:=Jo;exact yk _
 |j,k+1,h=>by
  by_cases e:j=k+1
  ·subst e;exact yk _
  ·have:=zNC xs j k Jo;have h2:cnt xs (k+1)=if(atN xs k).k=6 then cnt xs k else cnt xs k+1:=rfl;rw[h2];split<;>omega
def mvd(xs:List zD)(a:Int):Int:=(cnt xs (a.toNat+1):Int)-1
def erN(xs:List zD)(o:zD):zD:=⟨o.k,o.t,if zY o.k=0 then 0 else mvd xs o.a,if zY o.k=2 then mvd xs o.b else 0⟩
def er(xs:List zD):Nat->List zD
 |0=>[]
 |k+1=>if(atN xs k).k=6 then er xs k else er xs k++[erN xs (atN xs k)]
theorem zCk(xs:List zD):∀k,(er xs k).length=cnt xs k
 |0=>rfl
 |k+1=>by
  unfold er cnt;split
  ·exact zCk xs k
  ·simp[zCk xs k]
theorem zND(h:(atN xs k).k=6):er xs (k+1)=er xs k:=by
 show(if(atN xs k).k=6 then er xs k else er xs k++[erN xs (atN xs k)])=_;rw[yQ h]
theorem zFM(h:(atN xs k).k≠6):er xs (k+1)=er xs k++[erN xs (atN xs k)]:=by
 show(if(atN xs k).k=6 then er xs k else er xs k++[erN xs (atN xs k)])=_;rw[yP h]
theorem zQr(h:Zk xs):cnt xs 1=1:=by
 have:=h.first;unfold cnt cnt;rw[yP];intro e;rw[e] at this;simp[zY] at this
def zUE(xs us:List zD)(v:Bool):Prop:=(Zk xs/\v=true/\us=er xs xs.length)\/(¬ Zk xs/\v=false/\us=[])
theorem zBS(s:JZ)(k l sd:Int)(b:Bool)(w:JY)(hs:s.size<=maxLen):Calls prog 124 #[.agg #[Qs s,Qi k,Qi l,Qi sd],.bool b] w fun e w'=>e=.returned (Qi (ZU s k l sd b))/\Qb w w':=by
 cases ht:okB s k l sd
 ·have hf:=zB (zMu s k l sd b ht);go_enter func124,ntmps124;go_wp2_with (go_at_call 21;refine(zDF _ _ _ _ _ hs).mono ?_;rintro e w' ⟨rfl,hb⟩);go_ret;exact⟨zF hf.symm,(zC _ _).trans (hb.mono Js)⟩
 ·obtain⟨⟨H,K⟩,h⟩:=zB1 s k l sd ht;rcases h with⟨rfl,rfl⟩|⟨rfl,rfl⟩|⟨rfl,rfl⟩|⟨rfl,rfl⟩|⟨rfl,rfl⟩<;>cases b;all_goals
   have hf:=zB (ht)
   go_enter func124,ntmps124
   go_wp2_with (go_at_call 21;refine(zDF _ _ _ _ _ hs).mono ?_;rintro e w' ⟨rfl,hb⟩;obtain⟨hc,hz⟩:=zH1 hb)
   go_ret
   exact⟨zF (by simp[ZU,zMt,zA hf]),(zC _ _).trans (hb.mono Js)⟩
theorem zKT(s:JZ)(k l sd:Int)(b:Bool)(w:JY)(K:1<=l)(q:l<=1000):Calls prog 206 #[.agg #[Qs s,Qi k,Qi l,Qi sd],.bool b] w fun e w'=>e=.returned (Qi (zMt l sd b))/\Qb w w':=by
 cases b
 ·by_cases h:sd=1
  ·have h':(sd==1)=true:=Ju h
   have H:=zB h;clear h;go_enter func206,ntmps206;go_wp2;go_ret;exact⟨zF (by simp[zMt,zA H]),zC _ _⟩
  ·have h':(sd==1)=false:=Ju h
   go_enter func206,ntmps206;go_wp2;go_ret;exact⟨zF (by simp[zMt,h]),zC _ _⟩
 ·by_cases h:sd=2
  ·have h':(sd==2)=true:=Ju h
   have H:=zB h;clear h;go_enter func206,ntmps206;go_wp2;go_ret;exact⟨zF (by simp[zMt,zA H]),zC _ _⟩
  ·have h':(sd==2)=false:=Ju h
   go_enter func206,ntmps206;go_wp2;go_ret;exact⟨zF (by simp[zMt,h]),zC _ _⟩
theorem zAn(s:JZ)(k l sd:Int)(b:Bool)(w:JY)(hs:s.size<=maxLen):Calls prog 183 #[.agg #[Qs s,Qi k,Qi l,Qi sd],.bool b] w fun e w'=>e=.returned (Qi (ZU s k l sd b))/\Qb w w':=by
 cases ht:okB s k l sd
 ·have hf:=zB (zMu s k l sd b ht);go_enter func183,ntmps183;go_wp2_with (go_at_call 58;refine(zAf _ _ _ _ _ hs).mono ?_;rintro e w' ⟨rfl,hb⟩);go_ret;exact⟨zF hf.symm,(zC _ _).trans (hb.mono Js)⟩
 ·obtain⟨⟨K,H⟩,h⟩:=zB1 s k l sd ht;have hf:=zB ht;by_cases h2:k=2
  ·subst h2;clear h;go_enter func183,ntmps183;go_wp2_with (first|(go_at_call 58;refine(zAf _ _ _ _ _ hs).mono ?_;rintro e w' ⟨rfl,hb⟩;obtain⟨hc,hz⟩:=zH1 hb)|(go_at_call 206;refine(zKT _ _ _ _ _ _ K H).mono ?_;rintro e w1 ⟨rfl,hb1⟩));go_ret;exact⟨zF (by simp[ZU,zA hf]),(zC _ _).trans ((hb.mono Js).trans (hb1.mono (Jz hb.size)))⟩
  ·have q:(k==2)=false:=Ju h2
   clear h;cases b
   all_goals
    go_enter func183,ntmps183
    go_wp2_with (first|(go_at_call 58;refine(zAf _ _ _ _ _ hs).mono ?_;rintro e w' ⟨rfl,hb⟩;obtain⟨hc,hz⟩:=zH1 hb))
    go_ret
    exact⟨zF (by simp[ZU,zA hf,h2]),(zC _ _).trans (hb.mono Js)⟩
theorem zAM(b off cap:Nat)(xs:List OpR)(w:JY)(hm:xs.length<=1048576)(hw:Ops w b off xs)(hs:ZA xs)(hB:b<w.heap.size):Calls prog 23 #[.agg #[.slice (some (Qa b off)) xs.length cap]] w fun e w'=>(∃c,e=.returned (Qi c)/\zO xs c)/\Qb w w':=by
 have V:=zB (Bx.start (cap:=cap) hw hB 63);by_cases P:500<xs.length
 ·go_enter func23,ntmps23;go_wp2;go_ret;exact⟨⟨1,rfl,yS ⟨rfl,P⟩⟩,zC _ _⟩
 have H:xs.length<=500:=Jo;go_enter func23,ntmps23;go_wp2;go_loopw [4] (fun i wr=>∃k:Nat,k<=xs.length/\i=Qi k/\zBi xs k/\Bx w b off cap xs wr) (fun i _=>xs.length-(intOf i).toNat);case atStart=>exact⟨0,ym _,rfl,fun j h=>Jo,V⟩
 case round=>
  obtain⟨k,hk,rfl,J,hx⟩:=hrel;by_cases K:k<xs.length
  ·obtain⟨a0,a1,a2,a3⟩:=hx.ops k K;have A:=hx.box;cases ht:(atO xs k).ok
   ·have Ht:=zB ht;unfold OpR.ok at ht;go_wp2_with (go_at_call 21;refine(zDF _ _ _ _ _ (hs k K)).mono ?_;rintro e w1 ⟨rfl,hb1⟩);go_ret;refine⟨⟨2,rfl,yU ⟨H,yS ⟨rfl,fun h=>?_⟩⟩⟩,(hx.step hb1).bel⟩;have:=h k K;rw[zA Ht] at this;cases this
   ·have Ht:=zB ht;unfold OpR.ok at ht;go_wp2_with (go_at_call 21;refine(zDF _ _ _ _ _ (hs k K)).mono ?_;rintro e w1 ⟨rfl,hb1⟩);exact⟨⟨k+1,Jo,Jn,zKr J Ht,hx.step hb1⟩,Ji⟩
  ·have X:zBi xs xs.length:=by
    have:k=xs.length:=Jo;exact this ▸ J
   clear J V;go_wp2;go_loopw [5] (fun c wr=>∃cc:Int,c=Qi cc/\3<=cc/\cc<=5/\Hid ((3<cc->¬ Pr 3 xs)/\(4<cc->¬ Pr 4 xs))/\Bx w b off cap xs wr) (fun c _=>(5-intOf c).toNat);case atStart=>exact⟨3,rfl,Jo,Jo,zB ⟨fun h=>Jo,fun h=>Jo⟩,hx⟩
   case round=>
    clear hx;obtain⟨cc,rfl,D,d,Q,hx⟩:=hrel;by_cases E:cc<=4
    ·have y:=zB (Jo:cc=3\/cc=4);go_wp2;go_loopw [6] (fun i wr=>∃k:Nat,k<=xs.length/\i=Qi k/\Hid (zJC cc xs k)/\Bx w b off cap xs wr) (fun i _=>xs.length-(intOf i).toNat);case atStart=>exact⟨0,ym _,rfl,zB (fun i j _ h=>Jo),hx⟩
     case round=>
      clear hx;obtain⟨p,hp,rfl,U,hx⟩:=hrel;by_cases Y:p<xs.length
      ·go_wp2;go_loopw [7] (fun j wr=>∃m:Nat,m<=p/\j=Qi m/\Hid (∀j,j<m->¬ cl cc (atO xs p) (atO xs j))/\Bx w b off cap xs wr) (fun j _=>p-(intOf j).toNat);case atStart=>exact⟨0,ym _,rfl,zB (fun j h=>Jo),hx⟩
       case round=>
        clear hx;obtain⟨m,C,rfl,u,hx⟩:=hrel;by_cases B:m<p
        ·have x:m<xs.length:=Jo;obtain⟨a0,a1,a2,a3⟩:=hx.ops p Y;obtain⟨d0,d1,d2,d3⟩:=hx.ops m x;have A:=hx.box;have K:=hx.lt;have i1:(p:Int)<(xs.length:Int):=Jo;have i2:(m:Int)<(xs.length:Int):=Jo;go_wp2_with fail;go_region_held (fun w'=>w'.cell? (Qa w.heap.size 0)=some (.slice (some (Qa b off)) xs.length cap) /\
          (w'.cell? (Qa b (off+p*4))=some (Qs (atO xs p).s)/\w'.cell? (Qa b (off+p*4+1))=some (Qi (atO xs p).k)/\w'.cell? (Qa b (off+p*4+2))=some (Qi (atO xs p).l)/\w'.cell? (Qa b (off+p*4+3))=some (Qi (atO xs p).sd)) /\
          (w'.cell? (Qa b (off+m*4))=some (Qs (atO xs m).s)/\w'.cell? (Qa b (off+m*4+1))=some (Qi (atO xs m).k)/\w'.cell? (Qa b (off+m*4+2))=some (Qi (atO xs m).l)/\w'.cell? (Qa b (off+m*4+3))=some (Qi (atO xs m).sd))) (go_keep)
          (first|(go_at_call 44;refine(zNA (atO xs p) (atO xs m) cc _ y).mono ?_;rintro e w1 ⟨⟨v,rfl,hv⟩,hb1⟩;have HV:=zB hv;clear hv;have q:=hx.drew.step hb1;obtain⟨q0,q1,q2,q3⟩:=q.ops p Y;obtain⟨r0,r1,r2,r3⟩:=q.ops m x;have qb:=q.box))
         cases v
         ·go_wp2;refine⟨⟨m+1,Jo,Jn,zB ?_,q⟩,Ji⟩;intro j hj;by_cases e:j=m
          ·subst e;exact fun h=>Bool.false_ne_true (HV.2 h)
          ·exact u j Jo
         ·go_wp2;go_ret;refine⟨⟨cc,rfl,yU ⟨H,yU ⟨X,?_⟩⟩⟩,q.bel⟩;have a:Pr cc xs:=⟨p,m,B,Y,HV.1 (by trivial)⟩;rcases zA y with e|e
          ·subst e;exact yS ⟨rfl,a⟩
          ·subst e;exact yU ⟨Q.1 Jo,yS ⟨rfl,a⟩⟩
        ·go_wp2;refine⟨⟨p+1,Jo,Jn,zB (zHZ U (fun j hj=>u j Jo)),hx⟩,Ji⟩
      ·go_wp2;refine⟨⟨cc+1,Jn,Jo,Jo,zB ?_,hx⟩,Ji⟩;have hn:¬ Pr cc xs:=zJD (by
        have e:p=xs.length:=Jo
        exact e ▸ (zA U))
       rcases zA y with e|e
       ·subst e;exact⟨fun _=>hn,fun h=>Jo⟩
       ·subst e;exact⟨fun _=>Q.1 Jo,fun _=>hn⟩
    ·go_wp2;go_ret;exact⟨⟨0,rfl,yU ⟨H,yU ⟨X,yU ⟨Q.1 Jo,yU ⟨rfl,Q.2 Jo⟩⟩⟩⟩⟩,hx.bel⟩
def zC1(xs:List OpR)(t:JZ)(kd:Int):Nat->Nat->Option Nat
 |0,_=>none
 |m+1,i=>if(atO xs i).s=t/\(atO xs i).k=kd then some i else zC1 xs t kd m (i+1)
def fnd(xs:List OpR)(t:JZ)(kd:Int):Option Nat:=zC1 xs t kd xs.length 0
theorem zGn{xs:List OpR}{t:JZ}{kd:Int}:∀{m i j:Nat},zC1 xs t kd m i=some j->i<=j/\j<i+m/\(atO xs j).s=t/\(atO xs j).k=kd
 |0,_,_,h=>by cases h
 |m+1,i,j,h=>by
  unfold zC1 at h;split at h
  ·rename_i hc;injection h with h;subst h;exact⟨yk _,Jo,hc.1,hc.2⟩
  ·have:=zGn h;exact⟨Jo,Jo,this.2.2⟩
theorem zGo{xs:List OpR}{t:JZ}{kd:Int}:∀{m i:Nat},zC1 xs t kd m i=none->∀j,i<=j->j<i+m->¬ ((atO xs j).s=t/\(atO xs j).k=kd)
 |0,_,_,_,h1,h2=>Jo
 |m+1,i,h,j,h1,h2=>by
  unfold zC1 at h;split at h
  ·cases h
  ·rename_i hc;by_cases e:j=i
   ·subst e;exact hc
   ·exact zGo h j Jo Jo
theorem zAg{xs:List OpR}(h:fnd xs t kd=some j):j<xs.length/\(atO xs j).s=t/\(atO xs j).k=kd:=by
 have:=zGn h;exact⟨Jo,this.2.2⟩
theorem zNE{xs:List OpR}(h:fnd xs t kd=none)(hj:j<xs.length):¬ ((atO xs j).s=t/\(atO xs j).k=kd):=
 zGo h j (ym _) Jo
theorem zGp{xs:List OpR}{t:JZ}{kd:Int}:∀(k m i:Nat),(∀j,i<=j->j<i+k->¬ ((atO xs j).s=t/\(atO xs j).k=kd))->zC1 xs t kd (k+m) i=zC1 xs t kd m (i+k)
 |0,m,i,_=>by rw[yY,Nat.add_zero]
 |k+1,m,i,h=>by
  have e:k+1+m=(k+m)+1:=Jo;rw[e];show(if(atO xs i).s=t/\(atO xs i).k=kd then some i else zC1 xs t kd (k+m) (i+1))=_;rw[yP (h i (yk _) (by omega)),zGp k m (i+1) (fun j h1 h2=>h j (by omega) (by omega))];congr 1;omega
theorem zQs{xs:List OpR}(hk:k<xs.length)(h:∀j,j<k->¬ ((atO xs j).s=t/\(atO xs j).k=kd))(H:(atO xs k).s=t/\(atO xs k).k=kd):fnd xs t kd=some k:=by
 have e:xs.length=k+((xs.length-k-1)+1):=Jo;unfold fnd;rw[e,zGp k _ 0 (fun j _ h2=>h j (by omega))];show(if(atO xs (0+k)).s=t/\(atO xs (0+k)).k=kd then some (0+k) else _)=_;rw[yY,yQ H]
theorem zPu{xs:List OpR}(h:∀j,j<xs.length->¬ ((atO xs j).s=t/\(atO xs j).k=kd)):fnd xs t kd=none:=by
 cases e:fnd xs t kd with
 |none=>rfl
 |some j=>exact yR (zAg e).2 (h j (zAg e).1)
theorem zPv{xs:List OpR}(hv:zO xs 0)(hj:j<xs.length)(h:(atO xs j).s=t/\(atO xs j).k=kd):fnd xs t kd=some j:=by
 cases e:fnd xs t kd with
 |none=>exact yR h (zNE e hj)
 |some i=>
  obtain⟨hi,h1,h2⟩:=zAg e;by_cases H:i=j
  ·rw[H]
  ·exfalso;have K:¬ Pr 3 xs:=by
    rcases hv with⟨h,_⟩|⟨_,⟨h,_⟩|⟨_,⟨h,_⟩|⟨h,_⟩⟩⟩
    ·exact yR h Jd
    ·exact yR h Jd
    ·exact yR h Jd
    ·exact h
   apply K;rcases Nat.lt_trichotomy i j with e|e|e
   ·exact⟨j,i,e,hj,by simp[cl];exact⟨by rw[h1,h.1],Jo⟩⟩
   ·exact yR e H
   ·exact⟨i,j,e,hi,by simp[cl];exact⟨by rw[h1,h.1],Jo⟩⟩
def Zh(o:zD):Prop:=3<=o.k/\o.k<=5
def zAN(xs:List OpR)(o:zD):Int:=if 3<=o.k/\o.k<=5 then(match fnd xs o.t (o.k-2) with
 |some j=>(atO xs j).l
 |none=>1001) else 1001
def zF6(xs:List OpR)(j:Nat)(b:Bool):Int:=ZU (atO xs j).s (atO xs j).k (atO xs j).l (atO xs j).sd b
def zCt(xs:List OpR)(ns:List zD):Prop:=∀i,i<ns.length->Zh (atN ns i)->fnd xs (atN ns i).t ((atN ns i).k-2)≠none
def zJF(xs:List OpR)(ns:List zD)(i:Nat):Prop:=∀j,Zh (atN ns i)->fnd xs (atN ns i).t ((atN ns i).k-2)=some j ->
 zF6 xs j false<=zAN xs (atN ns (atN ns i).a.toNat)/\(zY (atN ns i).k=1\/zF6 xs j true<=zAN xs (atN ns (atN ns i).b.toNat))
def zh(ns:List OpR)(o:zD)(b:Bool):Int:=match fnd ns o.t (o.k-2) with
 |some j=>zF6 ns j b
 |none=>0
def zDh(ns:List OpR)(o:zD)(h:Int)(s:Nat)(u:List zD):List zD:=
 if zAN ns o<h then u++[⟨6,ByteArray.empty,((s+u.length:Nat):Int)-1,0⟩] else u
def gr(ns:List OpR)(xs:List zD):Nat->Nat->Int->Nat->List zD
 |0,_,_,_=>[]
 |n+1,i,least,s=>
  if(atN xs i).k=6 then gr ns xs n (i-1) least s
  else if zY (atN xs i).k=0 then zDh ns (atN xs i) least s [⟨(atN xs i).k,(atN xs i).t,0,0⟩]
  else if zY (atN xs i).k=1 then
   zDh ns (atN xs i) least s (gr ns xs n (i-1) (zh ns (atN xs i) false) s++[⟨(atN xs i).k,(atN xs i).t,((s+(gr ns xs n (i-1) (zh ns (atN xs i) false) s).length:Nat):Int)-1,0⟩])
  else
   zDh ns (atN xs i) least s ((gr ns xs n (atN xs i).a.toNat (zh ns (atN xs i) false) s++gr ns xs n (i-1) (zh ns (atN xs i) true) (s+(gr ns xs n (atN xs i).a.toNat (zh ns (atN xs i) false) s).length)) ++
    [⟨(atN xs i).k,(atN xs i).t,((s+(gr ns xs n (atN xs i).a.toNat (zh ns (atN xs i) false) s).length:Nat):Int)-1,((s+(gr ns xs n (atN xs i).a.toNat (zh ns (atN xs i) false) s).length+(gr ns xs n (i-1) (zh ns (atN xs i) true) (s+(gr ns xs n (atN xs i).a.toNat (zh ns (atN xs i) false) s).length)).length:Nat):Int)-1⟩])
theorem zEl(ns:List OpR)(xs:List zD):∀n m i f,i<n->i<m->frS xs i=some f->∀l s,gr ns xs n i l s=gr ns xs m i l s
 |0,_,_,_,h,_,_=>yR h (yx _)
 |_+1,0,_,_,_,h,_=>yR h (yx _)
 |n+1,m+1,i,f,h,h',hf=>by
  intro l s;rcases zBG hf with⟨hk,ha,hb,X⟩|⟨hk,q,ha,Q,H⟩|⟨hk,q,Q,f2,K,y,ha,H⟩
  ·have h6:(atN xs i).k≠6:=fun e=>by rw[e] at hk;simp[zY] at hk
   simp only[gr,yP h6,hk,if_true]
  ·have e:=zEl ns xs n m (i-1) f Jo Jo H;simp only[gr,e];by_cases h6:(atN xs i).k=6
   ·rw[yQ h6,yQ h6]
   ·simp only[yP h6,hk,if_true,Nat.one_ne_zero,if_false]
  ·have h6:(atN xs i).k≠6:=fun e=>by rw[e] at hk;simp[zY] at hk
   have x:=zAD K;have e1:=zEl ns xs n m (i-1) f2 Jo Jo K;have e2:=zEl ns xs n m (f2-1) f Jo Jo H;have ea:(atN xs i).a.toNat=f2-1:=Jo;simp only[gr,yP h6,ea,e1,e2]
def gS(ns:List OpR)(xs:List zD)(i:Nat)(l:Int)(s:Nat):List zD:=gr ns xs (i+1) i l s
theorem zEm(hk:zY (atN xs i).k=0)(l:Int)(s:Nat):gS ns xs i l s=zDh ns (atN xs i) l s [⟨(atN xs i).k,(atN xs i).t,0,0⟩]:=by
 have h6:(atN xs i).k≠6:=fun e=>by rw[e] at hk;simp[zY] at hk
 simp only[gS,gr,yP h6,hk,if_true]
theorem zEC(hk:(atN xs i).k=6)(h1:1<=i)(hf:frS xs (i-1)=some f)(l:Int)(s:Nat):gS ns xs i l s=gS ns xs (i-1) l s:=by
 have e:gS ns xs i l s=gr ns xs i (i-1) l s:=by simp only[gS,gr,yQ hk]
 rw[e];exact zEl ns xs _ _ _ f Jo Jo hf l s
theorem zGQ(hk:zY (atN xs i).k=1)(h6:(atN xs i).k≠6)(h1:1<=i)(hf:frS xs (i-1)=some f)(l:Int)(s:Nat){u:List zD}(hu:u=gS ns xs (i-1) (zh ns (atN xs i) false) s):gS ns xs i l s=zDh ns (atN xs i) l s (u++[⟨(atN xs i).k,(atN xs i).t,((s+u.length:Nat):Int)-1,0⟩]):=by
 have e:=zEl ns xs i (i-1+1) (i-1) f Jo Jo hf;subst hu;unfold gS;conv=>lhs;unfold gr
 simp only[yP h6,hk,if_true,Nat.one_ne_zero,if_false,e]
theorem zHb{f2:Nat}(hk:zY (atN xs i).k=2)(h1:1<=i)(h:frS xs (i-1)=some f2)(h2:1<=f2)(ha:(atN xs i).a=(f2:Int)-1)(hf:frS xs (f2-1)=some f)(l:Int)(s:Nat){u1 u2:List zD}(H:u1=gS ns xs (f2-1) (zh ns (atN xs i) false) s)(K:u2=gS ns xs (i-1) (zh ns (atN xs i) true) (s+u1.length)):gS ns xs i l s=zDh ns (atN xs i) l s ((u1++u2)++[⟨(atN xs i).k,(atN xs i).t,((s+u1.length:Nat):Int)-1,((s+u1.length+u2.length:Nat):Int)-1⟩]):=by
 have h6:(atN xs i).k≠6:=fun e=>by rw[e] at hk;simp[zY] at hk
 have q:=zAD h;have e1:=zEl ns xs i (i-1+1) (i-1) f2 Jo Jo h;have e2:=zEl ns xs i (f2-1+1) (f2-1) f Jo Jo hf;have ea:(atN xs i).a.toNat=f2-1:=Jo;subst K;subst H;unfold gS;conv=>lhs;unfold gr
 simp only[yP h6,ea,e1,e2,hk];rfl
theorem zJG(ns:List OpR)(o:zD)(l:Int)(s:Nat)(u:List zD):u.length<=(zDh ns o l s u).length/\(zDh ns o l s u).length<=u.length+1:=by
 unfold zDh;split<;>simp
theorem zCl(ns:List OpR)(xs:List zD):∀n i f,i<n->frS xs i=some f->∀l s,1<=(gS ns xs i l s).length/\(gS ns xs i l s).length<=2*(i+1-f)
 |0,_,_,h,_=>yR h (yx _)
 |n+1,i,f,h,hf=>by
  intro l s;rcases zBG hf with⟨hk,ha,hb,J⟩|⟨hk,K,ha,X,H⟩|⟨hk,K,X,f2,q,Y,ha,H⟩
  ·rw[zEm hk];have:=zJG ns (atN xs i) l s [⟨(atN xs i).k,(atN xs i).t,0,0⟩];simp only[yy,yZ] at this;omega
  ·have y:=zAD H;by_cases h6:(atN xs i).k=6
   ·rw[zEC h6 K H];have:=zCl ns xs n (i-1) f Jo H l s;omega
   ·rw[zGQ hk h6 K H l s rfl];have h1:=zCl ns xs n (i-1) f Jo H (zh ns (atN xs i) false) s;have h2:=zJG ns (atN xs i) l s (gS ns xs (i-1) (zh ns (atN xs i) false) s++[⟨(atN xs i).k,(atN xs i).t,((s+(gS ns xs (i-1) (zh ns (atN xs i) false) s).length:Nat):Int)-1,0⟩]);simp only[yq,yy,yZ] at h2;omega
  ·have y:=zAD q;have j:=zAD H;obtain⟨u1,Q⟩:=Jx (gS ns xs (f2-1) (zh ns (atN xs i) false) s);obtain⟨u2,x⟩:=Jx (gS ns xs (i-1) (zh ns (atN xs i) true) (s+u1.length));rw[zHb hk K q Y ha H l s Q x];have h1:=zCl ns xs n (f2-1) f Jo H (zh ns (atN xs i) false) s;have h2:=zCl ns xs n (i-1) f2 Jo q (zh ns (atN xs i) true) (s+u1.length);rw[<-Q] at h1;rw[<-x] at h2;have h3:=zJG ns (atN xs i) l s ((u1++u2)++[⟨(atN xs i).k,(atN xs i).t,((s+u1.length:Nat):Int)-1,((s+u1.length+u2.length:Nat):Int)-1⟩]);simp only[yq,yy,yZ] at h3;omega
theorem zDM(ns:List OpR)(xs:List zD):∀n i f,i<n->frS xs i=some f->∀l s s',(gS ns xs i l s).length=(gS ns xs i l s').length
 |0,_,_,h,_=>yR h (yx _)
 |n+1,i,f,h,hf=>by
  intro l s s';have cl:∀u u':List zD,u.length=u'.length->(zDh ns (atN xs i) l s u).length=(zDh ns (atN xs i) l s' u').length:=by
   intro u u' hu;unfold zDh;split<;>simp[hu]
  rcases zBG hf with⟨hk,ha,hb,y⟩|⟨hk,K,ha,x,H⟩|⟨hk,K,x,f2,q,Q,ha,H⟩
  ·rw[zEm hk,zEm hk];exact cl _ _ rfl
  ·by_cases h6:(atN xs i).k=6
   ·rw[zEC h6 K H,zEC h6 K H];exact zDM ns xs n (i-1) f Jo H l s s'
   ·rw[zGQ hk h6 K H l s rfl,zGQ hk h6 K H l s' rfl];apply cl;simp[zDM ns xs n (i-1) f Jo H (zh ns (atN xs i) false) s s']
  ·have X:=zAD q;rw[zHb hk K q Q ha H l s rfl rfl,zHb hk K q Q ha H l s' rfl rfl];apply cl;have e1:=zDM ns xs n (f2-1) f Jo H (zh ns (atN xs i) false) s s';have e2:=zDM ns xs n (i-1) f2 Jo q (zh ns (atN xs i) true) (s+(gS ns xs (f2-1) (zh ns (atN xs i) false) s).length) (s'+(gS ns xs (f2-1) (zh ns (atN xs i) false) s').length);simp only[yq,yy,yZ];rw[e2,e1]
def zUF(ns:List OpR)(xs us:List zD)(v:Bool):Prop:=
 (((zO ns 0/\Zk xs/\zCt ns xs)/\(gS ns xs (xs.length-1) 0 0).length<=20000)/\v=true/\us=gS ns xs (xs.length-1) 0 0) \/
 (¬ ((zO ns 0/\Zk xs/\zCt ns xs)/\(gS ns xs (xs.length-1) 0 0).length<=20000)/\v=false/\us=[])
def zT(zs:List zD):List Value:=zs.flatMap fun o=>[Qi o.k,Qs o.t,Qi o.a,Qi o.b]
theorem ze(xs ys:List zD):zT (xs++ys)=zT xs++zT ys:=by simp[zT]
theorem zEn:∀zs:List zD,(zT zs).length=zs.length*4
 |[]=>rfl
 |o::r=>by
  have:=zEn r;simp only[zT,List.flatMap_cons,yq,yy,yZ] at *;omega
theorem zHc:∀(zs:List zD)(i:Nat),i<zs.length->(zT zs)[i*4]?=some (Qi (atN zs i).k)/\(zT zs)[i*4+1]?=some (Qs (atN zs i).t)/\(zT zs)[i*4+2]?=some (Qi (atN zs i).a)/\(zT zs)[i*4+3]?=some (Qi (atN zs i).b)
 |[],i,h=>yR h (yx i)
 |o::r,0,_=>⟨rfl,rfl,rfl,rfl⟩
 |o::r,i+1,h=>by
  have ih:=zHc r i (Ju h);have e:∀j,(zT (o::r))[(i+1)*4+j]?=(zT r)[i*4+j]?:=fun j=>by
   have:(i+1)*4+j=(i*4+j)+4:=Jo;rw[this];rfl
  exact⟨(e 0).trans ih.1,(e 1).trans ih.2.1,(e 2).trans ih.2.2.1,(e 3).trans ih.2.2.2⟩
theorem zj(zs:List zD):∀u∈zT zs,u.oneCell'=true:=by
 intro u hu;simp only[zT,List.mem_flatMap] at hu;obtain⟨o,_,ho⟩:=hu;simp at ho;rcases ho with rfl|rfl|rfl|rfl<;>rfl
theorem zBT{base:Nat}{e:TypeId}{zs:List zD}(h:w.ownsRow base e 4 (Ql g zs.length cap) zs.length (zT zs)):base<=g/\Zn w g zs zs.length:=by
 have H:=h.lt g rfl;refine⟨H.1,H.2,fun j hj=>⟨?_,h.frozenAt _⟩,fun i hi=>?_⟩
 ·rw[h.cellAt (0+j) Jo];have:0+j<(zT zs).length:=by rw[zEn];omega
  rw[yr this];rfl
 ·obtain⟨c0,c1,c2,c3⟩:=zHc zs i hi;have e:=fun j (hj:j<4)=>h.cellAt (i*4+j) Jo
  exact⟨Ju ((e 0 Jo).trans c0),Ju ((e 1 Jo).trans c1),Ju ((e 2 Jo).trans c2),Ju ((e 3 Jo).trans c3)⟩
theorem zNF{base size:Nat}{e:TypeId}{xs:List Value}(h:w.ownsRow base e size v n xs)(hv:v ≠ .slice none 0 0):∃g cap,v = Ql g n cap:=by
 obtain⟨_,h|⟨g,cap,k,H,_⟩⟩:=h
 ·exact yR h.1 hv
 ·exact⟨g,cap,H⟩
theorem Zr(w:JY)(o:zD):∀j u,(zT [o])[j]?=some u->(w.alloc (.cells #[Qi o.k,Qs o.t,Qi o.a,Qi o.b] 106)).cell? ((Qa w.heap.size 0).add j)=some u:=by
 intro j u hj;rw[Addr.add_mid];have:=yC (w:=w.alloc (.cells #[Qi o.k,Qs o.t,Qi o.a,Qi o.b] 106)) (b:=w.heap.size) (heap_alloc_new w _) 0 4;exact this j u (by simpa[zT] using hj)
def Zi(w:JY)(n:Nat)(a:Option Addr)(us:List zD):Prop:=(us.length=0/\a=none)\/∃g,a=some (Qa g 0)/\n<=g/\Zn w g us us.length
theorem Zi.grown{w w':JY}{n:Nat}{a:Option Addr}{us:List zD}{row:Option Nat}(h:Zi w n a us)(hg:w.grownBy w' row)(hr:∀k,row=some k->k<n):Zi w' n a us:=by
 rcases h with h|⟨g,rfl,hn,hf⟩
 ·exact yS h
 ·exact yU ⟨g,rfl,hn,hf.grown hg (fun e=>Jy (hr g e.symm))⟩
theorem Zi.step{a:Option Addr}{us:List zD}(h:Zi w n a us)(hb:Qb w w'):Zi w' n a us:=
 h.grown (zE hb none) (fun k hk=>by cases hk)
theorem Zi.lt{a:Option Addr}{us:List zD}(h:Zi w n a us):∀k,a.map (·.block)=some k->n<=k/\k<w.heap.size:=by
 rcases h with⟨_,rfl⟩|⟨g,rfl,hn,hf⟩
 ·intro k hk;cases hk
 ·intro k hk;injection hk with hk;subst hk;exact⟨hn,hf.1⟩
def zOm:Nat->Nat->List UInt8->List UInt8
 |0,_,out=>out
 |f+1,k,out=>if k=0 then out else zOm f (k/10) ((48+UInt8.ofNat (k%10))::out)
def MT(k:Nat):ByteArray:=⟨(109::zOm 20 k []).toArray⟩
theorem zW9(W:JY)(c:Int):(convert 102 9 (Ql W.heap.size 1 1)).run prog (W.alloc (.cells #[.int .u8 c] 5))=.ok (Qs ⟨#[UInt8.ofNat c.toNat]⟩) (W.alloc (.cells #[.int .u8 c] 5)):=by
 rw[run_convert_bytes_string _ 102 9 5 _ _ _ underlying102 underlying5 underlying9];have hl:(loadCells (Qa W.heap.size 0) 1).run prog (W.alloc (.cells #[.int .u8 c] 5))=.ok ([c].map (Value.int .u8)).toArray (W.alloc (.cells #[.int .u8 c] 5)):=
  run_loadCells_list (P:=prog) _ (Qa W.heap.size 0) [.int .u8 c] (fun j v hv=>by
   match j,hv with
   |0,hv=>simp at hv;subst hv;simp[Addr.add,go_sem])
 rw[run_bytesToString _ (Qa W.heap.size 0) 1 1 [c] hl];rfl
theorem zK1(l l':List UInt8):(ByteArray.mk l.toArray++ByteArray.mk l'.toArray)=ByteArray.mk (l++l').toArray:=by
 apply ByteArray.ext;simp
theorem zLr(k:Nat)(w:JY)(h0:1<=k)(h1:k<=1000000000):Calls prog 36 #[Qi k] w fun e w'=>e=.returned (Qs (MT k))/\Qb w w':=by
 have x:(0:Int)<(k:Int):=Jo;go_enter func36,ntmps36;go_wp2;go_loopw [0,3] (fun kk q wr=>∃(n f:Nat)(l:List UInt8),kk=Qi n/\q=Qs ⟨l.toArray⟩/\n<=1000000000/\l.length+f<=20/\Hid (n<10 ^ f)/\Hid (zOm f n l=zOm 20 k [])/\Qb w wr) (fun kk _ _=>(intOf kk).toNat);case atStart=>exact⟨k,20,[],rfl,rfl,h1,Js,zB Jo,zB rfl,yJ _ _⟩
 case round=>
  obtain⟨n,f,l,rfl,rfl,hn,X,K,hd,h⟩:=hrel;by_cases Y:0<n
  ·have Q:(0:Int)<(n:Int):=Jo;obtain⟨f',rfl⟩:∃f',f=f'+1:=by
    cases f with
    |zero=>exact yR (zA K) Jq
    |succ f'=>exact⟨f',rfl⟩
   have y:=fun W c=>zW9 W c
   go_wp2;refine⟨⟨n/10,f',(48+UInt8.ofNat (n%10))::l,Js,?_,Jo,Jq,zB ?_,zB ?_,h.alloc h.size _⟩,Ji⟩
   ·show Value.string (ByteArray.mk [48+UInt8.ofNat (n%10)].toArray++ByteArray.mk l.toArray)=_;rw[zK1];rfl
   ·have:=zA K;rw[Nat.pow_succ] at this;omega
   ·have:=zA hd;unfold zOm at this;rw[yP Jo] at this;exact this
  ·have H:n=0:=Jo;go_wp2;go_ret;refine⟨?_,h⟩;have e:l=zOm 20 k []:=by
    rw[<-zA hd,H];cases f<;>simp[zOm]
   show Ending.returned (Qs (ByteArray.mk [109].toArray++ByteArray.mk l.toArray))=_;rw[zK1,e];rfl
theorem zC2(x:Int)(k:Nat)(w:JY)(hx:x=(k:Int))(h0:1<=k)(h1:k<=1000000000):Calls prog 36 #[Qi x] w fun e w'=>e=.returned (Qs (MT k))/\Qb w w':=by
 subst hx;exact zLr k w h0 h1
def zUG(o:zH):Nat:=o.n.size+o.t.size
def zGR(xs:List zH):Nat->Nat
 |0=>0
 |k+1=>zGR xs k+zUG (atM xs k)
theorem zUH(o:zH)(left:Int)(w:JY)(H:o.n.size<=maxLen)(h:o.t.size<=maxLen)(h0:0<=left)(h1:left<=1048576):Calls prog 13 #[.agg #[Qs o.n,Qs o.t],Qi left] w fun e w'=>(∃r,e=.returned (Qi r)/\(r<0\/(0<=r/\r+zUG o=left)))/\Qb w w':=by
 unfold maxLen at H;unfold maxLen at h;by_cases c0:left<o.n.size
 ·go_enter func13,ntmps13;go_wp2;go_ret;exact⟨⟨-1,rfl,yS Jo⟩,zC _ _⟩
 by_cases c1:left-o.n.size<o.t.size
 ·go_enter func13,ntmps13;go_wp2;go_ret;exact⟨⟨-1,rfl,yS Jo⟩,zC _ _⟩
 go_enter func13,ntmps13;go_wp2;go_ret;exact⟨⟨_,rfl,yU (by unfold zUG;omega)⟩,zC _ _⟩
def zRz(left r:Int)(xs:List zH):Prop:=r<0\/(0<=r/\r+xs.length+zGR xs xs.length=left)
theorem zR0(a:Option Addr)(cap:Nat)(xs:List zH)(left:Int)(w:JY)(hm:xs.length<=maxLen)(hw:zB3 w a xs)(hs:zBk xs)(J:0<=left)(j:left<=1048576):Calls prog 4 #[.slice a xs.length cap,Qi left] w fun e w'=>(∃r,e=.returned (Qi r)/\zRz left r xs)/\Qb w w':=by
 unfold maxLen at hm;by_cases Y:left<xs.length
 ·go_enter func4,ntmps4;go_wp2;go_ret;exact⟨⟨-1,rfl,yS Jo⟩,yJ _ _⟩
 rcases hw with h0|⟨b,off,rfl,hw,hB⟩
 ·have ht:zGR xs xs.length=0:=by rw[h0];rfl
  have HT:=zB ht;clear ht;go_enter func4,ntmps4;go_wp2;refine wp_loop_rounds 1 ?_;rw[rounds_succ];go_wp2;go_ret;exact⟨⟨_,rfl,yU (Jy (zA HT))⟩,yJ _ _⟩
 ·go_enter func4,ntmps4;go_wp2;go_loopw [1,5] (fun lf i wr=>∃(k:Nat)(r:Int),k<=xs.length/\i=Qi k/\lf=Qi r/\0<=r/\r<=1048576/\Hid (r+xs.length+zGR xs k=left)/\Qb w wr) (fun _ i _=>xs.length-(intOf i).toNat);case atStart=>exact⟨0,_,ym _,rfl,rfl,Jo,Jo,zB (by simp only[zGR];omega),yJ _ _⟩
  case round=>
   obtain⟨k,r,hk,rfl,rfl,q,X,ht,h⟩:=hrel;by_cases H:k<xs.length
   ·obtain⟨h0,h1⟩:=(hw k H).below h hB;go_wp2_with fail;go_call zUH (atM xs k) r _ (hs k H).1 (hs k H).2 q X as e w1 ⟨⟨r1,rfl,hr⟩,hb1⟩;by_cases x:r1<0
    ·go_wp2_with fail;go_ret;exact⟨⟨-1,rfl,yS Jo⟩,h.trans (hb1.mono h.size)⟩
    ·have y:0<=r1:=Jo;have hR:=zB (Jo:r1+zUG (atM xs k)=r);have Q:r1<=1048576:=Jy (zA hR)
     clear hr;go_wp2_with fail;exact⟨⟨k+1,r1,Jo,Jn,rfl,y,Q,zB (by have a:=zA ht;have b:=zA hR;simp only[zGR];omega),h.trans (hb1.mono h.size)⟩,Ji⟩
   ·have K:k=xs.length:=Jo;have HT:=zB (by have:=zA ht;rw[K] at this;exact this:r+xs.length+zGR xs xs.length=left);clear ht K;go_wp2;go_ret;exact⟨⟨_,rfl,yU ⟨q,HT⟩⟩,h⟩
theorem zUI(o:zH)(w:JY):Calls prog 28 #[.agg #[Qs o.n,Qs o.t]] w fun e w'=>e=.returned (.agg #[Qs o.n,Qs o.t])/\Qb w w':=by
 go_enter func28,ntmps28;go_wp2;exact yN (v:=.agg #[Qs o.n,Qs o.t]) (by simp[results,results28,go_sem]) rfl ⟨rfl,(((yJ _ _).alloc (yk _) _).alloc Js _).alloc Jq _⟩
theorem zGq(a:Option Addr)(cap:Nat)(xs:List zH)(w:JY)(hm:xs.length<=1048576)(hw:zB3 w a xs):Calls prog 7 #[.slice a xs.length cap] w fun e w'=>(∃g,e=.returned (Ql g xs.length xs.length)/\w.heap.size<=g/\Zc w' g xs xs.length)/\Qb w w':=by
 obtain⟨inf,hi,hz⟩:=Option.map_eq_some_iff.1 zW6;simp only[Prod.mk.injEq] at hz;obtain⟨hz,x,Q⟩:=hz;have X:∀W:JY,(Instr.makeSlice 29 (Qi (xs.length:Int)) (Qi (xs.length:Int))).run prog W=.ok (Ql W.heap.size xs.length xs.length) (W.alloc (.cells (madeCells #[Qs ⟨#[]⟩,Qs ⟨#[]⟩] (xs.length*2)) 53)):=by
  intro W;have:=run_make (P:=prog) W 29 53 inf _ underlying29 hi hz .i64 .i64 xs.length xs.length Jo (Int.le_refl _) (by rw[Q];omega) Jo;simpa[x,Value.cells] using this
 clear hz x Q hi;rcases hw with h0|⟨b,off,rfl,hw,hB⟩
 ·obtain rfl:=List.eq_nil_of_length_eq_zero h0;have y:∀W:JY,(Instr.makeSlice 29 (Qi 0) (Qi 0)).run prog W=.ok (Ql W.heap.size 0 0) (W.alloc (.cells #[] 53)):=fun W=>Jk
  clear X h0 hm;go_enter func7,ntmps7;go_wp2;refine wp_loop_rounds 1 ?_;rw[rounds_succ];go_wp2;go_ret;exact⟨⟨w.heap.size,rfl,yk _,Js,fun j hj=>(by simp at hj),fun i hi=>(by simp at hi)⟩,zC _ _⟩
 ·go_enter func7,ntmps7;go_wp2;go_loopw [4] (fun i wr=>∃k:Nat,k<=xs.length/\i=Qi k/\Zc wr w.heap.size xs k/\Qb w wr) (fun i _=>xs.length-(intOf i).toNat);case atStart=>exact⟨0,ym _,rfl,⟨Js,zM1 _ _ _ _,fun i hi=>Jo⟩,zC _ _⟩
  case round=>
   obtain⟨k,hk,rfl,K,H⟩:=hrel;by_cases q:k<xs.length
   ·obtain⟨h0,h1⟩:=(hw k q).below H hB;go_wp2_with fail;go_call zUI (atM xs k) _ as e w1 ⟨rfl,hb⟩;have h:=K.below hb K.1;obtain⟨⟨e0,f0⟩,⟨e1,f1⟩⟩:=zM0 h q;obtain⟨v0,e0⟩:=e0;obtain⟨v1,e1⟩:=e1;have HF:=zB (h.step q);have HB:=zB (zM (yk w.heap.size) [Qs (atM xs k).n,Qs (atM xs k).t] (k*2) w1 (H.trans (hb.mono H.size)));clear h K;go_wp2_with fail;exact⟨⟨k+1,Jo,Jn,HF,HB⟩,Ji⟩
   ·go_wp2;go_ret;have:k=xs.length:=Jo;exact⟨⟨w.heap.size,rfl,yk _,this ▸ K⟩,H⟩
theorem zR1(o:zH)(w:JY):Calls prog 35 #[.agg #[Qs o.n,Qs o.t],.agg #[Qs o.n,Qs o.t]] w fun e w'=>e=.returned (.bool true)/\Qb w w':=by
 go_enter func35,ntmps35;go_wp2;go_ret;exact⟨rfl,(zC _ _).alloc Js _⟩
theorem zQt(b off b' H cap x:Nat)(xs:List zH)(w:JY)(hm:xs.length<=1048576)(h:zLl w b off xs)(h':zLl w b' H xs)(hB:b<w.heap.size)(Q:b'<w.heap.size):Calls prog 10 #[.slice (some (Qa b off)) xs.length cap,.slice (some (Qa b' H)) xs.length x] w fun e w'=>e=.returned (.bool true)/\Qb w w':=by
 go_enter func10,ntmps10;go_wp2;go_loopw [5] (fun i wr=>∃k:Nat,k<=xs.length/\i=Qi k/\Qb w wr) (fun i _=>xs.length-(intOf i).toNat);case atStart=>exact⟨0,ym _,rfl,yJ _ _⟩
 case round=>
  obtain⟨k,hk,rfl,K⟩:=hrel;by_cases q:k<xs.length
  ·obtain⟨a0,a1⟩:=(h k q).below K hB;obtain⟨c0,c1⟩:=(h' k q).below K Q;have X:(k:Int)<(xs.length:Int):=Jo;have zb:b<wr.heap.size:=yl hB K.size;have zb':b'<wr.heap.size:=yl Q K.size;go_wp2_with fail;go_region_held (fun w'=>w'.cell? (Qa b (off+k*2))=some (Qs (atM xs k).n)/\w'.cell? (Qa b (off+k*2+1))=some (Qs (atM xs k).t)/\w'.cell? (Qa b' (H+k*2))=some (Qs (atM xs k).n)/\w'.cell? (Qa b' (H+k*2+1))=some (Qs (atM xs k).t)) (go_keep)
    (first|(go_at_call 35;refine(zR1 (atM xs k) _).mono ?_;rintro e w1 ⟨rfl,hb1⟩;have q0:=(hb1.cell (p:=(Qa b (off+k*2))) zb).trans (show wr.drew.cell? (Qa b (off+k*2))=_ from a0);have q1:=(hb1.cell (p:=(Qa b (off+k*2+1))) zb).trans (show wr.drew.cell? (Qa b (off+k*2+1))=_ from a1);have p0:=(hb1.cell (p:=(Qa b' (H+k*2))) zb').trans (show wr.drew.cell? (Qa b' (H+k*2))=_ from c0);have p1:=(hb1.cell (p:=(Qa b' (H+k*2+1))) zb').trans (show wr.drew.cell? (Qa b' (H+k*2+1))=_ from c1)))
   go_wp2;exact⟨⟨k+1,Jo,Jn,K.trans (((yJ _ _).drew.trans hb1).mono K.size)⟩,Ji⟩
  ·go_wp2;go_ret;exact⟨rfl,K⟩
theorem zNG(a a':Option Addr)(cap H:Nat)(xs:List zH)(w:JY)(hm:xs.length<=1048576)(h:zB3 w a xs)(h':zB3 w a' xs):Calls prog 10 #[.slice a xs.length cap,.slice a' xs.length H] w fun e w'=>e=.returned (.bool true)/\Qb w w':=by
 by_cases h0:xs.length=0
 ·obtain rfl:=List.eq_nil_of_length_eq_zero h0;clear h h' h0 hm;go_enter func10,ntmps10;go_wp2;refine wp_loop_rounds 1 ?_;rw[rounds_succ];go_wp2;go_ret;exact⟨rfl,yJ _ _⟩
 ·rcases h with h|⟨b,off,rfl,h1,h2⟩
  ·exact yR h h0
  ·rcases h' with h'|⟨b',k,rfl,K,q⟩
   ·exact yR h' h0
   ·exact zQt b off b' k cap H xs w hm h1 K h2 q
def mkM(c:Nat):zH:=⟨MT c,MT (c+1)⟩
def zIT(k n:Nat):List zH:=(List.range n).map fun i=>mkM (k+2*i)
theorem zNH(k n:Nat):(zIT k n).length=n:=by simp[zIT]
theorem zPw(h:i<n):atM (zIT k n) i=mkM (k+2*i):=by simp[atM,zIT,h]
def zED(w:JY)(g:Nat)(xs:List zH)(n m:Nat):Prop:=Zc w g xs n/\∀j v,j<m->[Qs (atM xs n).n,Qs (atM xs n).t][j]?=some v->w.cell? (Qa g (n*2+j))=some v
theorem zED.start{xs:List zH}(h:Zc w g xs n):zED w g xs n 0:=⟨h,fun j _ hj=>yR hj (yx j)⟩
theorem zED.below{w w':JY}{g n m:Nat}{xs:List zH}{B:Nat}(h:zED w g xs n m)(hb:Below B w w')(hB:g<B):zED w' g xs n m:=
 ⟨h.1.below hb hB,fun j v hj hv=>Jc hb hB (h.2 j v hj hv)⟩
theorem zED.set{m:Nat}{xs:List zH}(h:zED w g xs n m)(hn:n<xs.length)(hm:m<2)(hv:[Qs (atM xs n).n,Qs (atM xs n).t][m]?=some v):zED (w.setCell (Qa g (n*2+m)) v) g xs n (m+1):=by
 obtain⟨⟨h1,h2,h3⟩,h4⟩:=h;obtain⟨u,hu⟩:=Option.isSome_iff_exists.1 (h2 (n*2+m) Jo).1;rw[yY] at hu;have oth:∀o,o≠n*2+m->(w.setCell (Qa g (n*2+m)) v).cell? (Qa g o)=w.cell? (Qa g o):=fun o ho=>yj _ _ _ _ (fun e=>ho (by injection e with _ e;exact e.symm))
 refine⟨⟨by simpa[World.setCell] using h1,fun j hj=>⟨?_,?_⟩,fun i hi=>?_⟩,fun j u' hj H=>?_⟩
 ·by_cases e:0+j=n*2+m
  ·rw[e,yt _ _ _ hu];rfl
  ·rw[oth _ e];exact(h2 j hj).1
 ·rw[yv];exact(h2 j hj).2
 ·obtain⟨a0,a1⟩:=h3 i hi;exact⟨(oth _ Jo).trans a0,(oth _ Jo).trans a1⟩
 ·by_cases e:j=m
  ·subst e;rw[hv] at H;injection H with H;subst H;exact yt _ _ _ hu
  ·rw[oth _ (by omega)];exact h4 j u' Jo H
theorem zED.done{xs:List zH}(h:zED w g xs n 2):Zc w g xs (n+1):=by
 obtain⟨⟨h1,h2,h3⟩,h4⟩:=h;refine⟨h1,h2,fun i hi=>?_⟩;by_cases e:i=n
 ·subst e;exact⟨Ju (h4 0 _ Jo rfl),Ju (h4 1 _ Jo rfl)⟩
 ·exact h3 i Jo
theorem zED.cell{m:Nat}{xs:List zH}(h:zED w g xs n m)(hn:n<xs.length)(j:Nat)(hj:j<2):(∃u,w.cell? (Qa g (n*2+j))=some u)/\w.frozen? (Qa g (n*2+j))=false:=by
 have:=h.1.2.1 (n*2+j) Jo;rw[yY] at this;exact⟨Option.isSome_iff_exists.1 this.1,this.2⟩
structure zB7(w w':JY)(g:Nat):Prop where
 os:w'.os=w.os
 tape:w'.tape=w.tape
 output:w'.output=w.output
 size:w.heap.size<=w'.heap.size
 block:∀i,i<w.heap.size->i≠g->w'.heap[i]?=w.heap[i]?
theorem zB7.refl(w:JY)(g:Nat):zB7 w w g:=⟨rfl,rfl,rfl,yk _,fun _ _ _=>rfl⟩
theorem zB7.trans{w w1 w2:JY}{g:Nat}(h:zB7 w w1 g)(h':zB7 w1 w2 g):zB7 w w2 g:=
 ⟨h'.os.trans h.os,h'.tape.trans h.tape,h'.output.trans h.output,yw h.size h'.size,fun i hi a=>(h'.block i (yl hi h.size) a).trans (h.block i hi a)⟩
theorem zB7.below{w2:JY}(h:zB7 w w1 g)(h':Qb w1 w2):zB7 w w2 g:=h.trans ⟨h'.os,h'.tape,h'.output,h'.size,fun i hi _=>h'.block i hi⟩
theorem zB7.set(h:zB7 w w1 g)(o:Nat)(v:Value):zB7 w (w1.setCell (Qa g o) v) g:=
 h.trans ⟨rfl,rfl,rfl,Jt,fun _ _ hi=>je _ _ _ _ hi⟩
theorem zB7.grown(h:zB7 w w' g):w.grownBy w' (some g):=⟨h.os,h.tape,h.output,h.size,fun i hi e=>h.block i hi (fun x=>e (by rw[x]))⟩
theorem zJH(g cap k:Nat)(xs:List zH)(w:JY)(hm:xs.length<=1048576)(h1:1<=k)(hk:k<=10000000)(hw:Zc w g xs xs.length):Calls prog 11 #[Ql g xs.length cap,Qi k] w fun e w'=>(∃k':Nat,e=.returned (Qi k')/\Hid (k'=k+2*xs.length))/\Hid (Zc w' g (zIT k xs.length) xs.length)/\Hid (zB7 w w' g):=by
 have V:=zB (hw.anew (zNH k xs.length).symm);clear hw;go_enter func11,ntmps11;go_wp2;go_loopw [1,5] (fun kk i wr=>∃n c:Nat,n<=xs.length/\i=Qi n/\kk=Qi c/\1<=c/\c<=100000000/\Hid (c=k+2*n)/\Hid (Zc wr g (zIT k xs.length) n)/\Hid (zB7 w wr g)) (fun _ i _=>xs.length-(intOf i).toNat);case atStart=>exact⟨0,k,ym _,rfl,rfl,h1,Jo,zB Jo,V,zB (zB7.refl _ _)⟩
 case round=>
  clear V;obtain⟨n,c,hn,rfl,rfl,a,b,hc,hf,X⟩:=hrel;by_cases p:n<xs.length
  ·have h:n<(zIT k xs.length).length:=by rw[zNH];exact p
   have P:=zB (by rw[zPw p,zA hc]:atM (zIT k xs.length) n=mkM c);have K:=zB (zED.start hf);have A:=hf.1;clear hf;obtain⟨⟨u0_0,e0_0⟩,f0_0⟩:=K.cell h 0 Jo;obtain⟨⟨u0_1,e0_1⟩,f0_1⟩:=K.cell h 1 Jo;simp only[Nat.add_zero] at e0_0 f0_0;go_wp2_with fail;go_call zC2 _ (c+0) _ Jo Jo Jo as e w1 ⟨rfl,hb1⟩;have Q:=zB (K.below hb1 K.1.1);have j:=zB (X.below hb1);clear K X hb1 e0_0 f0_0 e0_1 f0_1;obtain⟨⟨u1_0,e1_0⟩,f1_0⟩:=Q.cell h 0 Jo;obtain⟨⟨u1_1,e1_1⟩,f1_1⟩:=Q.cell h 1 Jo;simp only[Nat.add_zero] at e1_0 f1_0;have H:=zB (Q.set h Jo (m:=0) (v:=Qs (MT c)) (by rw[zA P];rfl));have x:=zB (j.set (n*2+0) (Qs (MT c)));clear Q j;go_wp2_with fail;go_call zC2 _ (c+1) _ Jo Jo Jo as e w2 ⟨rfl,hb2⟩;have q:=zB (H.below hb2 H.1.1);have J:=zB (x.below hb2);clear H x hb2 e1_0 f1_0 e1_1 f1_1;obtain⟨⟨u2_0,e2_0⟩,f2_0⟩:=q.cell h 0 Jo;obtain⟨⟨u2_1,e2_1⟩,f2_1⟩:=q.cell h 1 Jo;simp only[Nat.add_zero] at e2_0 f2_0;have u:=zB (q.set h Jo (m:=1) (v:=Qs (MT (c+1))) (by rw[zA P];rfl));have Y:=zB (J.set (n*2+1) (Qs (MT (c+1))));clear q J;go_wp2_with fail;refine⟨⟨n+1,c+2,Jo,Jn,Jn,Jo,?_,zB ?_,zB u.done,Y⟩,Ji⟩
   ·have:=zA hc;omega
   ·have:=zA hc;omega
  ·have y:n=xs.length:=Jo;have HF:Zc wr g (zIT k xs.length) xs.length:=by
    have:=zA hf;rw[y] at this;exact this
   have U:=zB HF;have HC:=zB (by have:=zA hc;omega:c=k+2*xs.length);clear HF y hc;go_wp2;go_ret;exact⟨⟨c,rfl,HC⟩,U,X⟩
theorem zOn(g cap k n:Nat)(w:JY)(hm:n<=1048576)(h1:1<=k)(hk:k<=10000000)(hw:Zc w g (zIT k n) n):Calls prog 12 #[Ql g n cap,Qi k] w fun e w'=>(∃k':Nat,e=.returned (Qi k')/\Hid (k'=k+2*n))/\Qb w w':=by
 have K:=zB hw;clear hw;go_enter func12,ntmps12;go_wp2;go_loopw [1,5] (fun kk i wr=>∃m c:Nat,m<=n/\i=Qi m/\kk=Qi c/\1<=c/\c<=100000000/\Hid (c=k+2*m)/\Qb w wr) (fun _ i _=>n-(intOf i).toNat);case atStart=>exact⟨0,k,ym _,rfl,rfl,h1,Jo,zB Jo,yJ _ _⟩
 case round=>
  obtain⟨m,c,Y,rfl,rfl,X,y,hc,H⟩:=hrel;by_cases Q:m<n
  ·have h:=((K.2.2 m Q).below H K.1);have q:atM (zIT k n) m=mkM c:=by rw[zPw Q,zA hc]
   have z0:g<wr.heap.size:=yl K.1 H.size;unfold zGJ at h;rw[q] at h;simp only[mkM,yY] at h;obtain⟨q0_0,q0_1⟩:=h;have x:(m:Int)<(n:Int):=Jo;have B0:=H;clear q;go_wp2_with fail;go_region_held (fun w'=>w'.cell? (Qa g (m*2))=some (Qs (MT c))/\w'.cell? (Qa g (m*2+1))=some (Qs (MT (c+1)))) (go_keep)
    (first|(go_at_call 36;refine(zC2 _ (c+0) _ Jo Jo Jo).mono ?_;rintro e w1 ⟨rfl,hb1⟩;have q1_0:=(hb1.cell (p:=(Qa g (m*2))) z0).trans (show wr.drew.cell? (Qa g (m*2))=_ from q0_0);have q1_1:=(hb1.cell (p:=(Qa g (m*2+1))) z0).trans (show wr.drew.cell? (Qa g (m*2+1))=_ from q0_1)))
   have z1:g<w1.heap.size:=yl z0 hb1.size;have B1:=B0.trans (((yJ wr.heap.size wr).drew.trans hb1).mono B0.size);clear q0_0 q0_1 hb1 z0;go_wp2_with fail;go_region_held (fun w'=>w'.cell? (Qa g (m*2))=some (Qs (MT c))/\w'.cell? (Qa g (m*2+1))=some (Qs (MT (c+1)))) (go_keep)
    (first|(go_at_call 36;refine(zC2 _ (c+1) _ Jo Jo Jo).mono ?_;rintro e w2 ⟨rfl,hb2⟩;have q2_0:=(hb2.cell (p:=(Qa g (m*2))) z1).trans (show w1.drew.cell? (Qa g (m*2))=_ from q1_0);have q2_1:=(hb2.cell (p:=(Qa g (m*2+1))) z1).trans (show w1.drew.cell? (Qa g (m*2+1))=_ from q1_1)))
   have z2:g<w2.heap.size:=yl z1 hb2.size;have B2:=B1.trans (((yJ w1.heap.size w1).drew.trans hb2).mono B1.size);clear q1_0 q1_1 hb2 z1;go_wp2;refine⟨⟨m+1,c+2,Jo,Jn,Jn,Jo,?_,zB ?_,B2⟩,Ji⟩
   ·have:=zA hc;omega
   ·have:=zA hc;omega
  ·have HC:=zB (by have:=zA hc;omega:c=k+2*n);clear hc;go_wp2;go_ret;exact⟨⟨c,rfl,HC⟩,H⟩
open Go.ChangeShapes Go.WideShapes Go.ChangeAt Go.Joins
open Go.Deep (trod_struct3)
theorem OpnM.cells9:prog.cellsOf 9=1:=Jk
theorem OpnM.cells3:prog.cellsOf 3=1:=Jk
theorem OpnM.cellsE:prog.cellsOf 42=2:=Jk
def zR2(o:zH):Prop:=o.n.size<=maxLen/\o.t.size<=maxLen
def zGr(xs:List zH):Prop:=∀i,i<xs.length->zR2 (atM xs i)
theorem zGr.sized{xs:List zH}(h:zGr xs):zBk xs:=fun i hi=>⟨(h i hi).1,(h i hi).2⟩
section
variable{H : Type}{enc : TypeId×Value → H}{W : World}{base : Nat}{spare : Nat → Bool}{held : Bool}
theorem zR3{cs:List Value}{x:DataW H×List MemPlace}(h:DataW.trod enc prog W base spare held n 42 cs=some x):∃o:zH,cs=[.string o.n,.string o.t]/\zR2 o:=by
 obtain⟨y0,y1,m,_,k,g0,g1⟩:=trod_struct2 underlying42 h;rw[OpnM.cellsE] at k;match cs,k with
 |[c0,c1],_=>
  simp only[OpnM.cells9] at g0 g1;obtain⟨v0,e0,_,w0⟩:=DataW.trod_string underlying9 g0;obtain⟨v1,e1,_,w1⟩:=DataW.trod_string underlying9 g1;simp at e0 e1;subst e0 e1;exact⟨⟨v0,v1⟩,rfl,w0,w1⟩
theorem zOo{x:Addr}(h:W.cell? (x.add 0)=some v):x=(Qa x.block x.off):=by
 obtain⟨b,off,spot⟩:=x;have hs:spot=none:=by
  have:=World.cell?_spot h;simpa[Addr.add] using this
 subst hs;rfl
theorem zOp{fuel:Nat}{cs:List Value}{x:DataW H×List MemPlace}(h:DataW.trod enc prog W 0 (fun _=>true) held fuel 22 cs=some x):∃(a:Option Addr)(cap:Nat)(xs:List zH),cs=[.slice a xs.length cap]/\xs.length<=maxLen/\zB3 W a xs/\zGr xs:=by
 rcases Go.Deep.open_slice underlying22 h with⟨rfl,_⟩|⟨a,len,cap,m,n,D,Pl,rfl,_,hl,hm,Q,_,hx⟩
 ·exact⟨none,0,[],rfl,ym _,yS rfl,fun i hi=>yR hi (yx i)⟩
 have y:len<=m:=by rw[Q];simpa using hl
 rw[OpnM.cellsE] at hx;have each:∀i,i<len->∃o:zH,(W.cell? (a.add (i*2))=some (.string o.n)/\W.cell? (a.add (i*2+1))=some (.string o.t))/\zR2 o:=by
  intro i hi;obtain⟨cs',h1,h2⟩:=hx i Jo;obtain⟨_,X,k⟩:=World.cells?_some h1;obtain⟨o,rfl,ho⟩:=zR3 h2;have e0:=k 0 Jo;have e1:=k 1 Jo;rw[Go.Deep.add_add] at e0 e1;exact⟨o,⟨Ju e0,Ju e1⟩,ho⟩
 obtain⟨f,hf⟩:=@Go.Deep.choose_lt zH ⟨zH.zero⟩ len _ each;have K:((List.range len).map f).length=len:=Js;have q:∀i,i<len->atM ((List.range len).map f) i=f i:=fun i hi=>by simp[atM,hi]
 refine⟨some a,cap,(List.range len).map f,by rw[K],by rw[K];omega,?_,fun i hi=>by rw[K] at hi;rw[q i hi];exact(hf i hi).2⟩;by_cases h0:len=0
 ·exact yS (by rw[K];exact h0)
 ·have hs:=zOo (show W.cell? (a.add 0)=_ from(hf 0 Jo).1.1);refine yU ⟨a.block,a.off,by rw[<-hs],fun i hi=>?_,?_⟩
  ·rw[K] at hi;obtain⟨⟨e0,e1⟩,_⟩:=hf i hi;rw[hs,Addr.add_mid] at e0 e1;unfold zGJ;rw[q i hi];exact⟨e0,by simpa[Nat.add_assoc] using e1⟩
  ·have:=block_lt_of_cell (show W.cell? (a.add 0)=_ from(hf 0 Jo).1.1);simpa[Addr.add] using this
end
end Go.Proofs.YtadiaghhackbjaaGreatDoor
