import Derived.Lib.AppendIntMem
import Derived.Shelf.Strconv.Itoa3
import Derived.Test.YtadiaghhackbjaaGreatDoorU26
namespace Go.Proofs.YtadiaghhackbjaaGreatDoor
set_option linter.all false
set_option maxHeartbeats 0
set_option maxRecDepth 100000
open Proofs.Tryz RowKit
variable{s:ByteArray}
def Rp1(o b:OpR)(l l':JZ):Prop:=(OpW (wds l) o/\l'=zA8 (dW b))\/(¬ OpW (wds l) o/\l'=l)
def zOc(o b:OpR):List ByteArray->List ByteArray->Prop
 |[],ls'=>ls'=[]
 |l::r,ls'=>∃l' r',ls'=l'::r'/\Rp1 o b l l'/\zOc o b r r'
def jn(xs:List JZ):ByteArray:=⟨(Lib.join (xs.map (·.data.toList)) [10]).toArray⟩
theorem zWz(x:JZ):jn [x]=x:=by
 cases x
 simp[jn,Lib.join_one]
theorem zQh(x y:JZ)(r:List JZ):jn (x::y::r)=x++⟨#[10]⟩++jn (y::r):=by
 apply ByteArray.ext;simp[jn,Lib.join,List.intercalate,List.intersperse]
theorem zRb:wds ByteArray.empty=[]:=by
 have h:=zCy ByteArray.empty 0 (yk _);have e:nx 32 ByteArray.empty 0=0:=zHV (yk _) (yk _) (yk _) (fun k _ h=>Jo) (fun h=>by simp at h);rw[zMx,h,e];simp
theorem Rp1.nil{o b:OpR}{l:JZ}(h:Rp1 o b ByteArray.empty l):l=ByteArray.empty:=by
 rcases h with⟨h,_⟩|⟨_,h⟩
 ·rw[zRb] at h;obtain⟨k,t,l,_,⟨e,_⟩|⟨_,e,_⟩⟩:=h<;>cases e
 ·exact h
theorem zW0{z a:Nat}(hz:z<s.size)(hb:bt s z=10)(ha:a<=z):nx 10 (s.extract 0 (z+1)) a=nx 10 s a/\nx 10 s a<=z:=by
 obtain⟨h1,h2,h3,h4⟩:=zAc 10 s a Jo;have hq:nx 10 s a<=z:=by
  rcases Nat.lt_or_ge z (nx 10 s a) with h|h
  ·exact yR hb (h3 z ha h)
  ·exact h
 have hs:(s.extract 0 (z+1)).size=z+1:=by rw[Za];omega
 have H:∀k,k<=z->bt (s.extract 0 (z+1)) k=bt s k:=fun k hk=>by have:=zOj s 0 (z+1) k Jo;rwa[yY] at this
 exact⟨zHV Jo h1 Jo (fun k k1 k2=>by rw[H k Jo];exact h3 k k1 k2) (fun _=>by rw[H _ hq];exact h4 Jo),hq⟩
theorem zQi{z a:Nat}(hz:z<s.size)(hb:bt s z=10)(ha:a<=z):pcs 10 (s.extract 0 (z+1)) a=(a,nx 10 s a)::pcs 10 (s.extract 0 (z+1)) (nx 10 s a+1):=by
 obtain⟨e,hq⟩:=zW0 hz hb ha;have hs:(s.extract 0 (z+1)).size=z+1:=by rw[Za];omega
 rw[zAw 10 _ a (by omega),e,yQ (by omega)]
theorem zVr(s:JZ){z a q:Nat}(hq:q<=z+1):(s.extract 0 (z+1)).extract a q=s.extract a q:=by
 rw[ByteArray.extract_extract];congr 1<;>omega
theorem zVs{z:Nat}(hz:z<s.size):pcs 10 (s.extract 0 (z+1)) (z+1)=[(z+1,z+1)]:=by
 have hs:(s.extract 0 (z+1)).size=z+1:=by rw[Za];omega
 have e:nx 10 (s.extract 0 (z+1)) (z+1)=z+1:=zHV Jo (yk _) Jo (fun k h1 h2=>Jo) (fun h=>Jo);rw[zAw 10 _ (z+1) (by omega),e,yP (by omega)]
theorem zOd{s:JZ}{o b:OpR}{u:List JZ}{os':List OpR}{bd:JZ}{l:Int}{L:List (Nat×Nat)}(X:bd≠ByteArray.empty):∀(f a i m:Nat)(us:List JZ)(os:List OpR),s.size-a<f->a<=s.size->L.drop i=pcs 10 s a->UnF s (pcs 10 s a) m us os u os' bd 0 l ->
  ∃z,z<s.size/\a<=z/\bt s z=10/\bd=s.extract (z+1) s.size/\∀t0 ls',HdI s o b L i t0->zOc o b ((pcs 10 (s.extract 0 (z+1)) a).map fun p=>(s.extract 0 (z+1)).extract p.1 p.2) ls'->HdI s o b L (bgN s (pcs 10 s a) i) (t0++jn ls')
 |0,a,i,m,us,os,hf,ha,hd,hu=>Jo
 |f+1,a,i,m,us,os,hf,ha,hd,hu=>by
  obtain⟨h1,h2,h3,h4⟩:=zAc 10 s a ha;have k:=zAw 10 s a ha;obtain⟨q,hq⟩:=Jx (nx 10 s a);rw[<-hq] at h1 h2 h3 h4 k;have Q:L.getD i (0,0)=(a,q):=by
   have:=yV (fun x=>x.getD 0 (0,0)) hd;simp only[k] at this;simpa[yn,List.getElem?_drop] using this
  have one:∀{z l' t0},q<=z+1->Rp1 o b ((s.extract 0 (z+1)).extract a q) l'->HdI s o b L i t0->HdI s o b L (i+1) (t0++l'++⟨#[10]⟩):=by
   intro z l' t0 j hr ht;rw[zVr s j] at hr;refine⟨t0,ht,?_⟩;rw[Q];rcases hr with⟨x,rfl⟩|⟨x,rfl⟩
   ·exact yS ⟨x,rfl⟩
   ·exact yU ⟨x,rfl⟩
  rw[k] at hu ⊢;rcases hu with⟨hw,_,_,hb,_⟩|⟨hw,⟨us',os2,_,hu⟩|⟨_,_,_,_,hc,_⟩⟩
  ·have H:q<s.size:=by
    rcases Nat.lt_or_ge q s.size with h|h
    ·exact h
    ·rw[zBa,yP Jo] at hb;exact yR hb X
   refine⟨q,H,h1,h4 H,by rw[hb,zBa,yQ H],fun t0 ls' ht hr=>?_⟩;rw[zQi H (h4 H) h1,<-hq,zVs H] at hr;simp only[List.map_cons,List.map_nil,zOc] at hr;obtain⟨l',r',e4,r1,l2,r2,e5,r3,e6⟩:=hr;rw[e6] at e5;rw[e5] at e4;rw[e4];have e7:(s.extract 0 (q+1)).extract (q+1) (q+1)=ByteArray.empty:=by apply ByteArray.ext;simp
   rw[e7] at r3;have e2:=r3.nil;have K:bgN s ((a,q)::(if q<s.size then pcs 10 s (q+1) else[])) i=i+1:=by simp only[bgN];rw[yQ hw]
   rw[K,zQh,zWz,e2];have:=one (Nat.le_succ q) r1 ht;have e3:t0++(l'++⟨#[10]⟩++ByteArray.empty)=t0++l'++⟨#[10]⟩:=by apply ByteArray.ext;simp
   rw[e3];exact this
  ·have H:q<s.size:=by
    rcases Nat.lt_or_ge q s.size with h|h
    ·exact h
    ·rw[yP Jo] at hu;have:=hu.2.2.2.1;cases this
   rw[yQ H] at hu;obtain⟨z,z1,z2,z3,z4,z5⟩:=zOd X f (q+1) (i+1) (m+1) us' os2 Jo Jo (by
    have:=yV List.tail hd
    rw[k,yQ H] at this
    simpa[List.tail_drop] using this) hu
   refine⟨z,z1,Jo,z3,z4,fun t0 ls' ht hr=>?_⟩;rw[zQi z1 z3 Jo,<-hq] at hr;simp only[List.map_cons,zOc] at hr;obtain⟨l',r',e4,r1,r2⟩:=hr;rw[e4];have K:bgN s ((a,q)::(if q<s.size then pcs 10 s (q+1) else[])) i=bgN s (pcs 10 s (q+1)) (i+1):=by simp only[bgN];rw[yP hw,yQ H]
   rw[K];have hx:=z5 _ _ (one Jo r1 ht) r2;have Y:∃y r,r'=y::r:=by
    have hs:(s.extract 0 (z+1)).size=z+1:=by rw[Za];omega
    rw[zAw 10 _ (q+1) (by omega)] at r2;simp only[List.map_cons,zOc] at r2;obtain⟨y,r,e,_⟩:=r2;exact⟨y,r,e⟩
   obtain⟨y,r,e5⟩:=Y;rw[e5] at hx ⊢;rw[zQh];have e3:t0++(l'++⟨#[10]⟩++jn (y::r))=t0++l'++⟨#[10]⟩++jn (y::r):=by apply ByteArray.ext;simp
   rw[e3];exact hx
  ·cases hc
theorem zW2{o b:OpR}{u:List JZ}{os:List OpR}{bd:JZ}{l:Int}(h:zy s u os bd 0 l)(H:bd≠ByteArray.empty):∃z,z<s.size/\bd=s.extract (z+1) s.size/\∀ls',zOc o b ((pcs 10 (s.extract 0 (z+1)) 0).map fun p=>(s.extract 0 (z+1)).extract p.1 p.2) ls'->HdQ s o b (jn ls'):=by
 rcases h with⟨_,_,_,_,h,_⟩|⟨_,h⟩
 ·cases h
 obtain⟨z,z1,_,_,z4,z5⟩:=zOd (o:=o) (b:=b) (L:=pcs 10 s 0) H (s.size+1) 0 0 _ _ _ Jo (ym _) rfl h;refine⟨z,z1,z4,fun ls' hr=>⟨_,rfl,?_⟩⟩;have:=z5 ⟨#[]⟩ ls' rfl hr;have e:(⟨#[]⟩:JZ)++jn ls'=jn ls':=by apply ByteArray.ext;simp
 rw[e] at this;exact this
open Go.Shelf
def zRc:Go.Shelf.Ren:=⟨fun|171=>156|243=>196|246=>217|283=>234|284=>235|285=>236|286=>237|129=>246|317=>245|318=>247|319=>248|320=>249|337=>250|338=>251|n=>n,fun|3=>3|9=>9|2=>2|4=>4|171=>312|0=>0|53=>306|37=>102|5=>5|173=>315|212=>331|51=>323|20=>20|213=>332|46=>305|232=>336|233=>337|n=>n,fun|17=>5|18=>6|19=>7|n=>n⟩
theorem zXS:Go.Proofs.LaysM.n171 prog zRc:=by constructor<;>first|kernel_rfl|(intro w;kernel_rfl)|(constructor<;>first|kernel_rfl|(intro w;kernel_rfl))
def zFD(w:JY):Prop:=Lib.TabIs prog w "internal/strconv.uint64pow10" .u64 Lib.pow10Tab
theorem zFD.below{w w':JY}(h:zFD w)(hb:Qb w w'):zFD w':=
 Go.Joins.tab_stays (g:=5) Jk h hb (yk _)
theorem zTz:∀(f n:Nat),n<10 ^ f->1<=f->(⟨(Lib.decDigits n).toArray⟩:JZ)=zCH f n
 |0,n,_,h=>Jo
 |f+1,n,hn,_=>by
  rw[Lib.decDigits];by_cases h:n<10
  ·rw[dif_pos h];simp only[zCH,yQ h];rfl
  ·rw[dif_neg h];have hf:1<=f:=by
    rcases Nat.eq_zero_or_pos f with rfl|x
    ·simp at hn;omega
    ·exact x
   have:=zTz f (n/10) (by rw[Nat.pow_succ] at hn;omega) hf;simp only[zCH,yP h];rw[<-this];apply ByteArray.ext;simp[one]
theorem zT0(n:Nat)(w:JY)(h:n<1000000)(ht:zFD w):Calls prog 156 #[Qi n] w fun e w'=>e=.returned (Qs (zCH 7 n))/\Qb w w':=by
 go_call Any.strconv_Itoa zXS (n:Int) Jo Jo w ht as e w' ⟨rfl,k,os,rfl⟩;have e1:Lib.itoa (n:Int)=Lib.decDigits n:=Lib.itoa_nonneg n;rw[e1,zTz 7 n Jo Jo];exact⟨rfl,Lib.below_grow _ w (yk _) k os⟩
theorem zKQ(sd:Int)(w:JY):Calls prog 157 #[Qi sd] w fun e w'=>e=.returned (Qs (sdW sd))/\w'=w:=by
 unfold sdW;by_cases h1:sd=1
 ·subst h1;go_enter func157,ntmps157;go_wp2;go_ret;exact⟨rfl,rfl⟩
 have e1:(sd==1)=false:=by simp[h1]
 rw[yP h1];by_cases h2:sd=2
 ·subst h2;go_enter func157,ntmps157;go_wp2;go_ret;exact⟨rfl,rfl⟩
 have e2:(sd==2)=false:=by simp[h2]
 rw[yP h2];go_enter func157,ntmps157;go_wp2;go_ret;exact⟨rfl,rfl⟩
theorem zHT(o:OpR)(w:JY)(h:OpT o)(hs:o.s.size<=16)(ht:zFD w):Calls prog 108 #[.agg #[Qs o.s,Qi o.k,Qi o.l,Qi o.sd]] w fun e w'=>e=.returned (Qs (zA8 (dW o)))/\Qb w w':=by
 obtain⟨h1,⟨n,hn,j⟩,h3⟩:=h;have hd:=zSq (o:=o);have K:=zQR (o:=o);have H:=zWW (o:=o);obtain⟨J,hJ⟩:=Jx (zA8 (dW o));rw[<-hJ] at hd K H ⊢;obtain⟨s,k,l,sd⟩:=o;simp only at hn h3 hs hd K H ⊢;subst hn;have e:((n:Nat):Int).toNat=n:=rfl;rw[e] at hd K H;have HI:=zB (zT0 n (w.alloc (.cells #[Qs s,Qi k,Qi n,Qi sd] 33)) j (ht.below (zC _ _)));have y:=zIv 7 n;obtain⟨D,hD⟩:=Jx (zCH 7 n);rw[<-hD] at HI y hd K H;obtain⟨S,hS⟩:=Jx (sdW sd);have Y:=zNr sd;have x:=zB (fun W=>zKQ sd W);rw[<-hS] at Y H x;clear hJ hD e h1 hS;have HD:=zB (yK hd (yK K H));clear hd K H;go_enter func108,ntmps108;go_wp2_with fail;go_call zA HI as e w1 ⟨rfl,hb1⟩;have Q:=zB ((zC w _).trans (hb1.mono Js));have kc:=fun q=>hb1.cell (p:=Qa w.heap.size q) Js
 have c0:w1.cell? (Qa w.heap.size 0)=some (Qs s):=(kc 0).trans Jg;have c1:w1.cell? (Qa w.heap.size 1)=some (Qi k):=(kc 1).trans Jg;have c3:w1.cell? (Qa w.heap.size 3)=some (Qi sd):=(kc 3).trans Jg;clear kc hb1 HI;rcases h3 with⟨rfl,_⟩|⟨rfl,_⟩|⟨rfl,h3⟩
 ·have e:=HD.1 rfl;go_wp2_with fail;go_ret;exact⟨by rw[e];first|rfl|(congr 2;apply ByteArray.ext;simp[zWV,one]),Q⟩
 ·have e:=HD.2.1 rfl;go_wp2_with fail;go_ret;exact⟨by rw[e];first|rfl|(congr 2;apply ByteArray.ext;simp[zSp,one]),Q⟩
 ·have HE:=zB (by rw[(zA HD).2.2 rfl];apply ByteArray.ext;simp[zUr,one]:J=⟨#[105,110,102,105,120,32]⟩++s++⟨#[32]⟩++D++⟨#[32]⟩++S);clear h3;obtain⟨I,hI⟩:∃I:JZ,I=⟨#[105,110,102,105,120,32]⟩:=⟨_,rfl⟩;have X:I.size=6:=by rw[hI];rfl
  have hB:(⟨#[32]⟩:JZ).size=1:=rfl;have q:=fun(a b:JZ)(h:a.size+b.size<=200)(W:JY)=>run_string_add_sum (P:=prog) (w:=W) a b Jo
  have r1:=q I s Jo;have r2:=q (I++s) ⟨#[32]⟩ (by simp only[zA7];omega);have r3:=q (I++s++⟨#[32]⟩) D (by simp only[zA7];omega);have r4:=q (I++s++⟨#[32]⟩++D) ⟨#[32]⟩ (by simp only[zA7];omega);have r5:=q (I++s++⟨#[32]⟩++D++⟨#[32]⟩) S (by simp only[zA7];omega);rw[hI] at r1 r2 r3 r4 r5;clear q hB X hI;go_wp2_with fail;go_quiet ((go_at_call 157;exact Calls.quiet_of_same (x _)));go_wp2_with fail;go_ret;exact⟨by rw[zA HE];rfl,zHM Q nq⟩
theorem zKR(s:JZ)(z:Nat)(w:JY)(hs:s.size<=20000)(hz:z<=s.size):Calls prog 62 #[Qs s,Qs (s.extract z s.size)] w fun e w'=>e=.returned (Qs (s.extract 0 z))/\w'=w:=by
 obtain⟨b,hb⟩:=Jx (s.extract z s.size);have H:b.size=s.size-z:=by rw[hb,Za];omega
 rw[<-hb];have HH:Calls prog 150 #[Qs s,Qs b] w fun e w'=>e=.returned (.bool true)/\w'=w:=by
  have h1:(b.size:Int)<=(s.size:Int):=Jo;have h2:(s.size:Int)-(b.size:Int)=(z:Int):=Jo;have h3:((s.extract z s.size).toList==b.toList)=true:=by rw[hb];simp
  clear hb H;go_enter func150,ntmps150;go_wp2;go_ret;exact⟨rfl,rfl⟩
 have H1:=zB HH;have HT:Calls prog 104 #[Qs s,Qs b] w fun e w'=>e=.returned (Qs (s.extract 0 z))/\w'=w:=by
  have h2:(s.size:Int)-(b.size:Int)=(z:Int):=Jo;have h3:(z:Int)<=(s.size:Int):=Jo;clear hb H HH;go_enter func104,ntmps104;go_wp2_with fail;go_call zA H1 as e w' ⟨rfl,h⟩;obtain rfl:=h.symm;go_wp2_with fail;go_ret;exact⟨rfl,rfl⟩
 have H2:=zB HT;clear HT HH H1 hb H;go_enter func62,ntmps62;go_wp2_with fail;go_call zA H2 as e w' ⟨rfl,h⟩;obtain rfl:=h.symm;go_wp2_with fail;go_ret;exact⟨rfl,rfl⟩
end Go.Proofs.YtadiaghhackbjaaGreatDoor
