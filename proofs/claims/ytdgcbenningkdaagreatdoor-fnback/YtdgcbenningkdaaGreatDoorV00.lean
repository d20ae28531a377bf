import Derived.Handy
import Derived.Test.YtdgcbenningkdaaGreatDoorRows
import Derived.WalkSpells
import Derived.WalkLawsBesides
import Derived.Lib.Walk
import Derived.Deep.Light
import Derived.Deep.RegionHeld
import Derived.Lib.SplitLaws
import Derived.BigQuiet
import Derived.Deep.AppendLies
namespace Go.Proofs.YtdgcbenningkdaaGreatDoor
set_option linter.all false
set_option maxHeartbeats 0
set_option maxRecDepth 100000
open Proofs.Tryz RowKit
open _root_.Array renaming size→O
open List renaming length→Z
open Option renaming some→E,none→JL
open Obj renaming cells→JM
open Bool renaming false→Vt,true→Vp
open Proofs.Tryz renaming prog→Vb
open Value renaming agg→b9,slice→i6,bool→i7
open Ending renaming returned→i9
open _root_.ByteArray renaming empty→j6
theorem F{α}{a:α}:a=a:=rfl
def Jz{p q:Prop}(a:q)(h:q->p:=by intro this;simp at this;omega):p:=h a
def Jy{p q:Prop}(a:q)(h:q->p:=by intro this;omega):p:=h a
def Ju{p q:Prop}(a:q)(h:q->p:=by intro this;simpa using this):p:=h a
def Jx{α:Type}(a:α):∃x,x=a:=⟨_,F⟩
abbrev G(n:Int):Value:=.int .i64 n
abbrev W(s:ByteArray):Value:=.string s
abbrev J(b o:Nat):Addr:=⟨b,o,none⟩
abbrev Ql(g n c:Nat):Value:=i6 (some ⟨g,0,none⟩) n c
abbrev Qp(g:Nat):Value:=.pointer (some ⟨g,0,none⟩)
abbrev Qb(w a:World):Prop:=Below w.heap.size w a
def Jc{B b o w a x}(h:Below B w a)(c:b<B)(e:w.cell? ⟨b,o,JL⟩=x):a.cell? ⟨b,o,JL⟩=x:=(h.cell (p:=⟨b,o,JL⟩) c).trans e
def Vf{B b o w a x}(h:Below B w a)(c:b<B)(e:w.frozen? ⟨b,o,JL⟩=x):a.frozen? ⟨b,o,JL⟩=x:=(h.frozen (p:=⟨b,o,JL⟩) c).trans e
def I{p:Prop}(h:p:=by omega):p:=h
def Jk{p:Prop}(h:p:=by kernel_rfl):p:=h
def Jg{p:Prop}(h:p:=by simp[go_sem]):p:=h
def Jq{p:Prop}(h:p:=by simp;omega):p:=h
def Js{p:Prop}(h:p:=by simp):p:=h
def Ji{p:Prop}(h:p:=by simp[intOf];omega):p:=h
def Jd{p:Prop}(h:p:=by decide):p:=h
def Jn{p:Prop}(h:p:=by go_num):p:=h
def Jm{p:Prop}(h:p:=by unfold maxLen;omega):p:=h
def Jb{p:Prop}(h:p:=by simp[Value.ownBlock]):p:=h
def Jr{p:Prop}(h:p:=by simp only;omega):p:=h
def Jt{p:Prop}(h:p:=by simp[World.setCell]):p:=h
def Ja{p:Prop}(h:p:=by assumption):p:=h
def Jh{p:Prop}(h:p:=by first|omega|(simp;done)|(simp;omega)):p:=h
abbrev JZ:=ByteArray
abbrev JY:=World
abbrev Jl:Value:=i6 none 0 0
abbrev Je(b o n c:Nat):Value:=i6 (some ⟨b,o,none⟩) n c
abbrev Jw:=List UInt8
abbrev JD:=List Value
abbrev JG:=List Int
abbrev Jv:=List JZ
def ya:=@List.getElem_cons_succ
def yb:=@List.getElem_cons_zero
def yc:=@List.getElem_toArray
def ye:=@List.setIfInBounds_toArray
def yg:=@List.set_cons_zero
def yh:=@List.set_cons_succ
def yj:=@World.cell?_setCell_other
def yk{a}:=Nat.le_refl a
def ym:=@Nat.lt_of_lt_of_le
def yn{a}:=Nat.zero_le a
def yq:=@List.getD_eq_getElem?_getD
def yr:=@List.length_append
def yt:=@List.getElem?_eq_getElem
def yu:=@World.cell?_setCell_same
def yv:=@World.cell?_of_block
def yx{a b c d}:=World.frozen?_setCell a b c d
def yy:=@Nat.le_trans
def yz:=@Nat.not_lt_zero
def yA:=@Int.tmod_eq_emod_of_nonneg
def yB:=@List.length_cons
def yC:=@ByteArray.size_extract
def yD:=@List.append_assoc
def yE:=@List.mem_of_getElem?
def yF:=@World.rangeAt_of_block
def yG:=@World.frozen?_of_block
def yH:=@List.getElem?_append_left
def yI:=@ByteArray.toList_eq
def yJ:=@World.ownsRow_lit
def yK:=@AllReadyH.cons
def yL:=@AllReadyH.nil
def yN{a b}:=Below.refl a b
def yO:=@And.intro
def yP:=@wpList_append_own_at
def yQ:=@bodyPost_ret
def yR:=@wpAnyH_ready
def yS:=@if_neg
def yU:=@if_pos
def yV:=@absurd
def yW:=@Or.inl
def yX:=@Or.inr
def yY:=@congrArg
def yZ:=@decide_eq_false_iff_not
def jc:=@beq_eq_false_iff_ne
def jd:=@Nat.zero_add
def je:=@List.length_nil
def jf:=@List.getElem?_eq_some_iff
def jg:=@List.length_eq_zero_iff
def jh:=@Below.heap_setCell
def ji:=@World.ownsRow.lt
def jk:=@World.block_lt_of_cell?
def jl:=@block_lt_of_cell
def jm:=@List.getElem?_cons_zero
def jp:=@List.getElem?_cons_succ
def jq:=@Bool.false_ne_true
def jr:=@List.getElem?_toArray
def jt{a b c d}:=World.ownsRow_nil a b c d
def ju:=@List.mem_append
def jw:=@Option.some.injEq
def jx:=@Option.map_eq_some_iff
def jy:=@ByteArray.ext
def jz:=@Option.some.inj
def jA:=@World.new_ne
def jB:=@Bool.and_eq_true
def jC:=@List.map_cons
def jD:=@World.ownsRow.kept
def jE:=@List.mem_singleton
def jF:=@List.nil_append
def jG:=@ByteArray.data_append
def jH:=@List.mem_cons
def jI:=@Bool.eq_iff_iff
def jJ:=@List.take_length
def jK:=@World.ownsRow.cellAt
def jL:=@heap_alloc_new
def jM:=@decide_eq_true_eq
def jN:=@of_decide_eq_true
def jO:=@Addr.add_mid
def jP:=@List.take_succ_eq_append_getElem
def jQ:=@List.take_add_one
def jR:=@List.filter_cons_of_pos
def jS:=@List.filter_cons_of_neg
variable{B b cap g i j n off:Nat}{a:Option Addr}{e:TypeId}{l:Jw}{s t:ByteArray}{u:Value}{us ws:List ByteArray}{w w' w1:World}
def S{p}(h:p):Hid p:=h
def D{p}(h:Hid p):p:=h
def JT{a}(c:Qb a w1):(∀b o,b<O a.1->w1.cell? (J b o)=a.cell? (J b o))/\(∀b o,b<O a.1->w1.frozen? (J b o)=a.frozen? (J b o)):=
 ⟨λb o h=>c.cell (p:=J b o) h,λb o h=>c.frozen (p:=J b o) h⟩
def zv{a b}(h:a=b):i9 (i7 a)=i9 (i7 b):=by rw[h]
def zK{k:IntKind}{a b}(h:a=b):i9 (.int k a)=i9 (.int k b):=by rw[h]
def SF{a b}(h:a=b):i9 (W a)=i9 (W b):=by rw[h]
theorem zC{w}{o}:Qb w (w.alloc o):=(yN).alloc yk _
theorem zX{B a g}(c:B<=g):∀(d:JD)(o:Nat)(w:JY),Below B a w->Below B a (w.setCells g o d)
 |[],_,_,h=>h
 |v::b,o,_,h=>zX c b (o+1) _ (h.setCell (p:=J g o) c v)
def IR:Jw:=[43,45,42,47,60,62,61,33,38,124,94,126,63,58,64,37,36,46]
def Bw(c:UInt8):Bool:=IR.contains c
def Gv(l:Jw):Bool:=l.all Bw
def DR(s:JZ):Bool:=Gv s.data.toList&&decide (1<=s.size)&&decide (s.size<=16)
def Iv(k a:Int):Bool:=(k==2&&(a==1||a==2||a==3))||((k==1||k==3)&&a==0)
def Bv(s:JZ)(k l a:Int):Bool:=DR s&&decide (1<=l)&&decide (l<=1000)&&Iv k a
def J1(l a:Int)(b:Bool):Int:=if a=(if b then 2 else 1) then l else l+1
def Zn(s:JZ)(k l a:Int)(b:Bool):Int:=
 if Bv s k l a=Vt then 0 else if k=2 then J1 l a b else if b then 0 else l
theorem Ii(s k l a)(h:Bv s k l a=Vp):(1<=l/\l<=1000)/\((k=2/\a=1)\/(k=2/\a=2)\/(k=2/\a=3)\/(k=1/\a=0)\/(k=3/\a=0)):=by grind [Bv,Iv]
def WN(s k l a b)(h:Bv s k l a=Vt):Zn s k l a b=0:=by simp[Zn,h]
def zaQ(c):(decide (0<=Lib.indexByte IR c))=Bw c:=by obtain⟨v⟩:=c;revert v;decide +kernel
theorem oO(c)(h:∀j,j<18->IR.getD j 0≠c):Bw c=Vt:=by
 have b:∀x∈IR,x≠c:=by intro x hx;obtain⟨j,a,e⟩:=List.getElem_of_mem hx;have:=h j a;grind
 grind [Bw]
theorem oP(c j)(a:j<18)(h:IR.getD j 0=c):Bw c=Vp:=by unfold Bw;simp only[List.contains_eq_mem,jM];rw[yq,yt a]at h;grind
theorem oQ(l c):Gv (l++[c])=(Gv l&&Bw c):=by simp[Gv]
theorem oF(s:JZ)(k)(h:k<s.size):s.data.toList.take (k+1)=s.data.toList.take k++[s[k]]:=by rw[jP (Ju h)];rfl
theorem oR(s:JZ)(k)(h:¬ k<s.size):s.data.toList.take k=s.data.toList:=by rw[List.take_of_length_le];simp;omega
theorem oG(s:JZ)(k)(h:k<s.size)(a:Bw s[k]=Vt):Gv s.data.toList=Vt:=by
 have b:s[k]∈s.data.toList:=by have:s[k]=s.data.toList[k]'(Ju h):=F;grind
 grind [Gv]
theorem zbc(a c:UInt8)(h:((a.toNat:Int)==c.toNat)=Vp):a=c:=by have:=beq_iff_eq.1 h;exact UInt8.toNat_inj.1 I
theorem zbd(a c:UInt8)(h:((a.toNat:Int)==c.toNat)=Vt):a≠c:=by grind
theorem X7(k)(h:k<18)(a:k<(ByteArray.mk #[43,45,42,47,60,62,61,33,38,124,94,126,63,58,64,37,36,46]).size):(ByteArray.mk #[43,45,42,47,60,62,61,33,38,124,94,126,63,58,64,37,36,46])[k]'a=IR.getD k 0:=by have e:∀i:Fin 18,(ByteArray.mk #[43,45,42,47,60,62,61,33,38,124,94,126,63,58,64,37,36,46])[i.val]'i.isLt=IR.getD i.val 0:=Jd;exact e ⟨k,h⟩
structure Ad where
 s:JZ
 k:Int
 l:Int
 sd:Int
abbrev JE:=List (List Ad)
abbrev Jf:=List Ad
variable{xs:Jf}
def Ad.ok(o:Ad):Bool:=Bv o.s o.k o.l o.sd
def Ad.zero:Ad:=⟨⟨#[]⟩,0,0,0⟩
def Ad.cells(o:Ad):Array Value:=#[W o.s,G o.k,G o.l,G o.sd]
def r(a:Jf)(i:Nat):Ad:=a.getD i Ad.zero
def Gh(w:JY)(b a)(c:Jf)(i:Nat):=
 w.cell? (J b (a+i*4))=E (W (r c i).s)/\w.cell? (J b (a+i*4+1))=E (G (r c i).k) /\
  w.cell? (J b (a+i*4+2))=E (G (r c i).l)/\w.cell? (J b (a+i*4+3))=E (G (r c i).sd)
def Au(w b a c):=∀i,i<Z c->Gh w b a c i
def ZO(a):=∀i,i<Z a->(r a i).s.size<=maxLen
def Gh.y(h:Gh w b off xs i)(c:Below B w w')(a:b<B):Gh w' b off xs i:=by obtain⟨d,e,f,g⟩:=h;exact⟨Jc c a d,Jc c a e,Jc c a f,Jc c a g⟩
def Au.y{w c b a d B}(h:Au w b a d)(f:Below B w c)(e:b<B):Au c b a d:=
 λi g=>(h i g).y f e
def Bg(a k):=∀j,j<k->(r a j).ok=Vp
theorem VJ{k}(h:Bg xs k)(b:(r xs k).ok=Vp):Bg xs (k+1):=by
 intro j a;by_cases e:j=k
 .grind
 .exact h j I
def bt(s:JZ)(i:Nat):UInt8:=s.data[i]?.getD 0
theorem ZV(h:i<s.size):s[i]=bt s i:=by have a:i<s.data.size:=h;show s.data[i]=_;grind [bt]
def Ai(c:UInt8):Nat:=
 if c.toNat=32\/c.toNat=9\/c.toNat=10 then 1
 else if 48<=c.toNat/\c.toNat<=57 then 2
 else if(65<=c.toNat/\c.toNat<=90)\/(97<=c.toNat/\c.toNat<=122)\/c.toNat=95 then 3
 else if c.toNat=40 then 4
 else if c.toNat=41 then 5
 else if Bw c=Vp then 6
 else 0
theorem Qe(c):Bw c=decide (Ai c=6):=by obtain⟨v⟩:=c;revert v;decide +kernel
def oH(c):(Ai c=1)↔(c.toNat=32\/c.toNat=9\/c.toNat=10):=by obtain⟨v⟩:=c;revert v;decide +kernel
theorem NR(c):(Ai c=2)↔(48<=c.toNat/\c.toNat<=57):=by obtain⟨v⟩:=c;revert v;decide +kernel
def tM(c):(Ai c=3)↔((65<=c.toNat/\c.toNat<=90)\/(97<=c.toNat/\c.toNat<=122)\/c.toNat=95):=by obtain⟨v⟩:=c;revert v;decide +kernel
theorem Pz(c):(Ai c=4)↔c=40:=by obtain⟨v⟩:=c;revert v;decide +kernel
theorem Pi(c):(Ai c=5)↔c=41:=by obtain⟨v⟩:=c;revert v;decide +kernel
theorem YZ(c):Ai c<7:=by grind [Ai]
def C2(t):=1<=t.size/\∀j,j<t.size->Ai (bt t j)=2
def Cv(t):=1<=t.size/\∀j,j<t.size->(Ai (bt t j)=3\/(j≠0/\Ai (bt t j)=2))
def Qy(t:JZ):Bool:=decide (1<=t.size)&&(List.range t.size).all λj=>Ai (bt t j)==2
def Tx(t:JZ):Bool:=decide (1<=t.size)&&(List.range t.size).all λj=>Ai (bt t j)==3||(j != 0&&Ai (bt t j)==2)
theorem FA(t):Qy t=Vp↔C2 t:=by grind [Qy,C2]
theorem Ie(t):Tx t=Vp↔Cv t:=by grind [Tx,Cv]
theorem NS(t:JZ)(a):t.data=a↔t=⟨a⟩:=⟨λh=>by cases t;simp_all,λh=>by rw[h]⟩
def G7(c:UInt8)(s:JZ):Nat->Nat->Nat
 |0,i=>i
 |n+1,i=>if i<s.size/\bt s i≠c then G7 c s n (i+1) else i
def nx(c:UInt8)(s:JZ)(i:Nat):Nat:=G7 c s (s.size-i) i
theorem WO(c s):∀(n i:Nat),s.size-i<=n->i<=s.size->i<=G7 c s n i/\G7 c s n i<=s.size/\(∀k,i<=k->k<G7 c s n i->bt s k≠c)/\(G7 c s n i<s.size->bt s (G7 c s n i)=c)
 |0,i,hn,hi=>by simp only[G7];exact⟨yk,hi,λk b a=>I,λh=>I⟩
 |n+1,i,hn,hi=>by
  simp only[G7];by_cases h:i<s.size/\bt s i≠c
  .rw[yU h];obtain⟨b,a,d,f⟩:=WO c s n (i+1) I I;refine⟨I,a,λk l j=>?_,f⟩;by_cases e:k=i
   .subst e;exact h.2
   .exact d k I j
  .rw[yS h];refine⟨yk,hi,λk b a=>I,λg=>?_⟩;by_cases e:bt s i=c
   .exact e
   .exact yV ⟨g,e⟩ h
theorem D2(c s i)(a:i<=s.size):i<=nx c s i/\nx c s i<=s.size/\(∀k,i<=k->k<nx c s i->bt s k≠c)/\(nx c s i<s.size->bt s (nx c s i)=c):=
 WO c s _ i yk a
theorem JP{c}(f:i<=s.size)(a:i<=j)(b:j<=s.size)(d:∀k,i<=k->k<j->bt s k≠c)(e:j<s.size->bt s j=c):nx c s i=j:=by grind [D2,nx]
def G8(c:UInt8)(s:JZ):Nat->Nat->List (Nat×Nat)
 |0,_=>[]
 |n+1,i=>(i,nx c s i)::(if nx c s i<s.size then G8 c s n (nx c s i+1) else[])
def AD(c:UInt8)(s:JZ)(i:Nat):List (Nat×Nat):=G8 c s (s.size-i+1) i
theorem WP(c s):∀(n m i:Nat),i<=s.size->s.size-i+1<=n->s.size-i+1<=m->G8 c s n i=G8 c s m i
 |0,_,i,hi,hn,_=>I
 |_+1,0,i,hi,_,hm=>I
 |n+1,m+1,i,hi,hn,hm=>by
  simp only[G8];congr 1;have h:=D2 c s i hi;by_cases a:nx c s i<s.size
  .rw[yU a,yU a];exact WP c s n m _ I I I
  .rw[yS a,yS a]
theorem EC(c s i)(a:i<=s.size):AD c s i=(i,nx c s i)::(if nx c s i<s.size then AD c s (nx c s i+1) else[]):=by grind [D2,AD,G8,nx,WP]
def AA(l:JZ):List ByteArray:=((AD 32 l 0).filter (λp=>decide (p.1<p.2))).map (λp=>l.extract p.1 p.2)
def Fy(l:JZ)(i:Nat):List ByteArray:=((AD 32 l i).filter (λp=>decide (p.1<p.2))).map (λp=>l.extract p.1 p.2)
def WQ(l):AA l=Fy l 0:=rfl
theorem Mf(l i)(a:i<=l.size):Fy l i=(if i<nx 32 l i then[l.extract i (nx 32 l i)] else[])++(if nx 32 l i<l.size then Fy l (nx 32 l i+1) else[]):=by grind [Fy,EC,nx]
def bB(l:Jw):ByteArray:=⟨l.toArray⟩
def Cd:ByteArray:=⟨#[98,101,103,105,110]⟩
def J2:ByteArray:=⟨#[117,115,101]⟩
def DH:ByteArray:=⟨#[112,114,101,102,105,120]⟩
def DJ:ByteArray:=⟨#[105,110,102,105,120]⟩
def Z9:ByteArray:=⟨#[112,111,115,116,102,105,120]⟩
def Gl:ByteArray:=⟨#[108,101,102,116]⟩
def Gk:ByteArray:=⟨#[114,105,103,104,116]⟩
def Gm:ByteArray:=⟨#[110,111,110,101]⟩
def LX(w):=1<=w.size/\w.size<=6/\∀i,i<w.size->48<=(bt w i).toNat/\(bt w i).toNat<=57
def Zq(w:JZ):Nat->Nat
 |0=>0
 |k+1=>Zq w k*10+((bt w k).toNat-48)
def Bn(w:JZ):Int:=if w=Gl then 1 else if w=Gk then 2 else if w=Gm then 3 else 0
theorem PA(w)(h:∀i,i<w.size->48<=(bt w i).toNat/\(bt w i).toNat<=57):∀k,k<=w.size->Zq w k<10 ^ k
 |0,_=>by simp[Zq]
 |k+1,hk=>by have:=PA w h k I;have:=h k I;simp only[Zq,Nat.pow_succ];omega
def Bb(b)(o:Ad):=
 ∃k t l,LX l/\((b=[k,t,l]/\((k=DH/\o=⟨t,1,(Zq l l.size:Int),0⟩)\/(k=Z9/\o=⟨t,3,(Zq l l.size:Int),0⟩))) \/
  ∃a,b=[k,t,l,a]/\k=DJ/\Bn a≠0/\o=⟨t,2,(Zq l l.size:Int),Bn a⟩)
theorem Bb.one{o d}(h:Bb ws o)(a:Bb ws d):o=d:=by
 obtain⟨k,t,l,g,h⟩:=h;obtain⟨j,p,m,q,a⟩:=a;rcases h with⟨e,h⟩|⟨n,e,f,i,rfl⟩
 .rcases a with⟨e',a⟩|⟨sd',e',H,K,rfl⟩
  .rw[e]at e';simp only[List.cons.injEq,and_true]at e';obtain⟨rfl,rfl,rfl⟩:=e';rcases h with⟨c,rfl⟩|⟨c,rfl⟩<;>rcases a with⟨b,rfl⟩|⟨b,rfl⟩
   .rfl
   .rw[c]at b;exact yV b Jd
   .rw[c]at b;exact yV b Jd
   .rfl
  .grind
 .grind
def Dk(e d c b a):=
 (e=[]/\b=d/\a=c)\/(∃x,e=[J2,x]/\b=d++[x]/\a=c)\/(∃o,Bb e o/\b=d/\a=c++[o])
theorem Bb.len{o}(h:Bb ws o):Z ws=3\/Z ws=4:=by obtain⟨k,t,l,a,⟨rfl,_⟩|⟨b,rfl,_⟩⟩:=h;all_goals grind
theorem Dk.one{i g q K f a b}(h:Dk i g f q a)(c:Dk i g f K b):q=K/\a=b:=by
 rcases h with⟨e,rfl,rfl⟩|⟨x,e,rfl,rfl⟩|⟨o,d,rfl,rfl⟩
 .rcases c with⟨_,rfl,rfl⟩|⟨x',e',_⟩|⟨o',H,_⟩
  .grind
  .grind
  .have:=H.len;rw[e]at this;simp at this
 .rcases c with⟨e',_⟩|⟨x',e',rfl,rfl⟩|⟨o',H,_⟩
  .grind
  .grind
  .have:=H.len;rw[e]at this;simp at this
 .rcases c with⟨e',_⟩|⟨x',e',_⟩|⟨o',H,rfl,rfl⟩
  .have:=d.len;rw[e']at this;simp at this
  .have:=d.len;rw[e']at this;simp at this
  .rw[d.one H];exact⟨F,F⟩
def CE(s:JZ)(z:Nat):ByteArray:=if z<s.size then s.extract (z+1) s.size else j6
def A2(s:JZ):List (Nat×Nat)->Nat->List ByteArray->Jf->List ByteArray->Jf->ByteArray->Int->Int->Prop
 |[],_,_,_,u,o,b,c,l=>u=[]/\o=[]/\b=j6/\c=3/\l=0
 |p::a,n,us,os,u,o,b,c,l=>
  (AA (s.extract p.1 p.2)=[Cd]/\u=us/\o=os/\b=CE s p.2/\c=0/\l=0) \/
  (AA (s.extract p.1 p.2)≠[Cd]/\((∃e d,Dk (AA (s.extract p.1 p.2)) us os e d/\A2 s a (n+1) e d u o b c l) \/
   ((∀e d,¬ Dk (AA (s.extract p.1 p.2)) us os e d)/\u=[]/\o=[]/\b=j6/\c=2/\l=(n:Int))))
theorem A2.one{s}:∀(ls:List (Nat×Nat))(n:Nat)(us:Jv)(os:Jf){u u':Jv}{o o':Jf}{b b':JZ}{c c' l l':Int},A2 s ls n us os u o b c l->A2 s ls n us os u' o' b' c' l'->u=u'/\o=o'/\b=b'/\c=c'/\l=l'
 |[],n,us,os,_,_,_,_,_,_,_,_,_,_,h,h'=>by obtain⟨rfl,rfl,rfl,rfl,rfl⟩:=h;obtain⟨rfl,rfl,rfl,rfl,rfl⟩:=h';exact⟨F,F,F,F,F⟩
 |p::a,n,us,os,_,_,_,_,_,_,_,_,_,_,h,h'=>by
  rcases h with⟨e,rfl,rfl,rfl,rfl,rfl⟩|⟨e,h⟩
  .rcases h' with⟨_,rfl,rfl,rfl,rfl,rfl⟩|⟨e',_⟩
   .exact⟨F,F,F,F,F⟩
   .exact yV e e'
  .rcases h' with⟨e',_⟩|⟨_,h'⟩
   .exact yV e' e
   .rcases h with⟨K,os1,h1,h⟩|⟨h1,rfl,rfl,rfl,rfl,rfl⟩
    .rcases h' with⟨H,os2,h2,h'⟩|⟨h2,_⟩
     .obtain⟨rfl,rfl⟩:=h1.one h2;exact A2.one a (n+1) K os1 h h'
     .exact yV h1 (h2 _ _)
    .rcases h' with⟨H,os2,h2,h'⟩|⟨h2,rfl,rfl,rfl,rfl,rfl⟩
     .exact yV h2 (h1 _ _)
     .exact⟨F,F,F,F,F⟩
def ZC(s u o b c l):=
 (20000<s.size/\u=[]/\o=[]/\b=j6/\c=1/\l=0)\/(s.size<=20000/\A2 s (AD 10 s 0) 1 [] [] u o b c l)
theorem ZC.one{s u j o i b e c f l g}(h:ZC s u o b c l)(d:ZC s j i e f g):u=j/\o=i/\b=e/\c=f/\l=g:=by
 rcases h with⟨a,rfl,rfl,rfl,rfl,rfl⟩|⟨a,h⟩
 .rcases d with⟨_,rfl,rfl,rfl,rfl,rfl⟩|⟨a',_⟩;all_goals grind
 .rcases d with⟨a',_⟩|⟨_,d⟩;all_goals grind [A2.one]
def BY(w g a k):=
 g<O w.1/\w.there g 0 (Z a*4)/\∀i,i<k->Gh w g 0 a i
def BY.y{w c g k d B}(h:BY w g d k)(a:Below B w c)(b:g<B):BY c g d k:=by obtain⟨e,f,l⟩:=h;refine⟨ym e a.size,λj n=>?_,λi m=>(l i m).y a b⟩;have:=f j n;exact⟨by rw[a.cell (p:=J g _) b];exact this.1,by rw[a.frozen (p:=J g _) b];exact this.2⟩
theorem BY.step{k}(h:BY w g xs k)(u:k<Z xs):BY (w.setCells g (k*4) [W (r xs k).s,G (r xs k).k,G (r xs k).l,G (r xs k).sd]) g xs (k+1):=by
 obtain⟨b,a,c⟩:=h;have H:=World.cell?_setCells_in g [W (r xs k).s,G (r xs k).k,G (r xs k).l,G (r xs k).sd] (k*4) w (λj t=>by
  have:=(a (k*4+j) (by grind)).1
  grind)
 refine⟨?_,World.there_setCells a _ _ _,λi s=>?_⟩
 .simpa[World.setCells,World.setCell] using b
 .by_cases e:i=k
  .subst e;have d:=H 0 Js;have f:=H 1 Js;have l:=H 2 Js;have m:=H 3 Js;exact⟨by grind,by grind,by grind,by grind⟩
  .have K:i<k:=I;obtain⟨n,o,p,q⟩:=c i K;refine⟨?_,?_,?_,?_⟩;all_goals
    rw[World.cell?_setCells_out g _ _ _ _ (λ_ _=>yW (by simp;omega))]
    assumption
def lN{k}(h:BY w g xs k)(e:k<Z xs):((∃v,w.cell? (J g (k*4))=E v)/\w.frozen? (J g (k*4))=Vt)/\((∃v,w.cell? (J g (k*4+1))=E v)/\w.frozen? (J g (k*4+1))=Vt) /\
  ((∃v,w.cell? (J g (k*4+2))=E v)/\w.frozen? (J g (k*4+2))=Vt)/\((∃v,w.cell? (J g (k*4+3))=E v)/\w.frozen? (J g (k*4+3))=Vt):=by
 have a:=h.2.1 (k*4) I;have b:=h.2.1 (k*4+1) I;have c:=h.2.1 (k*4+2) I;have d:=h.2.1 (k*4+3) I;simp only[jd]at a b c d;exact⟨⟨Option.isSome_iff_exists.1 a.1,a.2⟩,⟨Option.isSome_iff_exists.1 b.1,b.2⟩,⟨Option.isSome_iff_exists.1 c.1,c.2⟩,⟨Option.isSome_iff_exists.1 d.1,d.2⟩⟩
def Gh.setCell{w b a i c}(h:Gh w b a c i)(p v)(k:p.block≠b):Gh (w.setCell p v) b a c i:=by
 obtain⟨d,f,g,j⟩:=h;have e:∀o,(w.setCell p v).cell? (J b o)=w.cell? (J b o):=λo=>yj _ _ _ _ (λe=>k (by rw[e]))
 exact⟨(e _).trans d,(e _).trans f,(e _).trans g,(e _).trans j⟩
def BY.setCell{w g k d}(h:BY w g d k)(p v)(c:p.block≠g):BY (w.setCell p v) g d k:=by
 obtain⟨f,a,l⟩:=h;refine⟨by simpa[World.setCell] using f,λj b=>⟨?_,?_⟩,λi m=>(l i m).setCell p v c⟩
 .rw[yj _ _ _ _ (λe=>c (by rw[e]))];exact(a j b).1
 .rw[yx];exact(a j b).2
def BY.ops(h:BY w g xs (Z xs)):Au w g 0 xs:=λi a=>h.2.2 i a
theorem Zd(h:s.toList=t.toList):s=t:=by rw[yI,yI]at h;obtain⟨⟨a⟩⟩:=s;obtain⟨⟨b⟩⟩:=t;grind
def zn(a:Jf):JD:=a.flatMap λo=>[W o.s,G o.k,G o.l,G o.sd]
def lO:zn []=[]:=rfl
def Zo(a b):zn (a++b)=zn a++zn b:=by simp[zn]
theorem Mp:∀b:Jf,Z (zn b)=Z b*4
 |[]=>rfl
 |o::a=>by have:=Mp a;simp only[zn,List.flatMap_cons,yr,yB,je]at *;omega
theorem RJ:∀(b:Jf)(i:Nat),i<Z b->(zn b)[i*4]?=E (W (r b i).s)/\(zn b)[i*4+1]?=E (G (r b i).k)/\(zn b)[i*4+2]?=E (G (r b i).l)/\(zn b)[i*4+3]?=E (G (r b i).sd)
 |[],i,h=>yV h (yz i)
 |o::a,0,_=>⟨F,F,F,F⟩
 |o::a,i+1,h=>by
  have c:=RJ a i (Ju h);have e:∀j,(zn (o::a))[(i+1)*4+j]?=(zn a)[i*4+j]?:=λj=>by have:(i+1)*4+j=(i*4+j)+4:=I;rw[this];rfl
  exact⟨(e 0).trans c.1,(e 1).trans c.2.1,(e 2).trans c.2.2.1,(e 3).trans c.2.2.2⟩
def Zw(c):∀u∈zn c,u.oneCell'=Vp:=by intro u b;simp only[zn,List.mem_flatMap]at b;obtain⟨o,_,a⟩:=b;simp at a;rcases a with rfl|rfl|rfl|rfl<;>rfl
theorem R6(h:Au w b off xs):∀j u,(zn xs)[j]?=E u->w.cell? ((J b off).add j)=E u:=by
 intro j u m;have H:j<Z xs*4:=by grind [Mp]
 rw[jO];have a:j/4<Z xs:=I;obtain⟨c,d,e,f⟩:=h (j/4) a;obtain⟨g,i,k,l⟩:=RJ xs (j/4) a;grind
theorem Ml{a b}(h:w.ownsRow a e 4 (Ql g (Z b) cap) (Z b) (zn b)):a<=g/\BY w g b (Z b):=by
 have H:=h.lt g F;refine⟨H.1,H.2,λj d=>⟨?_,h.frozenAt _⟩,λi c=>?_⟩
 .rw[h.cellAt (0+j) I];grind [zn,Mp]
 .obtain⟨c0,c1,c2,c3⟩:=RJ b i c;have e:=λj (d:j<4)=>h.cellAt (i*4+j) I
  exact⟨Ju ((e 0 I).trans c0),by grind,by grind,by grind⟩
theorem Lj{a b v c}(h:w.ownsRow a e b v n c)(d:v ≠ Jl):∃g cap,v = Ql g n cap:=by obtain⟨_,h|⟨g,cap,K,H,_⟩⟩:=h;all_goals grind
def Fz:(prog.info? 25).map (λi=>(i.zero,i.size,i.bytes))=E (E (b9 #[W ⟨#[]⟩,G 0,G 0,G 0]),4,40):=Jk
def Uu{a}(c:w.grownBy w' a)(b:B<=O w.1)(d:∀k,a=E k->B<=k):Below B w w':=
 (@yN B w).grown c b d
theorem qW{a b c}(h:w.ownsRow a e b (Ql g n cap) n c):n<=cap/\cap<=maxLen:=by obtain⟨_,h|⟨d,H,q,K,_,_,f,i,_⟩⟩:=h;all_goals grind
theorem oI(w:JY)(o:Ad):(w.alloc (JM #[W o.s,G o.k,G o.l,G o.sd] 25)).rangeAt (O w.1) 0 [W o.s,G o.k,G o.l,G o.sd]:=by have:=yF (w:=w.alloc (JM #[W o.s,G o.k,G o.l,G o.sd] 25)) (b:=O w.1) (jL w _) 0 4;grind
def Ij(w:JY)(o):∀j u,(zn [o])[j]?=E u->(w.alloc (JM #[W o.s,G o.k,G o.l,G o.sd] 25)).cell? ((J (O w.1) 0).add j)=E u:=by intro j u a;rw[jO];exact oI w o j u a
def Ro(c w):Calls Vb 169 #[.int .u8 (c.toNat:Int)] w λe w'=>e=i9 (i7 (Bw c))/\w'=w:=by go_enter func169,ntmps169;go_wp2;rw[run_callFunc_extern func246 Jk Jk Jk (e:=Extern.BytealgIndexByte.indexByte) Jk,Lib.run_indexByteString];simp only[Result.andThen];rw[Oper.upon_value];go_wp2;go_ret;refine⟨?_,F⟩;exact yY (λb=>i9 (i7 b)) (zaQ c)
theorem IW(c w):Calls Vb 99 #[.int .u8 (c.toNat:Int)] w λe w'=>e=i9 (i7 (Bw c))/\w'=w:=by
 go_enter func99,ntmps99;go_wp2;go_loop [4] (λi=>∃k:Nat,k<=18/\i=G k/\∀j,j<k->IR.getD j 0≠c) (λi=>18-(intOf i).toNat);case atStart=>exact⟨0,I,F,λj h=>I⟩
 case round=>
  obtain⟨k,d,rfl,a⟩:=hrel;by_cases H:k<18
  .go_wp2
   .go_ret;exact⟨zv (oP c k H (by grind [X7,zbc])).symm,F⟩
   .refine⟨⟨k+1,I,Jn,?_⟩,Ji⟩;grind [X7,zbd]
  .go_wp2;go_ret;exact⟨zv (oO c (λj b=>a j I)).symm,F⟩
theorem Uh(s k)(h:k<s.size)(a:Bw s[k]=Vt):DR s=Vt:=by grind [DR,oG]
theorem Y0(s k)(a:¬ k<s.size)(h:Gv (s.data.toList.take k)=Vp):DR s=(decide (1<=s.size)&&decide (s.size<=16)):=by grind [oR,DR]
theorem WS(s:JZ)(k)(h:k<s.size)(b:Gv (s.data.toList.take k)=Vp)(a:Bw s[k]=Vp):Gv (s.data.toList.take (k+1))=Vp:=by grind [oF,oQ]
theorem Rj(s w)(b:s.size<=maxLen):Calls Vb 59 #[W s] w λe w'=>e=i9 (i7 (DR s))/\w'=w:=by
 unfold maxLen at b;go_enter func59,ntmps59;go_wp2;go_loop [3] (λi=>∃k:Nat,k<=s.size/\i=G k/\Hid (Gv (s.data.toList.take k)=Vp)) (λi=>s.size-(intOf i).toNat);case atStart=>exact⟨0,yn,F,S F⟩
 case round=>
  obtain⟨k,d,rfl,a⟩:=hrel;by_cases h:k<s.size
  .cases hb:Bw s[k]
   .have Hb:=S hb;go_wp2_with (go_at_call 99;refine(IW _ _).mono ?_;rintro e w' ⟨rfl,rfl⟩);go_ret;exact⟨zv (Uh s k h Hb).symm,F⟩
   .have Hb:=S hb;go_wp2_with (go_at_call 99;refine(IW _ _).mono ?_;rintro e w' ⟨rfl,rfl⟩);exact⟨⟨k+1,I,Jn,S (WS s k h a Hb)⟩,Ji⟩
  .have ht:=S (Y0 s k h a);by_cases c:1<=s.size
   .have H:(1:Int)<=s.size:=I;go_wp2;go_ret;exact⟨zv (by grind [Hid]),F⟩
   .go_wp2;go_ret;exact⟨zv (by grind [Hid]),F⟩
theorem Ni(s w)(b:s.size<=maxLen):Calls Vb 119 #[W s] w λe w'=>e=i9 (i7 (DR s))/\w'=w:=by
 unfold maxLen at b;by_cases c:s.size<1
 .go_enter func119,ntmps119;go_wp2;go_ret;exact⟨zv (by grind [DR]),F⟩
 by_cases d:16<s.size
 .go_enter func119,ntmps119;go_wp2;go_ret;exact⟨zv (by grind [DR]),F⟩
 go_enter func119,ntmps119;go_wp2;go_loop [14] (λi=>∃k:Nat,k<=s.size/\i=G k/\Hid (Gv (s.data.toList.take k)=Vp)) (λi=>s.size-(intOf i).toNat);case atStart=>exact⟨0,yn,F,S F⟩
 case round=>
  obtain⟨k,f,rfl,a⟩:=hrel;by_cases h:k<s.size
  .cases hb:Bw s[k]
   .have Hb:=S hb;go_wp2_with (go_at_call 169;refine(Ro _ _).mono ?_;rintro e w' ⟨rfl,rfl⟩);go_ret;exact⟨zv (Uh s k h Hb).symm,F⟩
   .have Hb:=S hb;go_wp2_with (go_at_call 169;refine(Ro _ _).mono ?_;rintro e w' ⟨rfl,rfl⟩);exact⟨⟨k+1,I,Jn,S (WS s k h a Hb)⟩,Ji⟩
  .have ht:=S (Y0 s k h a);go_wp2;go_ret;exact⟨zv (by grind [Hid]),F⟩
def Nq(s k l a w)(b:s.size<=maxLen):Calls Vb 31 #[b9 #[W s,G k,G l,G a]] w λe w'=>e=i9 (i7 (Bv s k l a))/\Qb w w':=by
 cases c:DR s
 .have hf:=S (by simp[Bv,c]:Bv s k l a=Vt);go_enter func31,ntmps31;go_wp2_with (go_at_call 59;refine(Rj _ _ b).mono ?_;rintro e w' ⟨rfl,rfl⟩);go_ret;exact⟨zv hf.symm,zC⟩
 .have hf:=S (by simp[Bv,c]:Bv s k l a=(decide (1<=l)&&decide (l<=1000)&&Iv k a));go_enter func31,ntmps31;go_wp2_with (go_at_call 59;refine(Rj _ _ b).mono ?_;rintro e w' ⟨rfl,rfl⟩);all_goals(go_ret;refine⟨zv ?_,zC⟩;rw[D hf];go_light;clear hf;(try simp only[beq_iff_eq,jc,ne_eq]at *);rw[jI];simp[Iv]<;>omega)
def Rb(s k l a w):Calls Vb 120 #[b9 #[W s,G k,G l,G a]] w λe w'=>e=i9 (i7 (Iv k a))/\Qb w w':=by go_enter func120,ntmps120;go_wp2;all_goals(go_ret;refine⟨zv ?_,zC⟩;go_light;(try simp only[beq_iff_eq,jc,ne_eq]at *);rw[jI];simp[Iv]<;>omega)
theorem Md(s k l a w)(b:s.size<=maxLen):Calls Vb 70 #[b9 #[W s,G k,G l,G a]] w λe w'=>e=i9 (i7 (Bv s k l a))/\Qb w w':=by
 cases d:DR s
 .have hf:=S (by simp[Bv,d]:Bv s k l a=Vt);go_enter func70,ntmps70;go_wp2_with (go_at_call 119;refine(Ni _ _ b).mono ?_;rintro e w' ⟨rfl,rfl⟩);go_ret;exact⟨zv hf.symm,zC⟩
 .have hf:=S (by simp[Bv,d]:Bv s k l a=(decide (1<=l)&&decide (l<=1000)&&Iv k a));by_cases f:1<=l
  .by_cases h2:l<=1000
   .go_enter func70,ntmps70;go_wp2_with (first|(go_at_call 119;refine(Ni _ _ b).mono ?_;rintro e w' ⟨rfl,rfl⟩)|(go_at_call 120;refine(Rb _ _ _ _ _).mono ?_;rintro e w' ⟨rfl,c⟩));go_ret;exact⟨zv (by grind [Hid]),(zC).trans (c.mono Js)⟩
   .go_enter func70,ntmps70;go_wp2_with (first|(go_at_call 119;refine(Ni _ _ b).mono ?_;rintro e w' ⟨rfl,rfl⟩)|(go_at_call 120;refine(Rb _ _ _ _ _).mono ?_;rintro e w' ⟨rfl,c⟩));go_ret;exact⟨zv (by grind [Hid]),zC⟩
  .go_enter func70,ntmps70;go_wp2_with (first|(go_at_call 119;refine(Ni _ _ b).mono ?_;rintro e w' ⟨rfl,rfl⟩)|(go_at_call 120;refine(Rb _ _ _ _ _).mono ?_;rintro e w' ⟨rfl,c⟩));go_ret;exact⟨zv (by grind [Hid]),zC⟩
def oJ(b c f a w)(Q:Z a<=1048576)(n:Au w b c a)(l:ZO a)(m:b<O w.1):Calls Vb 155 #[Je b c (Z a) f] w λe w'=>(∃v,e=i9 (i7 v)/\(v=Vp↔Bg a (Z a)))/\Qb w w':=by
 go_enter func155,ntmps155;go_wp2;go_loopw [7] (λi wr=>∃k:Nat,k<=Z a/\i=G k/\Bg a k/\Qb w wr) (λi _=>Z a-(intOf i).toNat);case atStart=>exact⟨0,yn,F,λj h=>I,yN⟩
 case round=>
  obtain⟨k,o,rfl,q,H⟩:=hrel;by_cases K:k<Z a
  .obtain⟨h0,h1,h2,h3⟩:=(n k K).y H m;cases d:(r a k).ok
   .have Ht:=S d;unfold Ad.ok at d;go_wp2_with (go_at_call 70;refine(Md _ _ _ _ _ (l k K)).mono ?_;rintro e w' ⟨rfl,g⟩);go_ret;refine⟨⟨Vt,F,⟨λh=>(by cases h),λh=>?_⟩⟩,?_⟩
    .have:=h k K;rw[D Ht]at this;cases this
    .exact H.trans (((zC).trans (g.mono Js)).mono H.size)
   .have Ht:=S d;unfold Ad.ok at d;go_wp2_with (go_at_call 70;refine(Md _ _ _ _ _ (l k K)).mono ?_;rintro e w' ⟨rfl,g⟩);exact⟨⟨k+1,I,Jn,VJ q Ht,H.trans (((zC).trans (g.mono Js)).mono H.size)⟩,Ji⟩
  .have:k=Z a:=I;go_wp2;go_ret;exact⟨⟨Vp,F,⟨λ_=>this ▸ q,λ_=>F⟩⟩,H⟩
theorem PQ(h:j<s.size):s.data.toList[j]?=E (bt s j):=by have a:j<s.data.size:=h;grind [bt]
theorem X9(s c j):Lib.occAt s.data.toList [c] j=decide (j<s.size/\bt s j=c):=by
 unfold Lib.occAt;by_cases h:j<s.size
 .have hl:j<Z s.data.toList:=h;have a:=PQ h;rw[yt hl]at a;injection a with a;rw[List.drop_eq_getElem_cons hl,a];grind
 .have hl:Z s.data.toList<=j:=Nat.le_of_not_lt h;rw[List.drop_eq_nil_of_le hl];grind
theorem WT(s c):(nx c s 0<s.size->Lib.indexB s ⟨#[c]⟩=(nx c s 0:Int))/\(¬ nx c s 0<s.size->Lib.indexB s ⟨#[c]⟩ = -1):=by
 obtain⟨d,a,e,f⟩:=D2 c s 0 yn;constructor
 .intro h;refine Lib.index_first (s:=s.data.toList) (sub:=[c]) a ?_ (λj b=>?_);all_goals grind [X9]
 .intro h;refine Lib.index_none (s:=s.data.toList) (sub:=[c]) (λj b=>?_);grind [X9]
theorem ZW(s:JZ)(a b):(s.extract a b).size=min b s.size-a:=by simp[yC]
theorem Od(s a b j)(h:j<min b s.size-a):bt (s.extract a b) j=bt s (a+j):=by
 have c:j<(s.extract a b).size:=by grind [ZW]
 rw[<-ZV c,<-ZV (s:=s) (i:=a+j) I];simp[ByteArray.getElem_extract]
theorem WU(c s a)(f:a<=s.size):nx c s a=a+nx c (s.extract a s.size) 0:=by
 obtain⟨g,b,d,e⟩:=D2 c (s.extract a s.size) 0 yn;rw[ZW,Nat.min_self]at b e;refine JP f I I (λk i j=>?_) (λh=>?_)
 .have:=d (k-a) yn I;grind [Od]
 .grind [Od]
theorem PR(s:JZ)(a k l)(h:a+l<=s.size):(s.extract a s.size).extract k l=s.extract (a+k) (a+l):=by rw[ByteArray.extract_extract];congr 1;omega
theorem WV(s:JZ):s.extract 0 s.size=s:=Js
theorem VK(c s):∀(n a:Nat),s.size-a<n->a<=s.size->Lib.splitB ⟨#[c]⟩ 0 (Lib.countB (s.extract a s.size) ⟨#[c]⟩) (s.extract a s.size)=(AD c s a).map (λp=>s.extract p.1 p.2)
 |0,a,hn,ha=>I
 |n+1,a,hn,ha=>by
  have K:(s.extract a s.size).size=s.size-a:=by rw[ZW,Nat.min_self]
  obtain⟨g,i⟩:=WT (s.extract a s.size) c;have hx:=WU c s a ha;obtain⟨j,k,l,m⟩:=D2 c s a ha;rw[EC c s a ha];by_cases h:nx c s a<s.size
  .have e:=g I;have H:(⟨#[c]⟩:JZ).size=1:=F;have b:(s.extract a s.size).extract 0 (nx c (s.extract a s.size) 0)=s.extract a (nx c s a):=by rw[PR s a 0 _ (by omega),hx,Nat.add_zero]
   have d:(s.extract a s.size).extract (nx c (s.extract a s.size) 0+1) (s.size-a)=s.extract (nx c s a+1) s.size:=by rw[PR s a _ _ (by omega),(by omega:a+(nx c (s.extract a s.size) 0+1)=nx c s a+1),(by omega:a+(s.size-a)=s.size)]
   have f:=VK c s n (nx c s a+1) I I;rw[yU h,Lib.countB_hit _ _ _ (by rw[H];exact yk) e,Nat.add_comm,Lib.splitB_hit _ _ _ _ _ e,jC,H,K,d,f,Nat.add_zero,b]
  .have e:=i I;rw[yS h,Lib.countB_miss _ _ e,Lib.splitB_zero];simp only[jC,List.map_nil];rw[(I:nx c s a=s.size)]
theorem UY(c s):Lib.splitB ⟨#[c]⟩ 0 (Lib.countB s ⟨#[c]⟩) s=(AD c s 0).map (λp=>s.extract p.1 p.2):=by have:=VK c s (s.size+1) 0 I yn;grind [WV]
def Gw(a:Jv):List ByteArray:=a.filter (λb=>decide (0<b.size))
theorem WW(s):∀(n a:Nat),s.size-a<n->a<=s.size->Gw ((AD 32 s a).map (λp=>s.extract p.1 p.2))=Fy s a
 |0,a,hn,ha=>I
 |n+1,a,hn,ha=>by
  obtain⟨b,c,d,e⟩:=D2 32 s a ha;rw[Mf s a ha,EC 32 s a ha,jC];have K:(s.extract a (nx 32 s a)).size=nx 32 s a-a:=by rw[ZW];omega
  have H:Gw ((if nx 32 s a<s.size then AD 32 s (nx 32 s a+1) else[]).map (λp=>s.extract p.1 p.2))=(if nx 32 s a<s.size then Fy s (nx 32 s a+1) else[]):=by
   by_cases h:nx 32 s a<s.size
   .rw[yU h,yU h];exact WW s n _ I I
   .rw[yS h,yS h];rfl
  rw[<-H];unfold Gw;by_cases h:a<nx 32 s a
  .rw[yU h,jR (by simp[K];omega)];rfl
  .rw[yS h,jS (by simp[K];omega)];rfl
def lP(s):Gw (Lib.splitB ⟨#[32]⟩ 0 (Lib.countB s ⟨#[32]⟩) s)=AA s:=by rw[UY,WW s (s.size+1) 0 I yn];rfl
theorem oK(a:Jv)(k p)(h:a[k]?=E p):Gw (a.take (k+1))=Gw (a.take k)++(if 0<p.size then[p] else[]):=by rw[jQ,h];grind [Gw]
theorem zaR(s a)(b:a<=s.size):(⟨(Lib.cut (s.extract a s.size).data.toList [10]).1.toArray⟩:JZ)=s.extract a (nx 10 s a)/\(⟨(Lib.cut (s.extract a s.size).data.toList [10]).2.1.toArray⟩:JZ)=CE s (nx 10 s a)/\(Lib.cut (s.extract a s.size).data.toList [10]).2.2=decide (nx 10 s a<s.size):=by
 have K:(s.extract a s.size).size=s.size-a:=by grind [ZW]
 obtain⟨c,d⟩:=WT (s.extract a s.size) 10;have hx:=WU 10 s a b;obtain⟨e,f,g,i⟩:=D2 10 s a b;by_cases h:nx 10 s a<s.size
 .obtain⟨e1,e2,e3⟩:=Lib.cutB_hit (s.extract a s.size) ⟨#[10]⟩ _ (c I);refine⟨e1.trans ?_,e2.trans ?_,e3.trans (by simp[h])⟩
  .grind [PR]
  .unfold CE;have H:(⟨#[10]⟩:JZ).size=1:=F;grind [PR,nx]
 .obtain⟨e1,e2,e3⟩:=Lib.cutB_miss (s.extract a s.size) ⟨#[10]⟩ (d I);grind [nx,CE]
def Nn(c w):Calls Vb 83 #[.int .u8 (c.toNat:Int)] w λe w'=>e=i9 (i7 (decide (Ai c=2)))/\w'=w:=by go_enter func83,ntmps83;go_wp2;all_goals(go_ret;refine⟨zv ?_,F⟩;go_light;rw[jI];simp[NR]<;>omega)
def DO(v p):=v=Vp↔p
def Bj(e p):=∃v:Bool,e=i9 (i7 v)/\DO v p
def Nh(s w)(d:s.size<=maxLen):Calls Vb 145 #[W s] w λe w'=>Bj e (C2 s)/\w'=w:=by
 unfold maxLen at d;go_enter func145,ntmps145;go_wp2;go_loop [3] (λi=>∃k:Nat,k<=s.size/\i=G k/\Hid (∀j,j<k->Ai (bt s j)=2)) (λi=>s.size-(intOf i).toNat);case atStart=>exact⟨0,yn,F,S (λj h=>I)⟩
 case round=>
  obtain⟨k,f,rfl,a⟩:=hrel;by_cases H:k<s.size
  .cases hb:decide (Ai s[k]=2)
   .have Hb:=S hb;go_wp2_with (go_at_call 83;refine(Nn _ _).mono ?_;rintro e w' ⟨rfl,rfl⟩);go_ret;refine⟨⟨_,F,⟨λh=>(by cases h),λh=>?_⟩⟩,F⟩;have b:=h.2 k H;have:=D Hb;rw[ZV H]at this;simp at this;exact yV b this
   .have Hb:=S hb;go_wp2_with (go_at_call 83;refine(Nn _ _).mono ?_;rintro e w' ⟨rfl,rfl⟩);refine⟨⟨k+1,I,Jn,S (λj c=>?_)⟩,Ji⟩;by_cases e:j=k
    .subst e;have:=D Hb;rw[ZV H]at this;simpa using this
    .exact a j I
  .by_cases h1:1<=s.size
   .have K:(1:Int)<=s.size:=I;go_wp2;go_ret;exact⟨⟨_,F,⟨λ_=>⟨h1,λj c=>a j I⟩,λ_=>Jq⟩⟩,F⟩
   .go_wp2;go_ret;exact⟨⟨decide (0<s.size),F,⟨λh=>yV (jN h) I,λh=>yV h.1 h1⟩⟩,F⟩
def Ny{a b:JZ}(h:a.toList=b.toList):a=b:=by rw[yI,yI]at h;obtain⟨⟨l⟩⟩:=a;obtain⟨⟨c⟩⟩:=b;simpa using h
structure zE(w a:JY)(g:Nat):Prop where
 os:a.os=w.os
 tape:a.tape=w.tape
 output:a.output=w.output
 size:O w.1<=O a.1
 block:∀i,i<O w.1->i≠g->a.heap[i]?=w.heap[i]?
def zE.refl(w g):zE w w g:=⟨F,F,F,yk,λ_ _ _=>F⟩
def zE.trans{w d e g}(h:zE w d g)(b:zE d e g):zE w e g:=
 ⟨b.os.trans h.os,b.tape.trans h.tape,b.output.trans h.output,yy h.size b.size,λi c a=>(b.block i (ym c h.size) a).trans (h.block i c a)⟩
def zE.Q(h:Qb w w'):zE w w' g:=⟨h.os,h.tape,h.output,h.size,λi a _=>h.block i a⟩
def zE.cell{w a g}(h:zE w a g){b}(d:b<O w.1)(c:b≠g)(o):a.cell? (J b o)=w.cell? (J b o):=
 yv (w:=w) (h.block b d c)
def zE.frozen{w a g}(h:zE w a g){b}(d:b<O w.1)(c:b≠g)(o):a.frozen? (J b o)=w.frozen? (J b o):=
 yG (w:=w) (h.block b d c)
def zE.y(h:zE w w' g)(b:B<=O w.1)(a:B<=g):Below B w w':=
 ⟨h.os,h.tape,h.output,h.size,λi c=>h.block i I I⟩
theorem Ld{g}:∀(c:JD)(o:Nat)(w:JY),zE w (w.setCells g o c) g
 |[],_,w=>zE.refl w g
 |v::a,o,w=>(show zE w (w.setCell (J g o) v) g from⟨F,F,F,Jt,λ_ _ b=>jh _ _ _ _ b⟩).trans (Ld a (o+1) _)
def zE.ops(h:zE w w' g)(l:Au w b off xs)(j:b<O w.1)(H:b≠g):Au w' b off xs:=λi k=>by obtain⟨a,c,d,f⟩:=l i k;have e:=h.cell j H;exact⟨(e _).trans a,(e _).trans c,(e _).trans d,(e _).trans f⟩
def zE.filled{k}(h:zE w w' g)(s:BY w b xs k)(H:b≠g):BY w' b xs k:=by obtain⟨a,c,p⟩:=s;have e:=h.cell a H;have f:=h.frozen a H;refine⟨ym a h.size,λj d=>⟨by rw[e];exact(c j d).1,by rw[f];exact(c j d).2⟩,λi q=>?_⟩;obtain⟨l,m,n,o⟩:=p i q;exact⟨(e _).trans l,(e _).trans m,(e _).trans n,(e _).trans o⟩
def za(h:zE w w' g):w.grownBy w' (E g):=⟨h.os,h.tape,h.output,h.size,λi a e=>h.block i a (λx=>e (by rw[x]))⟩
structure zR where
 k:Int
 g:JZ
 t:ByteArray
abbrev JA:=List zR
def zR.zero:zR:=⟨0,⟨#[]⟩,⟨#[]⟩⟩
def Aa(a:JA)(i:Nat):zR:=a.getD i zR.zero
def LJ(w:JY)(b a)(c:JA)(i:Nat):=
 w.cell? (J b (a+i*3))=E (G (Aa c i).k)/\w.cell? (J b (a+i*3+1))=E (W (Aa c i).g)/\w.cell? (J b (a+i*3+2))=E (W (Aa c i).t)
def Ci(w b a c):=∀i,i<Z c->LJ w b a c i
def Y1(a):=∀i,i<Z a->(Aa a i).g.size<=maxLen/\(Aa a i).t.size<=maxLen
def LJ.y{d}(h:LJ w b off d i)(c:Below B w w')(a:b<B):LJ w' b off d i:=by obtain⟨e,f,g⟩:=h;exact⟨Jc c a e,Jc c a f,Jc c a g⟩
def Ci.y{w c b a d B}(h:Ci w b a d)(f:Below B w c)(e:b<B):Ci c b a d:=
 λi g=>(h i g).y f e
def LY(w a c):=Z c=0\/∃b off,a=E (J b off)/\Ci w b off c/\b<O w.1
def LY.y{w e a f}(h:LY w a f)(d:Qb w e):LY e a f:=by
 rcases h with h|⟨b,off,rfl,g,c⟩
 .exact yW h
 .exact yX ⟨b,off,F,g.y d c,ym c d.size⟩
def LY.alloc{b}(h:LY w a b)(o):LY (w.alloc o) a b:=h.y zC
def OC(o:zR):Nat:=o.g.size+o.t.size
def Zm(a:JA):Nat->Nat
 |0=>0
 |k+1=>Zm a k+OC (Aa a k)
def CX(w g a k):=
 g<O w.1/\w.there g 0 (Z a*3)/\∀i,i<k->LJ w g 0 a i
def CX.grown{k m row}(h:CX w g m k)(d:w.grownBy w' row)(H:E g≠row):CX w' g m k:=by
 obtain⟨a,b,s⟩:=h;have c:=d.block g a H;have e:∀o,w'.cell? (J g o)=w.cell? (J g o):=λo=>yv (w:=w) c
 have f:∀o,w'.frozen? (J g o)=w.frozen? (J g o):=λo=>yG (w:=w) c
 refine⟨ym a d.size,λj l=>⟨by rw[e];exact(b j l).1,by rw[f];exact(b j l).2⟩,λi t=>?_⟩;obtain⟨n,p,q⟩:=s i t;exact⟨(e _).trans n,(e _).trans p,(e _).trans q⟩
def CX.y{w c g k d B}(h:CX w g d k)(a:Below B w c)(b:g<B):CX c g d k:=by obtain⟨e,f,l⟩:=h;refine⟨ym e a.size,λj n=>?_,λi m=>(l i m).y a b⟩;have:=f j n;exact⟨by rw[a.cell (p:=J g _) b];exact this.1,by rw[a.frozen (p:=J g _) b];exact this.2⟩
def CX.setCell{w g k a}(h:CX w g a k)(b o v)(d:b≠g):CX (w.setCell (J b o) v) g a k:=
 h.grown (row:=E b) ⟨F,F,F,Jt,λi _ c=>jh _ _ _ _ (λe=>c (by rw[e]))⟩ (λe=>d (jz e).symm)
def CX.ops{a}(h:CX w g a (Z a)):Ci w g 0 a:=λi b=>h.2.2 i b
theorem CX.step{k a}(h:CX w g a k)(p:k<Z a):CX (w.setCells g (k*3) [G (Aa a k).k,W (Aa a k).g,W (Aa a k).t]) g a (k+1):=by
 obtain⟨c,b,d⟩:=h;have H:=World.cell?_setCells_in g [G (Aa a k).k,W (Aa a k).g,W (Aa a k).t] (k*3) w (λj o=>by
  have:=(b (k*3+j) (by grind)).1
  grind)
 refine⟨?_,World.there_setCells b _ _ _,λi n=>?_⟩
 .simpa[World.setCells,World.setCell] using c
 .by_cases e:i=k
  .subst e;exact⟨Ju (H 0 Js),Ju (H 1 Js),Ju (H 2 Js)⟩
  .have K:i<k:=I;obtain⟨f,l,m⟩:=d i K;refine⟨?_,?_,?_⟩;all_goals
    rw[World.cell?_setCells_out g _ _ _ _ (λ_ _=>yW (by simp;omega))]
    assumption
def TA:(prog.info? 142).map (λi=>(i.zero,i.size,i.bytes))=E (E (b9 #[G 0,W ⟨#[]⟩,W ⟨#[]⟩]),3,40):=Jk
def sub(s:JZ)(i n:Nat):ByteArray:=s.extract i (i+n)
theorem FB(h:i+n<=s.size):(sub s i n).size=n:=by unfold sub;rw[yC];omega
theorem GP(h:i+n<=s.size)(b:j<n):bt (sub s i n) j=bt s (i+j):=by have a:i+n<=s.data.size:=h;unfold bt sub;rw[ByteArray.data_extract,Array.getElem?_extract,yU I]
theorem I8{c}(h:t.size=1):t=⟨#[c]⟩↔bt t 0=c:=by
 obtain⟨⟨l⟩⟩:=t;match l,h with
 |[x],_=>simp[bt]
def Bf(a t):=∃j,j<Z a/\(r a j).s=t
def Dm(a s i n k):=
 1<=n/\i+n<=s.size /\
 (
  (Ai (bt s i)=2/\k=1/\(∀j,j<n->Ai (bt s (i+j))=2)/\(i+n<s.size->Ai (bt s (i+n))≠2)) \/
  (Ai (bt s i)=3/\k=2/\(∀j,j<n->(Ai (bt s (i+j))=2\/Ai (bt s (i+j))=3))/\(i+n<s.size->¬ (Ai (bt s (i+n))=2\/Ai (bt s (i+n))=3))) \/
  (Ai (bt s i)=4/\k=4/\n=1)\/(Ai (bt s i)=5/\k=5/\n=1) \/
  (Ai (bt s i)=6/\((k=3/\Bf a (sub s i n)/\∀m,n<m->i+m<=s.size->¬ Bf a (sub s i m))\/(k=6/\n=1/\∀m,1<=m->i+m<=s.size->¬ Bf a (sub s i m)))) \/
  (Ai (bt s i)=0/\k=6/\n=1))
theorem Dm.one{k f e}(h:Dm xs s i n k)(d:Dm xs s i f e):n=f/\k=e:=by obtain⟨g,j,h⟩:=h;obtain⟨H,K,d⟩:=d;rcases h with⟨c,rfl,a,b⟩|⟨c,rfl,a,b⟩|⟨c,rfl,rfl⟩|⟨c,rfl,rfl⟩|⟨c,h⟩|⟨c,rfl,rfl⟩;all_goals grind
def Ir(s i j):=∀q,i<=q->q<j->Ai (bt s q)=1
def Zr(a:Jf)(s:JZ):Nat->JA->Prop
 |_,[]=>False
 |i,t::out=>(out=[]/\i<=s.size/\Ir s i s.size/\t=⟨7,s.extract i s.size,⟨#[]⟩⟩) \/
   ∃j n k:Nat,i<=j/\j<s.size/\Ir s i j/\Ai (bt s j)≠1/\Dm a s j n k/\t=⟨(k:Int),s.extract i j,s.extract j (j+n)⟩/\Zr a s (j+n) out
def Zr.fin(a:i<=s.size)(b:Ir s i s.size):Zr xs s i [⟨7,s.extract i s.size,⟨#[]⟩⟩]:=yW ⟨F,a,b,F⟩
def Zr.tok{k h}(a:i<=j)(b:j<s.size)(c:Ir s i j)(d:Ai (bt s j)≠1)(e:Dm xs s j n k)(f:Zr xs s (j+n) h):Zr xs s i (⟨(k:Int),s.extract i j,s.extract j (j+n)⟩::h):=yX ⟨j,n,k,a,b,c,d,e,F,f⟩
theorem Zr.one{m s}:∀(o g:JA)(i:Nat),Zr m s i o->Zr m s i g->o=g
 |[],_,_,h,_=>h.elim
 |_::_,[],_,_,h=>h.elim
 |t::o,t'::g,i,h,h'=>by
  rcases h with⟨rfl,p,l,rfl⟩|⟨j,n,k,a,b,c,d,e,rfl,f⟩
  .rcases h' with⟨rfl,_,_,rfl⟩|⟨j',n',k',a',b',c',d',e',rfl,f'⟩
   .rfl
   .exact yV (l _ a' b') d'
  .rcases h' with⟨rfl,p,l,rfl⟩|⟨j',n',k',a',b',c',d',e',rfl,f'⟩
   .exact yV (l _ a b) d
   .have hj:j=j':=by
     rcases Nat.lt_trichotomy j j' with x|x|x
     .exact yV (c' j a x) d
     .exact x
     .exact yV (c j' a' x) d'
    subst hj;obtain⟨rfl,rfl⟩:=e.one e';rw[Zr.one o g (j+n) f f']
theorem Zr.len{g s}:∀(o:JA)(i:Nat),Zr g s i o->Z o+i<=s.size+1
 |[],_,h=>h.elim
 |t::o,i,h=>by
  rcases h with⟨rfl,m,l,rfl⟩|⟨j,n,k,a,b,c,d,e,rfl,f⟩
  .simp;omega
  .have:=e.1;have:=Zr.len o (j+n) f;simp only[yB];omega
def QR(a:Jf)(t:JZ):Bool:=(List.range (Z a)).any λj=>(r a j).s.data==t.data
theorem NT(c t):QR c t=Vp↔Bf c t:=by
 have e:∀a b:JZ,(a.data=b.data)↔a=b:=λa b=>⟨λh=>by cases a;cases b;simp_all,λh=>by rw[h]⟩
 grind [QR,Bf]
def Br(a:Jf)(t:JZ):Nat:=
 if Qy t=Vp then 1 else if Tx t=Vp then 2 else if t.data=#[40] then 4 else if t.data=#[41] then 5 else if QR a t=Vp then 3 else 6
def ZZ(a):=∀j,j<Z a->1<=(r a j).s.size/\(r a j).s.size<=16/\∀q,q<(r a j).s.size->Ai (bt (r a j).s q)=6
theorem Mg(h:Bg xs (Z xs)):ZZ xs:=by
 intro j e;have a:=h j e;unfold Ad.ok Bv DR at a;simp only[jB,jM]at a;obtain⟨⟨⟨⟨⟨b,c⟩,d⟩,_⟩,_⟩,_⟩:=a;refine⟨c,d,λq g=>?_⟩;have f:bt (r xs j).s q∈(r xs j).s.data.toList:=by have H:q<(r xs j).s.data.size:=g;grind [bt]
 have:=List.all_eq_true.1 b _ f;grind [Qe]
theorem SC(k:ZZ xs)(d:1<=n)(h:i+n<=s.size)(g:Bf xs (sub s i n)):n<=16/\Ai (bt s i)=6:=by obtain⟨j,f,e⟩:=g;obtain⟨a,b,c⟩:=k j f;grind [FB,GP]
theorem qX(k:ZZ xs)(d:1<=n)(h:i+n<=s.size)(o:Ai (bt s i)=2):(Br xs (sub s i n)=1/\∀j,j<n->Ai (bt s (i+j))=2)\/(Br xs (sub s i n)=6/\¬ ∀j,j<n->Ai (bt s (i+j))=2):=by
 have a:=FB h;have l:bt (sub s i n) 0=bt s i:=by grind [GP]
 by_cases b:C2 (sub s i n)
 .refine yW ⟨by simp[Br,FA,b],λj g=>?_⟩;have:=b.2 j I;grind [GP]
 .refine yX ⟨?_,λm=>b ⟨I,λj g=>by grind [GP]⟩⟩;have p:¬ Cv (sub s i n):=λf=>by have:=f.2 0 I;grind
  have q:¬ sub s i n=⟨#[40]⟩:=λe=>by
   have c:n=1:=by rw[e]at a;exact a.symm
   grind [I8,Pz]
  have t:¬ sub s i n=⟨#[41]⟩:=λe=>by
   have c:n=1:=by rw[e]at a;exact a.symm
   grind [I8,Pi]
  have u:¬ Bf xs (sub s i n):=λe=>by have:=(SC k d h e).2;omega
  grind [Br,FA,Ie,NT,NS]
theorem qY(a:1<=n)(h:i+n<=s.size)(c:Ai (bt s i)=3)(b:∀j,j<n->(Ai (bt s (i+j))=2\/Ai (bt s (i+j))=3)):Br xs (sub s i n)=2:=by have d:=FB h;grind [bt,sub,GP,C2,Cv,Br,FA,Ie]
theorem nX(f:1<=n)(h:i+n<=s.size)(g:Ai (bt s i)=6):(Br xs (sub s i n)=3/\Bf xs (sub s i n))\/(Br xs (sub s i n)=6/\¬ Bf xs (sub s i n)):=by
 have a:=FB h;have d:bt (sub s i n) 0=bt s i:=by grind [GP]
 have j:¬ C2 (sub s i n):=λb=>by have:=b.2 0 I;grind
 have k:¬ Cv (sub s i n):=λb=>by have:=b.2 0 I;grind
 have l:¬ sub s i n=⟨#[40]⟩:=λe=>by
  have c:n=1:=by rw[e]at a;exact a.symm
  grind [I8,Pz]
 have m:¬ sub s i n=⟨#[41]⟩:=λe=>by
  have c:n=1:=by rw[e]at a;exact a.symm
  grind [I8,Pi]
 grind [Bf,sub,Br,FA,Ie,NT,NS]
theorem qZ(d:ZZ xs)(h:i+1<=s.size)(j:Ai (bt s i)=4\/Ai (bt s i)=5\/Ai (bt s i)=0):(Ai (bt s i)=4/\Br xs (sub s i 1)=4)\/(Ai (bt s i)=5/\Br xs (sub s i 1)=5)\/(Ai (bt s i)=0/\Br xs (sub s i 1)=6):=by
 have c:=FB h;have b:bt (sub s i 1) 0=bt s i:=by grind [GP]
 have k:¬ C2 (sub s i 1):=λa=>by have:=a.2 0 I;grind
 have l:¬ Cv (sub s i 1):=λa=>by have:=a.2 0 I;grind
 have m:¬ Bf xs (sub s i 1):=λe=>by have:=(SC d I h e).2;omega
 have f:sub s i 1=⟨#[40]⟩↔Ai (bt s i)=4:=by rw[I8 c,b,Pz]
 have g:sub s i 1=⟨#[41]⟩↔Ai (bt s i)=5:=by rw[I8 c,b,Pi]
 grind [Br,FA,Ie,NS,NT]
def Qr(s i a):=
 1<=a/\i+a<=s.size /\
 (
  (Ai (bt s i)=6/\a<=16/\(a=16\/i+a=s.size)) \/
  ((Ai (bt s i)=2\/Ai (bt s i)=3)/\(∀j,j<a->(Ai (bt s (i+j))=2\/Ai (bt s (i+j))=3))/\(i+a<s.size->¬ (Ai (bt s (i+a))=2\/Ai (bt s (i+a))=3))) \/
  ((Ai (bt s i)≠6/\Ai (bt s i)≠2/\Ai (bt s i)≠3)/\a=1))
def Ya(b s i a):=
 1<=a/\(a=1\/Br b (sub s i a)≠6)/\∃m,Qr s i m/\a<=m/\∀q,a<q->q<=m->Br b (sub s i q)=6
theorem gV{f}(n:ZZ xs)(h:Ya xs s i f)(A:Ai (bt s i)≠1):Dm xs s i f (Br xs (sub s i f)):=by
 obtain⟨l,w,m,⟨p,X,g⟩,d,L⟩:=h;refine⟨l,I,?_⟩;have v:=YZ (bt s i);rcases g with⟨c,g,e⟩|⟨c,z,g⟩|⟨⟨o,t,u⟩,rfl⟩
 .grind [Bf,sub,SC,nX]
 .rcases c with c|c
  .refine yW ?_;have k:=λq (a:1<=q) (b:i+q<=s.size)=>qX (xs:=xs) n a b c
   have H:Br xs (sub s i f)=1/\∀j,j<f->Ai (bt s (i+j))=2:=by
    rcases k f l I with x|⟨x,y⟩
    .exact x
    .exfalso;have K:f=1:=I;subst K;exact y (λj C=>by
      have:j=0:=I
      subst this;exact c)
   refine⟨c,H.1,H.2,λP B=>?_⟩;have Q:f+1<=m:=by grind
   grind
  .grind [qY]
 .grind [qZ]
structure zD where
 k:Int
 t:JZ
 a:Int
 b:Int
abbrev JF:=List (List zD)
abbrev Jj:=List zD
def zD.zero:zD:=⟨0,⟨#[]⟩,0,0⟩
def Y(a:Jj)(i:Nat):zD:=a.getD i zD.zero
def JO(w:JY)(b a)(c:Jj)(i:Nat):=
 w.cell? (J b (a+i*4))=E (G (Y c i).k)/\w.cell? (J b (a+i*4+1))=E (W (Y c i).t)/\w.cell? (J b (a+i*4+2))=E (G (Y c i).a)/\w.cell? (J b (a+i*4+3))=E (G (Y c i).b)
def Z2(w b a c):=∀i,i<Z c->JO w b a c i
def C5(a):=∀i,i<Z a->(Y a i).t.size<=maxLen
def JO.y{d}(h:JO w b off d i)(c:Below B w w')(a:b<B):JO w' b off d i:=by obtain⟨e,f,g,j⟩:=h;exact⟨Jc c a e,Jc c a f,Jc c a g,Jc c a j⟩
def Z2.y{w c b a d B}(h:Z2 w b a d)(f:Below B w c)(e:b<B):Z2 c b a d:=
 λi g=>(h i g).y f e
def FX(w a c):=Z c=0\/∃b off,a=E (J b off)/\Z2 w b off c/\b<O w.1
def FX.y{w e a f}(h:FX w a f)(d:Qb w e):FX e a f:=by
 rcases h with h|⟨b,off,rfl,g,c⟩
 .exact yW h
 .exact yX ⟨b,off,F,g.y d c,ym c d.size⟩
def FX.alloc{b}(h:FX w a b)(o):FX (w.alloc o) a b:=h.y zC
def ZD(w g a k):=
 g<O w.1/\w.there g 0 (Z a*4)/\∀i,i<k->JO w g 0 a i
def ZD.grown{k m row}(h:ZD w g m k)(d:w.grownBy w' row)(H:E g≠row):ZD w' g m k:=by
 obtain⟨a,b,t⟩:=h;have c:=d.block g a H;have e:∀o,w'.cell? (J g o)=w.cell? (J g o):=λo=>yv (w:=w) c
 have f:∀o,w'.frozen? (J g o)=w.frozen? (J g o):=λo=>yG (w:=w) c
 refine⟨ym a d.size,λj l=>⟨by rw[e];exact(b j l).1,by rw[f];exact(b j l).2⟩,λi u=>?_⟩;obtain⟨n,p,q,s⟩:=t i u;exact⟨(e _).trans n,(e _).trans p,(e _).trans q,(e _).trans s⟩
def ZD.y{w c g k d B}(h:ZD w g d k)(a:Below B w c)(b:g<B):ZD c g d k:=by obtain⟨e,f,l⟩:=h;refine⟨ym e a.size,λj n=>?_,λi m=>(l i m).y a b⟩;have:=f j n;exact⟨by rw[a.cell (p:=J g _) b];exact this.1,by rw[a.frozen (p:=J g _) b];exact this.2⟩
def ZD.setCell{w g k a}(h:ZD w g a k)(b o v)(d:b≠g):ZD (w.setCell (J b o) v) g a k:=
 h.grown (row:=E b) ⟨F,F,F,Jt,λi _ c=>jh _ _ _ _ (λe=>c (by rw[e]))⟩ (λe=>d (jz e).symm)
def ZD.ops{a}(h:ZD w g a (Z a)):Z2 w g 0 a:=λi b=>h.2.2 i b
theorem ZD.step{k a}(h:ZD w g a k)(q:k<Z a):ZD (w.setCells g (k*4) [G (Y a k).k,W (Y a k).t,G (Y a k).a,G (Y a k).b]) g a (k+1):=by
 obtain⟨c,b,d⟩:=h;have H:=World.cell?_setCells_in g [G (Y a k).k,W (Y a k).t,G (Y a k).a,G (Y a k).b] (k*4) w (λj p=>by
  have:=(b (k*4+j) (by grind)).1
  grind)
 refine⟨?_,World.there_setCells b _ _ _,λi o=>?_⟩
 .simpa[World.setCells,World.setCell] using c
 .by_cases e:i=k
  .subst e;exact⟨Ju (H 0 Js),Ju (H 1 Js),Ju (H 2 Js),Ju (H 3 Js)⟩
  .have K:i<k:=I;obtain⟨f,l,m,n⟩:=d i K;refine⟨?_,?_,?_,?_⟩;all_goals
    rw[World.cell?_setCells_out g _ _ _ _ (λ_ _=>yW (by simp;omega))]
    assumption
def BB:(prog.info? 108).map (λi=>(i.zero,i.size,i.bytes))=E (E (b9 #[G 0,W ⟨#[]⟩,G 0,G 0]),4,40):=Jk
def Nj(c w):Calls Vb 82 #[.int .u8 (c.toNat:Int)] w λe w'=>e=i9 (i7 (decide (Ai c=3)))/\w'=w:=by go_enter func82,ntmps82;go_wp2;all_goals(go_ret;refine⟨zv ?_,F⟩;go_light;rw[jI];simp[tM]<;>omega)
def Rc(s w)(l:s.size<=maxLen):Calls Vb 43 #[W s] w λe w'=>Bj e (Cv s)/\w'=w:=by
 unfold maxLen at l;go_enter func43,ntmps43;go_wp2;go_loop [3] (λi=>∃k:Nat,k<=s.size/\i=G k/\Hid (∀j,j<k->(Ai (bt s j)=3\/(j≠0/\Ai (bt s j)=2)))) (λi=>s.size-(intOf i).toNat);case atStart=>exact⟨0,yn,F,S (λj h=>I)⟩
 case round=>
  obtain⟨k,p,rfl,d⟩:=hrel;by_cases H:k<s.size
  .have y:=S (ZV H);have n:(¬ Ai (bt s k)=3)->(k=0\/¬ Ai (bt s k)=2)->∀v,v=Vt->DO v (Cv s):=λc o v m=>by subst m;refine⟨λh=>(by cases h),λh=>?_⟩;have:=h.2 k H;omega
   have f:=S n;cases a:decide (Ai s[k]=3)
   .have K:=S (by rw[ZV H]at a;simpa using a:¬ Ai (bt s k)=3);by_cases Q:k=0
    .subst Q;go_wp2_with (go_at_call 82;refine(Nj _ _).mono ?_;rintro e w' ⟨rfl,rfl⟩);go_ret;exact⟨⟨_,F,f K (yW trivial) _ F⟩,F⟩
    .have x:((k:Int)==0)=Vt:=Jq;cases b:decide (Ai s[k]=2)
     .have q:=S (by rw[ZV H]at b;simpa using b:¬ Ai (bt s k)=2);go_wp2_with (first|(go_at_call 82;refine(Nj _ _).mono ?_;rintro e w' ⟨rfl,rfl⟩)|(go_at_call 83;refine(Nn _ _).mono ?_;rintro e w' ⟨rfl,rfl⟩));go_ret;exact⟨⟨_,F,f K (yX q) _ F⟩,F⟩
     .have q:=S (by rw[ZV H]at b;simpa using b:Ai (bt s k)=2);go_wp2_with (first|(go_at_call 82;refine(Nj _ _).mono ?_;rintro e w' ⟨rfl,rfl⟩)|(go_at_call 83;refine(Nn _ _).mono ?_;rintro e w' ⟨rfl,rfl⟩));refine⟨⟨k+1,I,Jn,S (λj g=>?_)⟩,Ji⟩;by_cases e:j=k
      .subst e;exact yX ⟨Q,q⟩
      .exact d j I
   .have K:=S (by rw[ZV H]at a;simpa using a:Ai (bt s k)=3);go_wp2_with (go_at_call 82;refine(Nj _ _).mono ?_;rintro e w' ⟨rfl,rfl⟩);refine⟨⟨k+1,I,Jn,S (λj g=>?_)⟩,Ji⟩;by_cases e:j=k
    .subst e;exact yW K
    .exact d j I
  .by_cases c:1<=s.size
   .have X:(1:Int)<=s.size:=I;go_wp2;go_ret;exact⟨⟨_,F,⟨λ_=>⟨c,λj g=>d j I⟩,λ_=>Jq⟩⟩,F⟩
   .go_wp2;go_ret;exact⟨⟨decide (0<s.size),F,⟨λh=>yV (jN h) I,λh=>yV h.1 c⟩⟩,F⟩
def Uv(c w):Calls Vb 132 #[.int .u8 (c.toNat:Int)] w λe w'=>e=i9 (i7 (decide (Ai c=1)))/\w'=w:=by go_enter func132,ntmps132;go_wp2;all_goals(go_ret;refine⟨zv ?_,F⟩;go_light;(try simp only[beq_iff_eq,jc,ne_eq]at *);rw[jI];simp[oH]<;>omega)
theorem Lk(b d f c t g w)(u:Z c<=1048576)(p:Au w b d c)(n:b<O w.1):Calls Vb 146 #[b9 #[Je b d (Z c) f],W t,G g] w λe w'=>(∃a:Int,e=i9 (G a)/\(0<=a↔∃j,j<Z c/\(r c j).s=t/\(r c j).k=g))/\Qb w w':=by
 go_enter func146,ntmps146;go_wp2;have H:Au (w.alloc (JM #[Je b d (Z c) f] 45)) b d c:=p.y zC n;have m:=S H;go_loop [7] (λi=>∃k:Nat,k<=Z c/\i=G k/\Hid (∀j,j<k->¬ ((r c j).s=t/\(r c j).k=g))) (λi=>Z c-(intOf i).toNat);case atStart=>exact⟨0,yn,F,S (λj h=>I)⟩
 case round=>
  obtain⟨k,s,rfl,l⟩:=hrel;by_cases q:k<Z c
  .obtain⟨a0,a1,a2,a3⟩:=(D m) k q;have K:=S (show ∀(_:¬ ((r c k).s=t/\(r c k).k=g)),∀j,j<k+1->¬ ((r c j).s=t/\(r c j).k=g) from λx j o=>by
    by_cases e:j=k
    .subst e;exact x
    .exact l j I)
   go_wp2
   .rename_i X Q _;go_ret;exact⟨⟨(k:Int),F,⟨λ_=>⟨k,q,Ny X,Ju Q⟩,λ_=>I⟩⟩,zC⟩
   .refine⟨⟨k+1,I,Jn,S (K ?_)⟩,Ji⟩;rintro⟨_,h⟩;simp_all
   .refine⟨⟨k+1,I,Jn,S (K ?_)⟩,Ji⟩;rintro⟨h,_⟩;simp_all
  .go_wp2;go_ret;refine⟨⟨-1,F,⟨λh=>yV h Jd,λ⟨j,o,h⟩=>yV h (l j I)⟩⟩,zC⟩
structure zF where
 n:JZ
 t:ByteArray
abbrev Jp:=List zF
def zF.zero:zF:=⟨⟨#[]⟩,⟨#[]⟩⟩
def Ae(a:Jp)(i:Nat):zF:=a.getD i zF.zero
def Qf(w:JY)(b a)(c:Jp)(i:Nat):=
 w.cell? (J b (a+i*2))=E (W (Ae c i).n)/\w.cell? (J b (a+i*2+1))=E (W (Ae c i).t)
def J3(w b a c):=∀i,i<Z c->Qf w b a c i
def Em(a):=∀i,i<Z a->(Ae a i).n.size<=maxLen/\(Ae a i).t.size<=maxLen
def Qf.y{d}(h:Qf w b off d i)(c:Below B w w')(a:b<B):Qf w' b off d i:=by obtain⟨e,f⟩:=h;exact⟨Jc c a e,Jc c a f⟩
def J3.y{w c b a d B}(h:J3 w b a d)(f:Below B w c)(e:b<B):J3 c b a d:=
 λi g=>(h i g).y f e
def Cj(w a c):=Z c=0\/∃b off,a=E (J b off)/\J3 w b off c/\b<O w.1
def Cj.y{w e a f}(h:Cj w a f)(d:Qb w e):Cj e a f:=by
 rcases h with h|⟨b,off,rfl,g,c⟩
 .exact yW h
 .exact yX ⟨b,off,F,g.y d c,ym c d.size⟩
def Cj.alloc{b}(h:Cj w a b)(o):Cj (w.alloc o) a b:=h.y zC
def AE(k a:Int):Int:=if k=1 then 2 else if k=3 then 1 else a
theorem O7(s k l a w):Calls Vb 24 #[b9 #[W s,G k,G l,G a]] w λe w'=>e=i9 (G (AE k a))/\Qb w w':=by
 by_cases b:k=1
 .have h:(k==1)=Vp:=by grind
  have H:=S b;go_enter func24,ntmps24;go_wp2;go_ret;exact⟨zK (by simp[AE,D H]),zC⟩
 .by_cases h3:k=3
  .have h:(k==1)=Vt:=by grind
   have K:(k==3)=Vp:=by grind
   have H:=S h3;go_enter func24,ntmps24;go_wp2;go_ret;exact⟨zK (by simp[AE,D H]),zC⟩
  .have h:(k==1)=Vt:=by grind
   have K:(k==3)=Vt:=by grind
   go_enter func24,ntmps24;go_wp2;go_ret;exact⟨zK (by grind [AE]),zC⟩
theorem zaS{k l a}(h:Bv s k l a=Vp):(k=3\/a=1->AE k a=1)/\(¬ (k=3\/a=1)->(k=1\/a=2)->AE k a=2)/\(¬ (k=3\/a=1)->¬ (k=1\/a=2)->AE k a=3):=by obtain⟨_,h⟩:=Ii s k l a h;grind [AE]
def UZ(s k l a w)(b:Bv s k l a=Vp):Calls Vb 197 #[b9 #[W s,G k,G l,G a]] w λe w'=>e=i9 (G (AE k a))/\Qb w w':=by have h:=S (zaS b);go_enter func197,ntmps197;go_wp2;all_goals(go_ret;refine⟨zK ?_,zC⟩;obtain⟨c,d,f⟩:=D h;go_light;(try simp only[beq_iff_eq,jc,ne_eq]at *);first|(rw[c I])|(rw[d I I])|(rw[f I I]))
theorem fG(s t k l d b c a w):Calls Vb 60 #[b9 #[W s,G k,G l,G d],b9 #[W t,G b,G c,G a],G 3] w λe w'=>(∃v,e=i9 (i7 v)/\(v=Vp↔(s=t/\(k=1↔b=1))))/\Qb w w':=by
 go_enter func60,ntmps60;go_wp2
 .go_ret;refine⟨⟨_,F,?_⟩,(zC).alloc Js _⟩;go_light;grind [Zd]
 .go_ret;refine⟨⟨_,F,?_⟩,(zC).alloc Js _⟩;go_light;grind
def nY{a}(b:Qb a w1)(h:O w.1+1<O a.1)(c:Qb w a):(∀o,w1.cell? (J (O w.1) o)=a.cell? (J (O w.1) o))/\(∀o,w1.cell? (J (O w.1+1) o)=a.cell? (J (O w.1+1) o))/\O w.1+1<O w1.1/\Qb w w1:=
 ⟨λ_=>b.cell (p:=J _ _) (show O w.1<_ by omega),λ_=>b.cell (p:=J _ _) h,ym h b.size,c.trans (b.mono I)⟩
theorem fH(s t k l f d b a w):Calls Vb 60 #[b9 #[W s,G k,G l,G f],b9 #[W t,G d,G b,G a],G 4] w λe w'=>(∃v,e=i9 (i7 v)/\(v=Vp↔(l=b/\AE k f≠AE d a)))/\Qb w w':=by
 by_cases g:l=b
 .have h:(l==b)=Vp:=by grind
  have H:=S g;go_enter func60,ntmps60;go_wp2_with fail;go_region_held (λw'=>(w'.cell? (J (O w.1) 0)=E (W s)/\w'.cell? (J (O w.1) 1)=E (G k)/\w'.cell? (J (O w.1) 2)=E (G l)/\w'.cell? (J (O w.1) 3)=E (G f)) /\
   (w'.cell? (J (O w.1+1) 0)=E (W t)/\w'.cell? (J (O w.1+1) 1)=E (G d)/\w'.cell? (J (O w.1+1) 2)=E (G b)/\w'.cell? (J (O w.1+1) 3)=E (G a))) (go_keep)
   (first|(go_at_call 24;refine(O7 _ _ _ _ _).mono ?_;rintro e w1 ⟨rfl,c⟩;obtain⟨j,m,n,i⟩:=nY (w:=w) c (by first|assumption|(simp[heap_drew];done)) (by first|assumption|exact((zC).alloc Js _).drew)))
  go_wp2;go_ret;refine⟨⟨_,F,?_⟩,i⟩;grind
 .have h:(l==b)=Vt:=by grind
  go_enter func60,ntmps60;go_wp2_with fail;go_quiet (fail);go_wp2;go_ret;refine⟨⟨_,F,?_⟩,below_drewN ((zC).alloc Js _) _⟩;simp[g]
def cl(c:Int)(a b:Ad):=if c=3 then(a.s=b.s/\(a.k=1↔b.k=1)) else(a.l=b.l/\AE a.k a.sd≠AE b.k b.sd)
def gW(a b c w)(d:c=3\/c=4):Calls Vb 60 #[b9 #[W a.s,G a.k,G a.l,G a.sd],b9 #[W b.s,G b.k,G b.l,G b.sd],G c] w λe w'=>(∃v,e=i9 (i7 v)/\(v=Vp↔cl c a b))/\Qb w w':=by
 rcases d with rfl|rfl
 .exact fG _ _ _ _ _ _ _ _ _
 .exact fH _ _ _ _ _ _ _ _ _
def Pr(c a):=∃i j,j<i/\i<Z a/\cl c (r a i) (r a j)
def IC(c a k):=∀i j,j<i->i<k->¬ cl c (r a i) (r a j)
theorem RK{c k}(h:IC c xs k)(d:∀j,j<k->¬ cl c (r xs k) (r xs j)):IC c xs (k+1):=by
 intro i j a b;by_cases e:i=k
 .grind
 .exact h i j a I
def R7{c}(h:IC c xs (Z xs)):¬ Pr c xs:=λ⟨i,j,d,b,a⟩=>h i j d b a
def zM(a)(c:Int):=
 (c=1/\500<Z a)\/(Z a<=500/\((c=2/\¬ Bg a (Z a))\/(Bg a (Z a)/\((c=3/\Pr 3 a)\/(¬ Pr 3 a/\((c=4/\Pr 4 a)\/(c=0/\¬ Pr 4 a)))))))
theorem Z3{c a}(h:zM xs c)(b:zM xs a):c=a:=by grind [zM,Bg,Pr]
structure Bx(w:JY)(b a c:Nat)(d:Jf)(wr:JY):Prop where
 box:wr.cell? (J (O w.1) 0)=E (Je b a (Z d) c)
 ops:Au wr b a d
 lt:O w.1<O wr.1
 blt:b<O wr.1
 bel:Qb w wr
def Bx.step{wr}(h:Bx w b off cap xs wr)(a:Qb wr w'):Bx w b off cap xs w':=
 ⟨Jc a h.lt h.box,h.ops.y a h.blt,ym h.lt a.size,ym h.blt a.size,h.bel.trans (a.mono (Nat.le_of_lt h.lt))⟩
def Bx.drew{w b c a d wr}(h:Bx w b c a d wr):Bx w b c a d wr.drew:=
 h.step (yN).drew
def Bx.start(h:Au w b off xs)(a:b<O w.1)(t):Bx w b off cap xs (w.alloc (JM #[Je b off (Z xs) cap] t)):=
 ⟨Jg,h.y zC a,Js,Jq,zC⟩
def zH(h:Qb w w')(a):w.grownBy w' a:=⟨h.os,h.tape,h.output,h.size,λi b _=>h.block i b⟩
def ze{d b}(h:Qb w w1)(a:w1.grownBy d b):w.grownBy d b:=
 ⟨a.os.trans h.os,a.tape.trans h.tape,a.output.trans h.output,yy h.size a.size,λi c e=>(a.block i (ym c h.size) e).trans (h.block i c)⟩
def zi{f b a}(h:w.grownBy w1 b)(c:w1.grownBy f a)(g:a=b\/∃k,a=E k/\O w.1<=k):w.grownBy f b:=
 ⟨c.os.trans h.os,c.tape.trans h.tape,c.output.trans h.output,yy h.size c.size,λi d H=>(c.block i (ym d h.size) (λe=>by
  rcases g with rfl|⟨k,rfl,j⟩
  .exact H e
  .injection e with e;omega)).trans (h.block i d H)⟩
def zJ{a}(h:w.grownBy w' a)(c:b<O w.1)(H:a≠E b)(o):w'.cell? (J b o)=w.cell? (J b o):=
 yv (w:=w) (h.block b c (λe=>H e.symm))
theorem Ek{c b}(h:w.grownBy w' c)(d:b=c\/∃k,b=E k/\O w.1<=k)(a)(H:a=b\/∃k,a=E k/\O w'.1<=k):a=c\/∃k,a=E k/\O w.1<=k:=by have:=h.size;grind
theorem Ic{t z s}(h:(prog.info? t).map (λi=>(i.zero,i.size,i.bytes))=E (E z,s,b)):∃i,prog.info? t=E i/\i.zero=E z/\i.size=s/\i.bytes=b:=by obtain⟨i,a,c⟩:=jx.1 h;grind
def As{t z A l}(P:(prog.info? e).map (λi=>(i.zero,i.size,i.bytes))=E (E z,A,l))(V:prog.underlying t=E (.slice e)){B k o a}{Q:Exit->Act->World->Prop}(s x)(y:o.guard=JL)(T:o.op=.call { callee:=.builtin .append,args:=#[s,x],argTypes:=#[t,t] })(g v n M)(U:a.eval s=v)(X:w.ownsRow g e A v n M)(L m c f)(hx:a.eval x=i6 (E L) m c)(R:Z f=m*A)(K:∀j u,f[j]?=E u->w.cell? (L.add j)=E u)(N:∀u∈f,u.oneCell'=Vp)(d:n+m<=maxLen)(H:(n+m)*l<=140737488355328)(q:g<=O w.1)(h:∀C w',w'.ownsRow g e A C (n+m) (M++f)->w.grownBy w' v.ownBlock->(C=Jl↔v=Jl/\m=0)->(C.ownBlock=v.ownBlock\/C.ownBlock=E (O w.1))->wpList Vb B Q k (a.put o.dst C) w')(p:z.cells.size=A:=by rfl)(b:0<A:=by first|decide):wpList Vb B Q (o::k) a w:=by obtain⟨i,p1,p2,p3,p4⟩:=Ic P;exact yP w y s x t T g e i z A l V p1 p2 p3 p4 p b v n M U X L m c f hx R K N d H q h
def De{t z B A}(T:(prog.info? e).map (λi=>(i.zero,i.size,i.bytes))=E (E z,B,A))(ht:prog.underlying t=E (.slice e)){L o a}{K:Act->World->Prop}{Q:Exit->Act->World->Prop}{b}(s x)(d:o.guard=JL)(ho:o.op=.call { callee:=.builtin .append,args:=#[s,x],argTypes:=#[t,t] })(l v n M)(hs:a.eval s=v)(f:w.ownsRow l e B v n M)(C m c k)(hx:a.eval x=i6 (E C) m c)(U:Z k=m*B)(X:∀j u,k[j]?=E u->w.cell? (C.add j)=E u)(N:∀u∈k,u.oneCell'=Vp)(hm:0<m)(p:n+m<=maxLen)(q:(n+m)*A<=140737488355328)(y:l<=O w.1)(H)(R:O w.1=H)(h:∀g cap w',w'.ownsRow l e B (Ql g (n+m) cap) (n+m) (M++k)->w.grownBy w' v.ownBlock->(v.ownBlock=E g\/g=H)->g<O w'.1->K (a.put o.dst (Ql g (n+m) cap)) w')(V:z.cells.size=B:=by rfl)(P:0<B:=by first|decide):if Region.wanted o (yielded L a.tmps)=Vp then Oper.wp Vb o a w K Q else b:=by obtain⟨i,p1,p2,p3,p4⟩:=Ic T;exact step_append_lies w d s x t ho l e i z B A ht p1 p2 p3 p4 V P v n M hs f C m c k hx U X N hm p q y H R h
theorem Le(c w):Calls Vb 191 #[.int .u8 (c.toNat:Int)] w λe w'=>e=i9 (G (Ai c:Int))/\w'=w:=by have h:=Qe c;go_enter func191,ntmps191;go_wp2_with (go_at_call 169;refine(Ro _ _).mono ?_;rintro e w' ⟨rfl,hx⟩;obtain rfl:=hx.symm);all_goals(go_ret;refine⟨zK ?_,F⟩;go_light;(try simp only[beq_iff_eq,jc,ne_eq]at *);unfold Ai;(repeat' split)<;>(try simp_all)<;>(try omega))
def DL(a:Nat)(c:UInt8):Bool:=decide (Ai c=2\/(Ai c=3/\a=3))
theorem Q0(a:Nat)(c w):Calls Vb 192 #[G a,.int .u8 (c.toNat:Int)] w λe w'=>e=i9 (i7 (DL a c))/\w'=w:=by
 by_cases d:Ai c=2
 .have HR:=S (by simp[DL,d]:DL a c=Vp);have b:=S (I:(Ai c:Int)=2);go_enter func192,ntmps192;go_wp2_with (go_at_call 191;refine(Le _ _).mono ?_;rw[D b];rintro e w' ⟨rfl,hx⟩;obtain rfl:=hx.symm);go_ret;exact⟨zv HR.symm,F⟩
 by_cases g:Ai c=3
 .have b:=S (I:(Ai c:Int)=3);by_cases f:a=3
  .have HR:=S (by grind [DL]:DL a c=Vp);subst f;go_enter func192,ntmps192;go_wp2_with (go_at_call 191;refine(Le _ _).mono ?_;rw[D b];rintro e w' ⟨rfl,hx⟩;obtain rfl:=hx.symm);go_ret;exact⟨zv HR.symm,F⟩
  .have HR:=S (by grind [DL]:DL a c=Vt);have K:((a:Int)==3)=Vt:=Jq;go_enter func192,ntmps192;go_wp2_with (go_at_call 191;refine(Le _ _).mono ?_;rw[D b];rintro e w' ⟨rfl,hx⟩;obtain rfl:=hx.symm);go_ret;exact⟨zv HR.symm,F⟩
 .have HR:=S (by grind [DL]:DL a c=Vt);have H:((Ai c:Int)==2)=Vt:=Jq;have h:((Ai c:Int)==3)=Vt:=Jq;go_enter func192,ntmps192;go_wp2_with (go_at_call 191;refine(Le _ _).mono ?_;rintro e w' ⟨rfl,hx⟩;obtain rfl:=hx.symm);go_ret;exact⟨zv HR.symm,F⟩
theorem Yb(t):∀(n i:Nat)(a:Jw),n=t.size-i->a≠[]->ByteArray.toList.loop t i a≠[]
 |0,i,a,h,hr=>by unfold ByteArray.toList.loop;rw[yS I];simpa using hr
 |n+1,i,a,h,hr=>by unfold ByteArray.toList.loop;rw[yU I];exact Yb t n (i+1) _ I Js
def Pj(h:t.size≠0):t.toList.isEmpty=Vt:=by rw[List.isEmpty_eq_false_iff];unfold ByteArray.toList ByteArray.toList.loop;rw[yU I];exact Yb t (t.size-1) 1 _ F Js
def Pk(h:t.size=0):t=⟨#[]⟩:=by obtain⟨d⟩:=t;congr 1;exact Array.eq_empty_of_size_eq_zero h
def zT{p}(h:¬ p):DO Vt p:=⟨λe=>(by cases e),λe=>yV e h⟩
def Zt{p}(h:p):DO Vp p:=⟨λ_=>h,λ_=>F⟩
def Iw(a s):=1<=s.size/\Ai (bt s 0)=a/\∀j,j<s.size->DL a (bt s j)=Vp
theorem O8(a:Nat)(s w)(o:s.size<=maxLen):Calls Vb 142 #[G a,W s] w λe w'=>Bj e (Iw a s)/\w'=w:=by
 unfold maxLen at o;by_cases f:s.size=0
 .have c:Hid (¬ Iw a s):=λh=>Jy h.1
  obtain rfl:=Pk f;go_enter func142,ntmps142;go_wp2;go_ret;exact⟨⟨_,F,zT c⟩,F⟩
 have X:=Pj f;have Q:(0:Int)<s.size:=I;have H:0<s.size:=I
 by_cases d:Ai (bt s 0)=a
 case neg=>
  have c:Hid (¬ Iw a s):=λh=>d h.2.1
  have b:=ZV H;have x:((Ai s[0]:Int)!=(a:Int))=Vp:=by grind
  clear b;go_enter func142,ntmps142;go_wp2_with (go_at_call 191;refine(Le _ _).mono ?_;rintro e w' ⟨rfl,hx⟩;obtain rfl:=hx.symm);go_ret;exact⟨⟨_,F,zT c⟩,F⟩
 have g:=S d;have b:=ZV H;have l:=S (by grind:(Ai s[0]:Int)=(a:Int));clear b d;go_enter func142,ntmps142;go_wp2_with (go_at_call 191;refine(Le _ _).mono ?_;rw[D l];rintro e w' ⟨rfl,hx⟩;obtain rfl:=hx.symm);go_loop [17] (λi=>∃k:Nat,k<=s.size/\i=G k/\Hid (∀j,j<k->DL a (bt s j)=Vp)) (λi=>s.size-(intOf i).toNat);case atStart=>exact⟨0,yn,F,S (λj h=>I)⟩
 case round=>
  obtain⟨k,p,rfl,n⟩:=hrel;by_cases K:k<s.size
  .have q:(k:Int)<s.size:=I;cases b:DL a s[k]
   .have Hb:=S (by grind [ZV]:DL a (bt s k)=Vt);go_wp2_with (go_at_call 192;refine(Q0 _ _ _).mono ?_;rintro e w' ⟨rfl,hx⟩;obtain rfl:=hx.symm);go_ret;exact⟨⟨_,F,zT (λh=>by have:=h.2.2 k K;rw[D Hb]at this;cases this)⟩,F⟩
   .have Hb:=S (by grind [ZV]:DL a (bt s k)=Vp);go_wp2_with (go_at_call 192;refine(Q0 _ _ _).mono ?_;rintro e w' ⟨rfl,hx⟩;obtain rfl:=hx.symm);refine⟨⟨k+1,I,Jn,S (λj m=>?_)⟩,Ji⟩;grind [Hid]
  .go_wp2;go_ret;exact⟨⟨_,F,Zt ⟨I,g,λj m=>n j I⟩⟩,F⟩
theorem Yc(s):Iw 2 s↔C2 s:=by grind [Iw,C2,DL]
theorem Yd(s):Iw 3 s↔Cv s:=by grind [Iw,Cv,DL]
theorem D4(h:(t.toList==l)=Vp):t=⟨l.toArray⟩:=by
 have h:t.toList=l:=Ju h
 rw[yI]at h;obtain⟨d⟩:=t;subst h;simp
theorem Fw(h:(t.toList==l)=Vt):t≠⟨l.toArray⟩:=λe=>by subst e;simp[yI]at h
theorem LK(h:t≠⟨l.toArray⟩):(t.toList==l)=Vt:=by grind [D4]
def Ep(w:JZ):Int:=if w=DH then 1 else if w=DJ then 2 else if w=Z9 then 3 else 0
theorem lQ(t w):Calls Vb 98 #[W t] w λe w'=>e=i9 (G (Bn t))/\w'=w:=by
 cases a:(t.toList==[108,101,102,116])
 .cases q2:(t.toList==[114,105,103,104,116])
  .cases q3:(t.toList==[110,111,110,101])
   .have HR:=S (by grind [Bn,Gl,Gk,Gm,Fw]:Bn t=0);go_enter func98,ntmps98;go_wp2;go_ret;exact⟨zK HR.symm,F⟩
   .have HR:=S (by grind [Bn,Gl,Gk,Gm,Fw,D4]:Bn t=3);go_enter func98,ntmps98;go_wp2;go_ret;exact⟨zK HR.symm,F⟩
  .have HR:=S (by grind [Bn,Gl,Gk,Gm,Fw,D4]:Bn t=2);go_enter func98,ntmps98;go_wp2;go_ret;exact⟨zK HR.symm,F⟩
 .have HR:=S (by grind [Bn,Gl,Gk,Gm,D4]:Bn t=1);go_enter func98,ntmps98;go_wp2;go_ret;exact⟨zK HR.symm,F⟩
theorem dQ(t w):Calls Vb 177 #[W t] w λe w'=>e=i9 (G (Bn t))/\w'=w:=by
 cases a:(t.toList==[108,101,102,116])
 .cases q2:(t.toList==[114,105,103,104,116])
  .cases q3:(t.toList==[110,111,110,101])
   .have HR:=S (by grind [Bn,Gl,Gk,Gm,Fw]:Bn t=0);go_enter func177,ntmps177;go_wp2;go_ret;exact⟨zK HR.symm,F⟩
   .have HR:=S (by grind [Bn,Gl,Gk,Gm,Fw,D4]:Bn t=3);go_enter func177,ntmps177;go_wp2;go_ret;exact⟨zK HR.symm,F⟩
  .have HR:=S (by grind [Bn,Gl,Gk,Gm,Fw,D4]:Bn t=2);go_enter func177,ntmps177;go_wp2;go_ret;exact⟨zK HR.symm,F⟩
 .have HR:=S (by grind [Bn,Gl,Gk,Gm,D4]:Bn t=1);go_enter func177,ntmps177;go_wp2;go_ret;exact⟨zK HR.symm,F⟩
theorem dR(t w):Calls Vb 176 #[W t] w λe w'=>e=i9 (G (Ep t))/\w'=w:=by
 cases a:(t.toList==[112,114,101,102,105,120])
 .cases q2:(t.toList==[105,110,102,105,120])
  .cases q3:(t.toList==[112,111,115,116,102,105,120])
   .have HR:=S (by grind [Ep,DH,DJ,Z9,Fw]:Ep t=0);go_enter func176,ntmps176;go_wp2;go_ret;exact⟨zK HR.symm,F⟩
   .have HR:=S (by grind [Ep,DH,DJ,Z9,Fw,D4]:Ep t=3);go_enter func176,ntmps176;go_wp2;go_ret;exact⟨zK HR.symm,F⟩
  .have HR:=S (by grind [Ep,DH,DJ,Z9,Fw,D4]:Ep t=2);go_enter func176,ntmps176;go_wp2;go_ret;exact⟨zK HR.symm,F⟩
 .have HR:=S (by grind [Ep,DH,DJ,Z9,D4]:Ep t=1);go_enter func176,ntmps176;go_wp2;go_ret;exact⟨zK HR.symm,F⟩
def DP(t:JZ):Bool:=decide (t.size<=6)&&Qy t
def Gx(t:JZ):Int:=if DP t=Vp then(Zq t t.size:Int) else -1
theorem Mw(t):DP t=Vp↔LX t:=by grind [DP,LX,FA,C2,NR]
theorem TS(t w)(c:t.size<=maxLen):Calls Vb 174 #[W t] w λe w'=>e=i9 (i7 (DP t))/\w'=w:=by
 by_cases f:t.size<=6
 .have h:(t.size:Int)<=6:=I;have a:=S (show ∀v,DO v (Iw 2 t)->v=DP t from λv b=>by grind [DP,Mw,DO,Yc,C2,LX,NR])
  go_enter func174,ntmps174;go_wp2_with (go_at_call 142;refine(O8 2 _ _ c).mono ?_;rintro e w' ⟨⟨v,rfl,b⟩,hx⟩;obtain rfl:=hx.symm;have d:=S b;clear b);go_ret;exact⟨zv (a _ d),F⟩
 .have h:¬ (t.size:Int)<=6:=I;have a:=S (by grind [DP]:DP t=Vt);unfold maxLen at c;go_enter func174,ntmps174;go_wp2;go_ret;exact⟨zv a.symm,F⟩
theorem Q8(t w)(g:t.size<=maxLen):Calls Vb 97 #[W t] w λe w'=>e=i9 (G (Gx t))/\w'=w:=by
 by_cases c:C2 t;case neg=>
  have f:=S (show Gx t = -1 by
   unfold Gx
   rw[yS]
   rw[Mw]
   exact λh=>c ⟨h.1,λi l=>(NR _).2 (h.2.2 i l)⟩)
  have d:=S c;go_enter func97,ntmps97;go_wp2_with (go_at_call 145;refine(Nh _ _ g).mono ?_;rintro e w' ⟨⟨v,rfl,b⟩,hx⟩;obtain rfl:=hx.symm;obtain rfl:v=Vt:=(by cases v;rfl;exact yV (b.1 F) d);clear b);go_ret;exact⟨zK f.symm,F⟩
 by_cases C:t.size<=6;case neg=>
  have X:(6:Int)<t.size:=I;have f:=S (show Gx t = -1 by grind [Gx,DP])
  have d:=S c;have Q:=g;unfold maxLen at Q;go_enter func97,ntmps97;go_wp2_with (go_at_call 145;refine(Nh _ _ g).mono ?_;rintro e w' ⟨⟨v,rfl,b⟩,hx⟩;obtain rfl:=hx.symm;obtain rfl:v=Vp:=(by cases v;exact(b.2 d);rfl);clear b);go_ret;exact⟨zK f.symm,F⟩
 have X:(t.size:Int)<=6:=I;have H:∀i,i<t.size->48<=(bt t i).toNat/\(bt t i).toNat<=57:=λi l=>(NR _).1 (c.2 i l)
 have q:∀k,k<=t.size->Zq t k<1000000:=λk m=>by have h:=PA t H k m;have M:10 ^ k<=10 ^ 6:=Nat.pow_le_pow_right Jd I;omega
 have f:=S (show Gx t=(Zq t t.size:Int) by
  unfold Gx
  rw[yU]
  rw[Mw]
  exact⟨c.1,C,H⟩)
 have p:=S H;have s:=S q;have d:=S c;go_enter func97,ntmps97;go_wp2_with (go_at_call 145;refine(Nh _ _ g).mono ?_;rintro e w' ⟨⟨v,rfl,b⟩,hx⟩;obtain rfl:=hx.symm;obtain rfl:v=Vp:=(by cases v;exact(b.2 d);rfl);clear b);go_loop [3,4] (λx i=>∃k:Nat,k<=t.size/\i=G k/\x=G (Zq t k:Int)) (λ_ i=>t.size-(intOf i).toNat);case atStart=>exact⟨0,yn,F,F⟩
 case round=>
  obtain⟨k,m,rfl,rfl⟩:=hrel;by_cases K:k<t.size
  .have y:(k:Int)<t.size:=I;have L:=(D s) k m;obtain⟨u,A⟩:=(D p) k K;have n:=ZV K;rw[<-n]at u A;have o:=S n;have z:(48:Int)<=(t[k].toNat:Int):=I;have B:(t[k].toNat:Int)<=57:=I;have j:(Zq t k:Int)<1000000:=I;have a:(0:Int)<=Zq t k:=I;go_wp2;refine⟨⟨k+1,I,Jn,?_⟩,Ji⟩;simp only[Zq];rw[<-D o];go_num
  .have HK:=S (I:k=t.size);go_wp2;go_ret;exact⟨zK (by grind [Hid]),F⟩
def zU(l:Jv):JD:=l.map λs=>W s
def Zi(l a):zU (l++a)=zU l++zU a:=by simp[zU]
def ZA(l):∀u∈zU l,u.oneCell'=Vp:=by intro u a;simp only[zU,List.mem_map]at a;obtain⟨b,_,rfl⟩:=a;rfl
def Z7:(prog.info? 9).map (λi=>(i.zero,i.size,i.bytes))=E (E (W ⟨#[]⟩),1,16):=Jk
theorem Zu(w:JY)(t):∀j u,(zU [t])[j]?=E u->(w.alloc (JM #[W t] 9)).cell? ((J (O w.1) 0).add j)=E u:=by intro j u a;rw[jO];have:=yF (w:=w.alloc (JM #[W t] 9)) (b:=O w.1) (jL w _) 0 1;exact this j u (by grind [zU])
def zu(w:JY)(B:Nat)(v)(a:Jv):=w.ownsRow B 9 1 v (Z a) (zU a)
theorem zS{b d}(h:w.ownsRow B e b u n d):∃a c,u=i6 a n c:=by obtain⟨_,⟨rfl,rfl⟩|⟨g,cap,H,rfl,_⟩⟩:=h;all_goals grind
def zu.grown{row}(h:zu w B u us)(a:w.grownBy w' row)(H:∀k,u.ownBlock=E k->row≠E k):zu w' B u us:=
 jD h a (by
  cases e:u.ownBlock with
  |none=>exact yW F
  |some k=>exact yX (λx=>H k e x.symm))
def zu.y(h:zu w B u us)(a:Qb w w'):zu w' B u us:=
 h.grown (row:=JL) ⟨a.os,a.tape,a.output,a.size,λi b _=>a.block i b⟩ (λk _ e=>by cases e)
def zu.lt{w B u b}(h:zu w B u b):∀g,u.ownBlock=E g->B<=g/\g<O w.1:=λg a=>ji h g a
def zu.cells{c}(h:zu w B (Ql g n c) us):∀(j:Nat) x,us[j]?=E x->w.cell? (J g (0+j))=E (W x):=by
 intro j x d;have f:j<Z us:=(jf.1 d).1;obtain⟨_,⟨a,_⟩|⟨b,cap,H,a,e⟩⟩:=h
 .cases a
 .have hh:zu w B (Ql b (Z us) cap) us:=⟨Ja,yX ⟨b,cap,H,F,e⟩⟩;simp only[Value.slice.injEq,jw,Addr.mk.injEq]at a;obtain⟨⟨rfl,_⟩,_⟩:=a;rw[jd,jK hh j I];simp[zU,d]
def Lc(b s t o w)(hm:Z o<=1048576)(hw:Au w b s o)(T:ZO o)(hB:b<O w.1):Calls Vb 33 #[b9 #[Je b s (Z o) t]] w λe w'=>(∃c,e=i9 (G c)/\zM o c)/\Qb w w':=by
 have B:=S (Bx.start (cap:=t) hw hB 45);by_cases P:500<Z o
 .go_enter func33,ntmps33;go_wp2;go_ret;exact⟨⟨1,F,yW ⟨F,P⟩⟩,zC⟩
 have H:Z o<=500:=I;go_enter func33,ntmps33;go_wp2;go_loopw [4] (λi wr=>∃k:Nat,k<=Z o/\i=G k/\Bg o k/\Bx w b s t o wr) (λi _=>Z o-(intOf i).toNat);case atStart=>exact⟨0,yn,F,λj h=>I,B⟩
 case round=>
  obtain⟨k,hk,rfl,V,hx⟩:=hrel;by_cases q:k<Z o
  .obtain⟨a0,a1,a2,a3⟩:=hx.ops k q;have a:=hx.box;cases M:(r o k).ok
   .have Ht:=S M;unfold Ad.ok at M;go_wp2_with (go_at_call 31;refine(Nq _ _ _ _ _ (T k q)).mono ?_;rintro e w1 ⟨rfl,L⟩);go_ret;refine⟨⟨2,F,yX ⟨H,yW ⟨F,λh=>?_⟩⟩⟩,(hx.step L).bel⟩;have:=h k q;rw[D Ht]at this;cases this
   .have Ht:=S M;unfold Ad.ok at M;go_wp2_with (go_at_call 31;refine(Nq _ _ _ _ _ (T k q)).mono ?_;rintro e w1 ⟨rfl,L⟩);exact⟨⟨k+1,I,Jn,VJ V Ht,hx.step L⟩,Ji⟩
  .have X:Bg o (Z o):=by have:k=Z o:=I;exact this ▸ V
   go_wp2;go_loopw [5] (λc wr=>∃z:Int,c=G z/\3<=z/\z<=5/\Hid ((3<z->¬ Pr 3 o)/\(4<z->¬ Pr 4 o))/\Bx w b s t o wr) (λc _=>(5-intOf c).toNat);case atStart=>exact⟨3,F,I,I,S ⟨λh=>I,λh=>I⟩,hx⟩
   case round=>
    obtain⟨z,rfl,g,C,Q,hx⟩:=hrel;by_cases d:z<=4
    .have n:=S (I:z=3\/z=4);go_wp2;go_loopw [6] (λi wr=>∃k:Nat,k<=Z o/\i=G k/\Hid (IC z o k)/\Bx w b s t o wr) (λi _=>Z o-(intOf i).toNat);case atStart=>exact⟨0,yn,F,S (λi j _ h=>I),hx⟩
     case round=>
      obtain⟨p,hp,rfl,l,hx⟩:=hrel;by_cases y:p<Z o
      .go_wp2;go_loopw [7] (λj wr=>∃m:Nat,m<=p/\j=G m/\Hid (∀j,j<m->¬ cl z (r o p) (r o j))/\Bx w b s t o wr) (λj _=>p-(intOf j).toNat);case atStart=>exact⟨0,yn,F,S (λj h=>I),hx⟩
       case round=>
        obtain⟨m,f,rfl,U,hx⟩:=hrel;by_cases A:m<p
        .have x:m<Z o:=I;obtain⟨a0,a1,a2,a3⟩:=hx.ops p y;obtain⟨d0,d1,d2,d3⟩:=hx.ops m x;have a:=hx.box;have q:=hx.lt;have i1:(p:Int)<Z o:=I;have i2:(m:Int)<Z o:=I;go_wp2_with fail;go_region_held (λw'=>w'.cell? (J (O w.1) 0)=E (Je b s (Z o) t) /\
          (w'.cell? (J b (s+p*4))=E (W (r o p).s)/\w'.cell? (J b (s+p*4+1))=E (G (r o p).k)/\w'.cell? (J b (s+p*4+2))=E (G (r o p).l)/\w'.cell? (J b (s+p*4+3))=E (G (r o p).sd)) /\
          (w'.cell? (J b (s+m*4))=E (W (r o m).s)/\w'.cell? (J b (s+m*4+1))=E (G (r o m).k)/\w'.cell? (J b (s+m*4+2))=E (G (r o m).l)/\w'.cell? (J b (s+m*4+3))=E (G (r o m).sd))) (go_keep)
          (first|(go_at_call 60;refine(gW (r o p) (r o m) z _ n).mono ?_;rintro e w1 ⟨⟨v,rfl,hv⟩,L⟩;have N:=S hv;clear hv;have K:=hx.drew.step L;obtain⟨q0,q1,q2,q3⟩:=K.ops p y;obtain⟨r0,r1,r2,r3⟩:=K.ops m x;have qb:=K.box))
         cases v
         .go_wp2;refine⟨⟨m+1,I,Jn,S ?_,K⟩,Ji⟩;intro j hj;by_cases e:j=m
          .subst e;exact λh=>jq (N.2 h)
          .exact U j I
         .go_wp2;go_ret;refine⟨⟨z,F,yX ⟨H,yX ⟨X,?_⟩⟩⟩,K.bel⟩;have u:Pr z o:=⟨p,m,A,y,N.1 (by trivial)⟩;rcases D n with e|e
          .subst e;exact yW ⟨F,u⟩
          .subst e;exact yX ⟨Q.1 I,yW ⟨F,u⟩⟩
        .go_wp2;refine⟨⟨p+1,I,Jn,S (RK l (λj hj=>U j I)),hx⟩,Ji⟩
      .go_wp2;refine⟨⟨z+1,Jn,I,I,S ?_,hx⟩,Ji⟩;have R:¬ Pr z o:=R7 (by
        have e:p=Z o:=I
        exact e ▸ (D l))
       rcases D n with e|e
       .subst e;exact⟨λ_=>R,λh=>I⟩
       .subst e;exact⟨λ_=>Q.1 I,λ_=>R⟩
    .go_wp2;go_ret;exact⟨⟨0,F,yX ⟨H,yX ⟨X,yX ⟨Q.1 I,yX ⟨F,Q.2 I⟩⟩⟩⟩⟩,hx.bel⟩
def zO(a:Jj):JD:=a.flatMap λo=>[G o.k,W o.t,G o.a,G o.b]
def Zp(a b):zO (a++b)=zO a++zO b:=by simp[zO]
theorem O9:∀b:Jj,Z (zO b)=Z b*4
 |[]=>rfl
 |o::a=>by have:=O9 a;simp only[zO,List.flatMap_cons,yr,yB,je]at *;omega
theorem RL:∀(b:Jj)(i:Nat),i<Z b->(zO b)[i*4]?=E (G (Y b i).k)/\(zO b)[i*4+1]?=E (W (Y b i).t)/\(zO b)[i*4+2]?=E (G (Y b i).a)/\(zO b)[i*4+3]?=E (G (Y b i).b)
 |[],i,h=>yV h (yz i)
 |o::a,0,_=>⟨F,F,F,F⟩
 |o::a,i+1,h=>by
  have c:=RL a i (Ju h);have e:∀j,(zO (o::a))[(i+1)*4+j]?=(zO a)[i*4+j]?:=λj=>by have:(i+1)*4+j=(i*4+j)+4:=I;rw[this];rfl
  exact⟨(e 0).trans c.1,(e 1).trans c.2.1,(e 2).trans c.2.2.1,(e 3).trans c.2.2.2⟩
def zf(c):∀u∈zO c,u.oneCell'=Vp:=by intro u b;simp only[zO,List.mem_flatMap]at b;obtain⟨o,_,a⟩:=b;simp at a;rcases a with rfl|rfl|rfl|rfl<;>rfl
theorem Ib{a b}(h:w.ownsRow a e 4 (Ql g (Z b) cap) (Z b) (zO b)):a<=g/\ZD w g b (Z b):=by
 have H:=h.lt g F;refine⟨H.1,H.2,λj d=>⟨?_,h.frozenAt _⟩,λi c=>?_⟩
 .rw[h.cellAt (0+j) I];grind [zO,O9]
 .obtain⟨c0,c1,c2,c3⟩:=RL b i c;have e:=λj (d:j<4)=>h.cellAt (i*4+j) I
  exact⟨Ju ((e 0 I).trans c0),by grind,by grind,by grind⟩
theorem gX{a b v c}(h:w.ownsRow a e b v n c)(d:v ≠ Jl):∃g cap,v = Ql g n cap:=by obtain⟨_,h|⟨g,cap,K,H,_⟩⟩:=h;all_goals grind
theorem nZ{a b c}(h:w.ownsRow a e b (Ql g n cap) n c):n<=cap/\cap<=maxLen:=by obtain⟨_,h|⟨d,H,q,K,_,_,f,i,_⟩⟩:=h;all_goals grind
theorem Zh(w:JY)(o):∀j u,(zO [o])[j]?=E u->(w.alloc (JM #[G o.k,W o.t,G o.a,G o.b] 108)).cell? ((J (O w.1) 0).add j)=E u:=by intro j u a;rw[jO];have:=yF (w:=w.alloc (JM #[G o.k,W o.t,G o.a,G o.b] 108)) (b:=O w.1) (jL w _) 0 4;exact this j u (by grind [zO])
def ZD.arg{a}(h:ZD w g a (Z a)):FX w (E (J g 0)) a:=yX ⟨g,0,F,h.ops,h.1⟩
def ZS(w n a b):=(Z b=0/\a=JL)\/∃g,a=E (J g 0)/\n<=g/\ZD w g b (Z b)
def ZS.arg{w n a b}(h:ZS w n a b):FX w a b:=by
 rcases h with⟨h,_⟩|⟨g,rfl,_,c⟩
 .exact yW h
 .exact c.arg
theorem ZS.grown{w c n a b row}(h:ZS w n a b)(f:w.grownBy c row)(j:∀k,row=E k->k<n):ZS c n a b:=by
 rcases h with h|⟨g,rfl,i,d⟩
 .exact yW h
 .exact yX ⟨g,F,i,d.grown f (λe=>by grind)⟩
def ZS.step{b}(h:ZS w n a b)(c:Qb w w'):ZS w' n a b:=
 h.grown (zH c JL) (λk d=>by cases d)
theorem ZS.lt{e}(h:ZS w n a e):∀k,a.map (·.block)=E k->n<=k/\k<O w.1:=by
 rcases h with⟨_,rfl⟩|⟨g,rfl,d,c⟩
 .grind
 .intro k b;injection b with b;subst b;exact⟨d,c.1⟩
