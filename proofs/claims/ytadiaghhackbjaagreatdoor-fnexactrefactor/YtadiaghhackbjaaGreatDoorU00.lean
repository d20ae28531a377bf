import Derived.Handy
import Derived.Test.YtadiaghhackbjaaGreatDoorRows
import Derived.WalkSpells
import Derived.WalkLawsBesides
import Derived.Lib.Walk
import Derived.Deep.Light
import Derived.Deep.RegionHeld
import Derived.Lib.SplitLaws
namespace Go.Proofs.YtadiaghhackbjaaGreatDoor
set_option linter.all false
set_option maxHeartbeats 0
set_option maxRecDepth 100000
open Proofs.Tryz RowKit
theorem Jz{p q:Prop}(a:q)(h:q->p:=by intro this;simp at this;omega):p:=h a
theorem Jy{p q:Prop}(a:q)(h:q->p:=by intro this;omega):p:=h a
theorem Ju{p q:Prop}(a:q)(h:q->p:=by intro this;simpa using this):p:=h a
theorem Jx{α:Type}(a:α):∃x,x=a:=⟨_,rfl⟩
abbrev Qi(n:Int):Value:=.int .i64 n
abbrev Qs(s:ByteArray):Value:=.string s
abbrev Qa(b o:Nat):Addr:=⟨b,o,none⟩
abbrev Ql(g n c:Nat):Value:=.slice (some ⟨g,0,none⟩) n c
abbrev Qp(g:Nat):Value:=.pointer (some ⟨g,0,none⟩)
abbrev Qb(w w':World):Prop:=Below w.heap.size w w'
theorem Jc{B b o:Nat}{w w':World}{x:Option Value}(h:Below B w w')(hb:b<B)(e:w.cell? ⟨b,o,none⟩=x):w'.cell? ⟨b,o,none⟩=x:=(h.cell (p:=⟨b,o,none⟩) hb).trans e
theorem Jo{p:Prop}(h:p:=by omega):p:=h
theorem Jk{p:Prop}(h:p:=by kernel_rfl):p:=h
theorem Jg{p:Prop}(h:p:=by simp[go_sem]):p:=h
theorem Jq{p:Prop}(h:p:=by simp;omega):p:=h
theorem Js{p:Prop}(h:p:=by simp):p:=h
theorem Ji{p:Prop}(h:p:=by simp[intOf];omega):p:=h
theorem Jd{p:Prop}(h:p:=by decide):p:=h
theorem Jn{p:Prop}(h:p:=by go_num):p:=h
theorem Jm{p:Prop}(h:p:=by unfold maxLen;omega):p:=h
theorem Jb{p:Prop}(h:p:=by simp[Value.ownBlock]):p:=h
theorem Jr{p:Prop}(h:p:=by simp only;omega):p:=h
theorem Jt{p:Prop}(h:p:=by simp[World.setCell]):p:=h
theorem Ja{p:Prop}(h:p:=by assumption):p:=h
theorem Jh{p:Prop}(h:p:=by first|omega|(simp;done)|(simp;omega)):p:=h
abbrev JZ:=ByteArray
abbrev JY:=World
def ya:=@List.getElem_cons_succ
def yb:=@List.getElem_cons_zero
def yc:=@List.getElem_toArray
def ye:=@List.setIfInBounds_toArray
def yg:=@List.set_cons_zero
def yh:=@List.set_cons_succ
def yj:=@World.cell?_setCell_other
def yk:=@Nat.le_refl
def yl:=@Nat.lt_of_lt_of_le
def ym:=@Nat.zero_le
def yn:=@List.getD_eq_getElem?_getD
def yq:=@List.length_append
def yr:=@List.getElem?_eq_getElem
def yt:=@World.cell?_setCell_same
def yu:=@World.cell?_of_block
def yv:=@World.frozen?_setCell
def yw:=@Nat.le_trans
def yx:=@Nat.not_lt_zero
def yy:=@List.length_cons
def yz:=@ByteArray.size_extract
def yA:=@List.append_assoc
def yB:=@List.mem_of_getElem?
def yC:=@World.rangeAt_of_block
def yD:=@World.frozen?_of_block
def yE:=@List.getElem?_append_left
def yF:=@ByteArray.toList_eq
def yG:=@World.ownsRow_lit
def yH:=@AllReadyH.cons
def yI:=@AllReadyH.nil
def yJ:=@Below.refl
def yK:=@And.intro
def yL:=@wpList_append_own_at
def yN:=@bodyPost_ret
def yO:=@wpAnyH_ready
def yP:=@if_neg
def yQ:=@if_pos
def yR:=@absurd
def yS:=@Or.inl
def yU:=@Or.inr
def yV:=@congrArg
def yW:=@decide_eq_false_iff_not
def yX:=@beq_eq_false_iff_ne
def yY:=@Nat.zero_add
def yZ:=@List.length_nil
def jc:=@List.getElem?_eq_some_iff
def jd:=@List.length_eq_zero_iff
def je:=@Below.heap_setCell
variable{B b cap g i j k n off:Nat}{e:TypeId}{row:Option Nat}{s:ByteArray}{u:Value}{us ws:List ByteArray}{w w' w1:World}
theorem zB{p:Prop}(h:p):Hid p:=h
theorem zA{p:Prop}(h:Hid p):p:=h
theorem zH1{W:JY}(hb:Qb W w1):(∀b o,b<W.heap.size->w1.cell? (Qa b o)=W.cell? (Qa b o))/\(∀b o,b<W.heap.size->w1.frozen? (Qa b o)=W.frozen? (Qa b o)):=
 ⟨fun b o h=>hb.cell (p:=Qa b o) h,fun b o h=>hb.frozen (p:=Qa b o) h⟩
theorem zi{a b:Bool}(h:a=b):Ending.returned (.bool a)=.returned (.bool b):=by rw[h]
theorem zF{k:IntKind}{a b:Int}(h:a=b):Ending.returned (.int k a)=.returned (.int k b):=by rw[h]
theorem zPn{a b:JZ}(h:a=b):Ending.returned (Qs a)=.returned (Qs b):=by rw[h]
theorem zC(w:JY)(o):Qb w (w.alloc o):=(yJ _ _).alloc (yk _) _
theorem zM{B:Nat}{a:JY}{g:Nat}(hg:B<=g):∀(vs:List Value)(o:Nat)(w:JY),Below B a w->Below B a (w.setCells g o vs)
 |[],_,_,h=>h
 |v::r,o,_,h=>zM hg r (o+1) _ (h.setCell (p:=Qa g o) hg v)
def sgL:List UInt8:=[43,45,42,47,60,62,61,33,38,124,94,126,63,58,64,37,36,46]
def sgB(c:UInt8):Bool:=sgL.contains c
def zIz(l:List UInt8):Bool:=l.all sgB
def zGH(s:JZ):Bool:=zIz s.data.toList&&decide (1<=s.size)&&decide (s.size<=16)
def zH2(k sd:Int):Bool:=(k==2&&(sd==1||sd==2||sd==3))||((k==1||k==3)&&sd==0)
def okB(s:JZ)(k l sd:Int):Bool:=zGH s&&decide (1<=l)&&decide (l<=1000)&&zH2 k sd
def zMt(l sd:Int)(b:Bool):Int:=if sd=(if b then 2 else 1) then l else l+1
def ZU(s:JZ)(k l sd:Int)(b:Bool):Int:=
 if okB s k l sd=false then 0 else if k=2 then zMt l sd b else if b then 0 else l
theorem zB1(s:JZ)(k l sd:Int)(h:okB s k l sd=true):(1<=l/\l<=1000)/\((k=2/\sd=1)\/(k=2/\sd=2)\/(k=2/\sd=3)\/(k=1/\sd=0)\/(k=3/\sd=0)):=by
 simp only[okB,zH2,Bool.and_eq_true,Bool.or_eq_true,decide_eq_true_eq,beq_iff_eq] at h;omega
theorem zMu(s:JZ)(k l sd:Int)(b:Bool)(h:okB s k l sd=false):ZU s k l sd b=0:=by
 simp[ZU,h]
theorem zV7(c:UInt8):(decide (0<=Lib.indexByte sgL c))=sgB c:=by
 obtain⟨v⟩:=c;revert v;decide +kernel
theorem zRh(c:UInt8)(h:∀j,j<18->sgL.getD j 0≠c):sgB c=false:=by
 have h':∀x∈sgL,x≠c:=by
  intro x hx;obtain⟨j,hj,e⟩:=List.getElem_of_mem hx;have:=h j hj;rw[yn,yr hj] at this;simpa[e] using this
 unfold sgB;simp only[List.contains_eq_mem,yW];intro hc;exact h' c hc rfl
theorem zRi(c:UInt8)(j:Nat)(hj:j<18)(h:sgL.getD j 0=c):sgB c=true:=by
 unfold sgB;simp only[List.contains_eq_mem,decide_eq_true_eq];rw[yn,yr hj] at h;rw[<-h];exact List.getElem_mem _
theorem zRj(l:List UInt8)(c:UInt8):zIz (l++[c])=(zIz l&&sgB c):=by
 simp[zIz]
theorem zQk(s:JZ)(k:Nat)(h:k<s.size):s.data.toList.take (k+1)=s.data.toList.take k++[s[k]]:=by
 rw[List.take_succ_eq_append_getElem (Ju h)];rfl
theorem zRk(s:JZ)(k:Nat)(h:¬ k<s.size):s.data.toList.take k=s.data.toList:=by
 rw[List.take_of_length_le];simp;omega
theorem zQl(s:JZ)(k:Nat)(h:k<s.size)(hb:sgB s[k]=false):zIz s.data.toList=false:=by
 have hm:s[k]∈s.data.toList:=by
  have:s[k]=s.data.toList[k]'(Ju h):=rfl;rw[this];exact List.getElem_mem _
 simp only[zIz,List.all_eq_false];exact⟨_,hm,by simp[hb]⟩
theorem zW4(a c:UInt8)(h:((a.toNat:Int)==(c.toNat:Int))=true):a=c:=by
 have:=beq_iff_eq.1 h;exact UInt8.toNat_inj.1 Jo
theorem zW5(a c:UInt8)(h:((a.toNat:Int)==(c.toNat:Int))=false):a≠c:=by
 intro e;subst e;simp at h
theorem zPo(k:Nat)(h:k<18)(h':k<(ByteArray.mk #[43,45,42,47,60,62,61,33,38,124,94,126,63,58,64,37,36,46]).size):(ByteArray.mk #[43,45,42,47,60,62,61,33,38,124,94,126,63,58,64,37,36,46])[k]'h'=sgL.getD k 0:=by
 have e:∀i:Fin 18,(ByteArray.mk #[43,45,42,47,60,62,61,33,38,124,94,126,63,58,64,37,36,46])[i.val]'i.isLt=sgL.getD i.val 0:=Jd;exact e ⟨k,h⟩
structure OpR where
 s:JZ
 k:Int
 l:Int
 sd:Int
variable{xs:List OpR}
def OpR.ok(o:OpR):Bool:=okB o.s o.k o.l o.sd
def OpR.zero:OpR:=⟨⟨#[]⟩,0,0,0⟩
def atO(xs:List OpR)(i:Nat):OpR:=xs.getD i OpR.zero
def zB2(w:JY)(b off:Nat)(xs:List OpR)(i:Nat):Prop:=
 w.cell? (Qa b (off+i*4))=some (Qs (atO xs i).s)/\w.cell? (Qa b (off+i*4+1))=some (Qi (atO xs i).k) /\
  w.cell? (Qa b (off+i*4+2))=some (Qi (atO xs i).l)/\w.cell? (Qa b (off+i*4+3))=some (Qi (atO xs i).sd)
def Ops(w:JY)(b off:Nat)(xs:List OpR):Prop:=∀i,i<xs.length->zB2 w b off xs i
def ZA(xs:List OpR):Prop:=∀i,i<xs.length->(atO xs i).s.size<=maxLen
theorem zB2.below(h:zB2 w b off xs i)(hb:Below B w w')(hB:b<B):zB2 w' b off xs i:=by
 obtain⟨h0,h1,h2,h3⟩:=h;exact⟨Jc hb hB h0,Jc hb hB h1,Jc hb hB h2,Jc hb hB h3⟩
theorem Ops.below{w w':JY}{b off:Nat}{xs:List OpR}{B:Nat}(h:Ops w b off xs)(hb:Below B w w')(hB:b<B):Ops w' b off xs:=
 fun i hi=>(h i hi).below hb hB
def zBi(xs:List OpR)(k:Nat):Prop:=∀j,j<k->(atO xs j).ok=true
theorem zKr(h:zBi xs k)(hk:(atO xs k).ok=true):zBi xs (k+1):=by
 intro j hj;by_cases e:j=k
 ·subst e;exact hk
 ·exact h j Jo
def bt(s:JZ)(i:Nat):UInt8:=s.data[i]?.getD 0
theorem ZQ(h:i<s.size):s[i]=bt s i:=by
 have h':i<s.data.size:=h;show s.data[i]=_;unfold bt;rw[Array.getElem?_eq_getElem h'];rfl
def cls(c:UInt8):Nat:=
 if c.toNat=32\/c.toNat=9\/c.toNat=10 then 1
 else if 48<=c.toNat/\c.toNat<=57 then 2
 else if(65<=c.toNat/\c.toNat<=90)\/(97<=c.toNat/\c.toNat<=122)\/c.toNat=95 then 3
 else if c.toNat=40 then 4
 else if c.toNat=41 then 5
 else if sgB c=true then 6
 else 0
theorem zLk(c:UInt8):sgB c=decide (cls c=6):=by
 obtain⟨v⟩:=c;revert v;decide +kernel
theorem zQm(c:UInt8):(cls c=1)↔(c.toNat=32\/c.toNat=9\/c.toNat=10):=by
 obtain⟨v⟩:=c;revert v;decide +kernel
theorem zEa(c:UInt8):(cls c=2)↔(48<=c.toNat/\c.toNat<=57):=by
 obtain⟨v⟩:=c;revert v;decide +kernel
theorem zT7(c:UInt8):(cls c=3)↔((65<=c.toNat/\c.toNat<=90)\/(97<=c.toNat/\c.toNat<=122)\/c.toNat=95):=by
 obtain⟨v⟩:=c;revert v;decide +kernel
theorem zGi(c:UInt8):(cls c=4)↔c=40:=by
 obtain⟨v⟩:=c;revert v;decide +kernel
theorem zFo(c:UInt8):(cls c=5)↔c=41:=by
 obtain⟨v⟩:=c;revert v;decide +kernel
theorem zRl(c:UInt8):cls c<7:=by
 unfold cls;split
 ·omega
 ·split
  ·omega
  ·split
   ·omega
   ·split
    ·omega
    ·split
     ·omega
     ·split<;>omega
def zGI(t:JZ):Prop:=1<=t.size/\∀j,j<t.size->cls (bt t j)=2
def zBr(t:JZ):Prop:=1<=t.size/\∀j,j<t.size->(cls (bt t j)=3\/(j≠0/\cls (bt t j)=2))
def zT8(t:JZ):Bool:=decide (1<=t.size)&&(List.range t.size).all fun j=>cls (bt t j)==2
def zRm(t:JZ):Bool:=decide (1<=t.size)&&(List.range t.size).all fun j=>cls (bt t j)==3||(j != 0&&cls (bt t j)==2)
theorem Z8(t:JZ):zT8 t=true↔zGI t:=by
 simp[zT8,zGI,List.all_eq_true]
theorem zAL(t:JZ):zRm t=true↔zBr t:=by
 simp[zRm,zBr,List.all_eq_true]
theorem zDk(t:JZ)(a:Array UInt8):t.data=a↔t=⟨a⟩:=⟨fun h=>by cases t;simp_all,fun h=>by rw[h]⟩
def nxF(c:UInt8)(s:JZ):Nat->Nat->Nat
 |0,i=>i
 |n+1,i=>if i<s.size/\bt s i≠c then nxF c s n (i+1) else i
def nx(c:UInt8)(s:JZ)(i:Nat):Nat:=nxF c s (s.size-i) i
theorem zMv(c:UInt8)(s:JZ):∀(n i:Nat),s.size-i<=n->i<=s.size->i<=nxF c s n i/\nxF c s n i<=s.size/\(∀k,i<=k->k<nxF c s n i->bt s k≠c)/\(nxF c s n i<s.size->bt s (nxF c s n i)=c)
 |0,i,hn,hi=>by
  simp only[nxF];exact⟨yk _,hi,fun k h1 h2=>Jo,fun h=>Jo⟩
 |n+1,i,hn,hi=>by
  simp only[nxF];by_cases h:i<s.size/\bt s i≠c
  ·rw[yQ h];obtain⟨h1,h2,h3,h4⟩:=zMv c s n (i+1) Jo Jo;refine⟨Jo,h2,fun k k1 k2=>?_,h4⟩;by_cases e:k=i
   ·subst e;exact h.2
   ·exact h3 k Jo k2
  ·rw[yP h];refine⟨yk _,hi,fun k h1 h2=>Jo,fun hl=>?_⟩;by_cases e:bt s i=c
   ·exact e
   ·exact yR ⟨hl,e⟩ h
theorem zAc(c:UInt8)(s:JZ)(i:Nat)(hi:i<=s.size):i<=nx c s i/\nx c s i<=s.size/\(∀k,i<=k->k<nx c s i->bt s k≠c)/\(nx c s i<s.size->bt s (nx c s i)=c):=
 zMv c s _ i (yk _) hi
theorem zHV{c:UInt8}(hi:i<=s.size)(h1:i<=j)(h2:j<=s.size)(h3:∀k,i<=k->k<j->bt s k≠c)(h4:j<s.size->bt s j=c):nx c s i=j:=by
 obtain⟨g1,g2,g3,g4⟩:=zAc c s i hi;rcases Nat.lt_trichotomy (nx c s i) j with h|h|h
 ·exact yR (g4 Jo) (h3 _ g1 h)
 ·exact h
 ·exact yR (h4 Jo) (g3 _ h1 h)
def pcF(c:UInt8)(s:JZ):Nat->Nat->List (Nat×Nat)
 |0,_=>[]
 |n+1,i=>(i,nx c s i)::(if nx c s i<s.size then pcF c s n (nx c s i+1) else[])
def pcs(c:UInt8)(s:JZ)(i:Nat):List (Nat×Nat):=pcF c s (s.size-i+1) i
theorem zMw(c:UInt8)(s:JZ):∀(n m i:Nat),i<=s.size->s.size-i+1<=n->s.size-i+1<=m->pcF c s n i=pcF c s m i
 |0,_,i,hi,hn,_=>Jo
 |_+1,0,i,hi,_,hm=>Jo
 |n+1,m+1,i,hi,hn,hm=>by
  simp only[pcF];congr 1;have h:=zAc c s i hi;by_cases hl:nx c s i<s.size
  ·rw[yQ hl,yQ hl];exact zMw c s n m _ Jo Jo Jo
  ·rw[yP hl,yP hl]
theorem zAw(c:UInt8)(s:JZ)(i:Nat)(hi:i<=s.size):pcs c s i=(i,nx c s i)::(if nx c s i<s.size then pcs c s (nx c s i+1) else[]):=by
 have h:=zAc c s i hi;conv=>lhs;unfold pcs
 simp only[pcF];congr 1;by_cases hl:nx c s i<s.size
 ·rw[yQ hl,yQ hl];exact zMw c s _ _ _ Jo Jo Jo
 ·rw[yP hl,yP hl]
def wds(l:JZ):List ByteArray:=((pcs 32 l 0).filter (fun p=>decide (p.1<p.2))).map (fun p=>l.extract p.1 p.2)
def zCx(l:JZ)(i:Nat):List ByteArray:=((pcs 32 l i).filter (fun p=>decide (p.1<p.2))).map (fun p=>l.extract p.1 p.2)
theorem zMx(l:JZ):wds l=zCx l 0:=rfl
theorem zCy(l:JZ)(i:Nat)(hi:i<=l.size):zCx l i=(if i<nx 32 l i then[l.extract i (nx 32 l i)] else[])++(if nx 32 l i<l.size then zCx l (nx 32 l i+1) else[]):=by
 unfold zCx;rw[zAw 32 l i hi];by_cases h1:i<nx 32 l i
 ·rw[yQ h1,List.filter_cons_of_pos (Ju h1)];by_cases h2:nx 32 l i<l.size
  ·rw[yQ h2,yQ h2];rfl
  ·rw[yP h2,yP h2];rfl
 ·rw[yP h1,List.filter_cons_of_neg (Ju h1)];by_cases h2:nx 32 l i<l.size
  ·rw[yQ h2,yQ h2];rfl
  ·rw[yP h2,yP h2];rfl
def zAK:ByteArray:=⟨#[98,101,103,105,110]⟩
def zMy:ByteArray:=⟨#[117,115,101]⟩
def zAl:ByteArray:=⟨#[112,114,101,102,105,120]⟩
def zBj:ByteArray:=⟨#[105,110,102,105,120]⟩
def Z9:ByteArray:=⟨#[112,111,115,116,102,105,120]⟩
def zFE:ByteArray:=⟨#[108,101,102,116]⟩
def zDC:ByteArray:=⟨#[114,105,103,104,116]⟩
def zFF:ByteArray:=⟨#[110,111,110,101]⟩
def zRn(w:JZ):Prop:=1<=w.size/\w.size<=6/\∀i,i<w.size->48<=(bt w i).toNat/\(bt w i).toNat<=57
def zAY(w:JZ):Nat->Nat
 |0=>0
 |k+1=>zAY w k*10+((bt w k).toNat-48)
def Z2(w:JZ):Int:=if w=zFE then 1 else if w=zDC then 2 else if w=zFF then 3 else 0
theorem zI0(w:JZ)(h:∀i,i<w.size->48<=(bt w i).toNat/\(bt w i).toNat<=57):∀k,k<=w.size->zAY w k<10 ^ k
 |0,_=>by simp[zAY]
 |k+1,hk=>by
  have:=zI0 w h k Jo;have:=h k Jo;simp only[zAY,Nat.pow_succ];omega
def OpW(ws:List JZ)(o:OpR):Prop:=
 ∃k t l,zRn l/\((ws=[k,t,l]/\((k=zAl/\o=⟨t,1,(zAY l l.size:Int),0⟩)\/(k=Z9/\o=⟨t,3,(zAY l l.size:Int),0⟩))) \/
  ∃sd,ws=[k,t,l,sd]/\k=zBj/\Z2 sd≠0/\o=⟨t,2,(zAY l l.size:Int),Z2 sd⟩)
theorem OpW.one{o o':OpR}(h:OpW ws o)(h':OpW ws o'):o=o':=by
 obtain⟨k,t,l,hl,h⟩:=h;obtain⟨k',t',l',q,h'⟩:=h';rcases h with⟨e,h⟩|⟨sd,e,hk,hs,rfl⟩
 ·rcases h' with⟨e',h'⟩|⟨sd',e',H,K,rfl⟩
  ·rw[e] at e';simp only[List.cons.injEq,and_true] at e';obtain⟨rfl,rfl,rfl⟩:=e';rcases h with⟨h1,rfl⟩|⟨h1,rfl⟩<;>rcases h' with⟨h2,rfl⟩|⟨h2,rfl⟩
   ·rfl
   ·rw[h1] at h2;exact yR h2 Jd
   ·rw[h1] at h2;exact yR h2 Jd
   ·rfl
  ·rw[e] at e';simp at e'
 ·rcases h' with⟨e',h'⟩|⟨sd',e',H,K,rfl⟩
  ·rw[e] at e';simp at e'
  ·rw[e] at e';simp only[List.cons.injEq,and_true] at e';obtain⟨rfl,rfl,rfl,rfl⟩:=e';rfl
def zBA(ws:List JZ)(us:List JZ)(os:List OpR)(us':List JZ)(os':List OpR):Prop:=
 (ws=[]/\us'=us/\os'=os)\/(∃x,ws=[zMy,x]/\us'=us++[x]/\os'=os)\/(∃o,OpW ws o/\us'=us/\os'=os++[o])
theorem OpW.len{o:OpR}(h:OpW ws o):ws.length=3\/ws.length=4:=by
 obtain⟨k,t,l,hl,⟨rfl,_⟩|⟨sd,rfl,_⟩⟩:=h
 ·exact yS rfl
 ·exact yU rfl
theorem zBA.one{ws us k K:List JZ}{os os1 os2:List OpR}(h:zBA ws us os k os1)(h':zBA ws us os K os2):k=K/\os1=os2:=by
 rcases h with⟨e,rfl,rfl⟩|⟨x,e,rfl,rfl⟩|⟨o,ho,rfl,rfl⟩
 ·rcases h' with⟨_,rfl,rfl⟩|⟨x',e',_⟩|⟨o',H,_⟩
  ·exact⟨rfl,rfl⟩
  ·rw[e] at e';simp at e'
  ·have:=H.len;rw[e] at this;simp at this
 ·rcases h' with⟨e',_⟩|⟨x',e',rfl,rfl⟩|⟨o',H,_⟩
  ·rw[e] at e';simp at e'
  ·rw[e] at e';simp only[List.cons.injEq,and_true,true_and] at e';subst e';exact⟨rfl,rfl⟩
  ·have:=H.len;rw[e] at this;simp at this
 ·rcases h' with⟨e',_⟩|⟨x',e',_⟩|⟨o',H,rfl,rfl⟩
  ·have:=ho.len;rw[e'] at this;simp at this
  ·have:=ho.len;rw[e'] at this;simp at this
  ·rw[ho.one H];exact⟨rfl,rfl⟩
def zBa(s:JZ)(z:Nat):ByteArray:=if z<s.size then s.extract (z+1) s.size else ByteArray.empty
def UnF(s:JZ):List (Nat×Nat)->Nat->List ByteArray->List OpR->List ByteArray->List OpR->ByteArray->Int->Int->Prop
 |[],_,_,_,u,o,b,c,l=>u=[]/\o=[]/\b=ByteArray.empty/\c=3/\l=0
 |p::r,n,us,os,u,o,b,c,l=>
  (wds (s.extract p.1 p.2)=[zAK]/\u=us/\o=os/\b=zBa s p.2/\c=0/\l=0) \/
  (wds (s.extract p.1 p.2)≠[zAK]/\((∃us' os',zBA (wds (s.extract p.1 p.2)) us os us' os'/\UnF s r (n+1) us' os' u o b c l) \/
   ((∀us' os',¬ zBA (wds (s.extract p.1 p.2)) us os us' os')/\u=[]/\o=[]/\b=ByteArray.empty/\c=2/\l=(n:Int))))
theorem UnF.one{s:JZ}:∀(ls:List (Nat×Nat))(n:Nat)(us:List JZ)(os:List OpR){u u':List JZ}{o o':List OpR}{b b':JZ}{c c' l l':Int},UnF s ls n us os u o b c l->UnF s ls n us os u' o' b' c' l'->u=u'/\o=o'/\b=b'/\c=c'/\l=l'
 |[],n,us,os,_,_,_,_,_,_,_,_,_,_,h,h'=>by
  obtain⟨rfl,rfl,rfl,rfl,rfl⟩:=h;obtain⟨rfl,rfl,rfl,rfl,rfl⟩:=h';exact⟨rfl,rfl,rfl,rfl,rfl⟩
 |p::r,n,us,os,_,_,_,_,_,_,_,_,_,_,h,h'=>by
  rcases h with⟨e,rfl,rfl,rfl,rfl,rfl⟩|⟨e,h⟩
  ·rcases h' with⟨_,rfl,rfl,rfl,rfl,rfl⟩|⟨e',_⟩
   ·exact⟨rfl,rfl,rfl,rfl,rfl⟩
   ·exact yR e e'
  ·rcases h' with⟨e',_⟩|⟨_,h'⟩
   ·exact yR e' e
   ·rcases h with⟨H,os1,h1,h⟩|⟨h1,rfl,rfl,rfl,rfl,rfl⟩
    ·rcases h' with⟨k,os2,h2,h'⟩|⟨h2,_⟩
     ·obtain⟨rfl,rfl⟩:=h1.one h2;exact UnF.one r (n+1) H os1 h h'
     ·exact yR h1 (h2 _ _)
    ·rcases h' with⟨k,os2,h2,h'⟩|⟨h2,rfl,rfl,rfl,rfl,rfl⟩
     ·exact yR h2 (h1 _ _)
     ·exact⟨rfl,rfl,rfl,rfl,rfl⟩
def zy(s:JZ)(u:List JZ)(o:List OpR)(b:JZ)(c l:Int):Prop:=
 (20000<s.size/\u=[]/\o=[]/\b=ByteArray.empty/\c=1/\l=0)\/(s.size<=20000/\UnF s (pcs 10 s 0) 1 [] [] u o b c l)
theorem zy.one{s:JZ}{u u':List JZ}{o o':List OpR}{b b':JZ}{c c' l l':Int}(h:zy s u o b c l)(h':zy s u' o' b' c' l'):u=u'/\o=o'/\b=b'/\c=c'/\l=l':=by
 rcases h with⟨a,rfl,rfl,rfl,rfl,rfl⟩|⟨a,h⟩
 ·rcases h' with⟨_,rfl,rfl,rfl,rfl,rfl⟩|⟨a',_⟩
  ·exact⟨rfl,rfl,rfl,rfl,rfl⟩
  ·omega
 ·rcases h' with⟨a',_⟩|⟨_,h'⟩
  ·omega
  ·exact UnF.one _ _ _ _ h h'
def zBB(w:JY)(g:Nat)(xs:List OpR)(k:Nat):Prop:=
 g<w.heap.size/\w.there g 0 (xs.length*4)/\∀i,i<k->zB2 w g 0 xs i
theorem zBB.below{w w':JY}{g k:Nat}{xs:List OpR}{B:Nat}(h:zBB w g xs k)(hb:Below B w w')(hB:g<B):zBB w' g xs k:=by
 obtain⟨h1,h2,h3⟩:=h;refine⟨yl h1 hb.size,fun j hj=>?_,fun i hi=>(h3 i hi).below hb hB⟩;have:=h2 j hj;exact⟨by rw[hb.cell (p:=Qa g _) hB];exact this.1,by rw[hb.frozen (p:=Qa g _) hB];exact this.2⟩
theorem zBB.step(h:zBB w g xs k)(hk:k<xs.length):zBB (w.setCells g (k*4) [Qs (atO xs k).s,Qi (atO xs k).k,Qi (atO xs k).l,Qi (atO xs k).sd]) g xs (k+1):=by
 obtain⟨h1,h2,h3⟩:=h;have H:=World.cell?_setCells_in g [Qs (atO xs k).s,Qi (atO xs k).k,Qi (atO xs k).l,Qi (atO xs k).sd] (k*4) w (fun j hj=>by
  have:=(h2 (k*4+j) (by simp at hj;omega)).1
  simpa using this)
 refine⟨?_,World.there_setCells h2 _ _ _,fun i hi=>?_⟩
 ·simpa[World.setCells,World.setCell] using h1
 ·by_cases e:i=k
  ·subst e;have a0:=H 0 Js;have a1:=H 1 Js;have a2:=H 2 Js;have a3:=H 3 Js;exact⟨Ju a0,Ju a1,Ju a2,Ju a3⟩
  ·have K:i<k:=Jo;obtain⟨c0,c1,c2,c3⟩:=h3 i K;refine⟨?_,?_,?_,?_⟩;all_goals
    rw[World.cell?_setCells_out g _ _ _ _ (fun _ _=>yS (by simp;omega))]
    assumption
theorem zOh(h:zBB w g xs k)(hk:k<xs.length):((∃v,w.cell? (Qa g (k*4))=some v)/\w.frozen? (Qa g (k*4))=false)/\((∃v,w.cell? (Qa g (k*4+1))=some v)/\w.frozen? (Qa g (k*4+1))=false) /\
  ((∃v,w.cell? (Qa g (k*4+2))=some v)/\w.frozen? (Qa g (k*4+2))=false)/\((∃v,w.cell? (Qa g (k*4+3))=some v)/\w.frozen? (Qa g (k*4+3))=false):=by
 have h0:=h.2.1 (k*4) Jo;have h1:=h.2.1 (k*4+1) Jo;have h2:=h.2.1 (k*4+2) Jo;have h3:=h.2.1 (k*4+3) Jo;simp only[yY] at h0 h1 h2 h3;exact⟨⟨Option.isSome_iff_exists.1 h0.1,h0.2⟩,⟨Option.isSome_iff_exists.1 h1.1,h1.2⟩,⟨Option.isSome_iff_exists.1 h2.1,h2.2⟩,⟨Option.isSome_iff_exists.1 h3.1,h3.2⟩⟩
theorem zB2.setCell{w:JY}{b off i:Nat}{xs:List OpR}(h:zB2 w b off xs i)(p:Addr)(v:Value)(hp:p.block≠b):zB2 (w.setCell p v) b off xs i:=by
 obtain⟨h0,h1,h2,h3⟩:=h;have e:∀o,(w.setCell p v).cell? (Qa b o)=w.cell? (Qa b o):=fun o=>yj _ _ _ _ (fun e=>hp (by rw[e]))
 exact⟨(e _).trans h0,(e _).trans h1,(e _).trans h2,(e _).trans h3⟩
theorem zBB.setCell{w:JY}{g k:Nat}{xs:List OpR}(h:zBB w g xs k)(p:Addr)(v:Value)(hp:p.block≠g):zBB (w.setCell p v) g xs k:=by
 obtain⟨h1,h2,h3⟩:=h;refine⟨by simpa[World.setCell] using h1,fun j hj=>⟨?_,?_⟩,fun i hi=>(h3 i hi).setCell p v hp⟩
 ·rw[yj _ _ _ _ (fun e=>hp (by rw[e]))];exact(h2 j hj).1
 ·rw[yv];exact(h2 j hj).2
theorem zBB.ops(h:zBB w g xs xs.length):Ops w g 0 xs:=fun i hi=>h.2.2 i hi
theorem zBC{t:JZ}(h:s.toList=t.toList):s=t:=by
 rw[yF,yF] at h;obtain⟨⟨a⟩⟩:=s;obtain⟨⟨b⟩⟩:=t;simp at h;rw[h]
def zl(zs:List OpR):List Value:=zs.flatMap fun o=>[Qs o.s,Qi o.k,Qi o.l,Qi o.sd]
theorem zOi:zl []=[]:=rfl
theorem zAS(xs ys:List OpR):zl (xs++ys)=zl xs++zl ys:=by simp[zl]
theorem zDD:∀zs:List OpR,(zl zs).length=zs.length*4
 |[]=>rfl
 |o::r=>by
  have:=zDD r;simp only[zl,List.flatMap_cons,yq,yy,yZ] at *;omega
theorem zHW:∀(zs:List OpR)(i:Nat),i<zs.length->(zl zs)[i*4]?=some (Qs (atO zs i).s)/\(zl zs)[i*4+1]?=some (Qi (atO zs i).k)/\(zl zs)[i*4+2]?=some (Qi (atO zs i).l)/\(zl zs)[i*4+3]?=some (Qi (atO zs i).sd)
 |[],i,h=>yR h (yx i)
 |o::r,0,_=>⟨rfl,rfl,rfl,rfl⟩
 |o::r,i+1,h=>by
  have ih:=zHW r i (Ju h);have e:∀j,(zl (o::r))[(i+1)*4+j]?=(zl r)[i*4+j]?:=fun j=>by
   have:(i+1)*4+j=(i*4+j)+4:=Jo;rw[this];rfl
  exact⟨(e 0).trans ih.1,(e 1).trans ih.2.1,(e 2).trans ih.2.2.1,(e 3).trans ih.2.2.2⟩
theorem zAi(zs:List OpR):∀u∈zl zs,u.oneCell'=true:=by
 intro u hu;simp only[zl,List.mem_flatMap] at hu;obtain⟨o,_,ho⟩:=hu;simp at ho;rcases ho with rfl|rfl|rfl|rfl<;>rfl
theorem zMz(h:Ops w b off xs):∀j u,(zl xs)[j]?=some u->w.cell? ((Qa b off).add j)=some u:=by
 intro j u hj;have H:j<xs.length*4:=by
  rw[<-zDD];exact(jc.1 hj).1
 rw[Addr.add_mid];have hi:j/4<xs.length:=Jo;obtain⟨a0,a1,a2,a3⟩:=h (j/4) hi;obtain⟨c0,c1,c2,c3⟩:=zHW xs (j/4) hi;have hr:j%4=0\/j%4=1\/j%4=2\/j%4=3:=Jo;rcases hr with e|e|e|e
 ·have ej:j=j/4*4:=Jo;rw[ej] at hj ⊢;rw[c0] at hj;rw[<-hj];exact a0
 ·have ej:j=j/4*4+1:=Jo;rw[ej] at hj ⊢;rw[c1] at hj;rw[<-hj];exact a1
 ·have ej:j=j/4*4+2:=Jo;rw[ej] at hj ⊢;rw[c2] at hj;rw[<-hj];exact a2
 ·have ej:j=j/4*4+3:=Jo;rw[ej] at hj ⊢;rw[c3] at hj;rw[<-hj];exact a3
theorem zDl{base:Nat}{zs:List OpR}(h:w.ownsRow base e 4 (Ql g zs.length cap) zs.length (zl zs)):base<=g/\zBB w g zs zs.length:=by
 have H:=h.lt g rfl;refine⟨H.1,H.2,fun j hj=>⟨?_,h.frozenAt _⟩,fun i hi=>?_⟩
 ·rw[h.cellAt (0+j) Jo];have:0+j<(zl zs).length:=by rw[zDD];omega
  rw[yr this];rfl
 ·obtain⟨c0,c1,c2,c3⟩:=zHW zs i hi;have e:=fun j (hj:j<4)=>h.cellAt (i*4+j) Jo
  exact⟨Ju ((e 0 Jo).trans c0),Ju ((e 1 Jo).trans c1),Ju ((e 2 Jo).trans c2),Ju ((e 3 Jo).trans c3)⟩
theorem zDE{base size:Nat}{v:Value}{xs:List Value}(h:w.ownsRow base e size v n xs)(hv:v ≠ .slice none 0 0):∃g cap,v = Ql g n cap:=by
 obtain⟨_,h|⟨g,cap,k,H,_⟩⟩:=h
 ·exact yR h.1 hv
 ·exact⟨g,cap,H⟩
theorem zEb:(prog.info? 33).map (fun i=>(i.zero,i.size,i.bytes))=some (some (.agg #[Qs ⟨#[]⟩,Qi 0,Qi 0,Qi 0]),4,40):=Jk
theorem zH3(hg:w.grownBy w' row)(hB:B<=w.heap.size)(hr:∀k,row=some k->B<=k):Below B w w':=
 (yJ B w).grown hg hB hr
theorem zRo{base size:Nat}{xs:List Value}(h:w.ownsRow base e size (Ql g n cap) n xs):n<=cap/\cap<=maxLen:=by
 obtain⟨_,h|⟨g',k,K,H,_,_,h1,h2,_⟩⟩:=h
 ·simp at h
 ·simp only[Value.slice.injEq,Option.some.injEq] at H;obtain⟨_,_,rfl⟩:=H;exact⟨h1,h2⟩
theorem zQn(w:JY)(o:OpR):(w.alloc (.cells #[Qs o.s,Qi o.k,Qi o.l,Qi o.sd] 33)).rangeAt w.heap.size 0 [Qs o.s,Qi o.k,Qi o.l,Qi o.sd]:=by
 have:=yC (w:=w.alloc (.cells #[Qs o.s,Qi o.k,Qi o.l,Qi o.sd] 33)) (b:=w.heap.size) (heap_alloc_new w _) 0 4;simpa using this
theorem zD9(w:JY)(o:OpR):∀j u,(zl [o])[j]?=some u->(w.alloc (.cells #[Qs o.s,Qi o.k,Qi o.l,Qi o.sd] 33)).cell? ((Qa w.heap.size 0).add j)=some u:=by
 intro j u hj;rw[Addr.add_mid];exact zQn w o j u hj
structure zH where
 n:JZ
 t:ByteArray
def zH.zero:zH:=⟨⟨#[]⟩,⟨#[]⟩⟩
def atM(xs:List zH)(i:Nat):zH:=xs.getD i zH.zero
def zGJ(w:JY)(b off:Nat)(xs:List zH)(i:Nat):Prop:=
 w.cell? (Qa b (off+i*2))=some (Qs (atM xs i).n)/\w.cell? (Qa b (off+i*2+1))=some (Qs (atM xs i).t)
def zLl(w:JY)(b off:Nat)(xs:List zH):Prop:=∀i,i<xs.length->zGJ w b off xs i
def zBk(xs:List zH):Prop:=∀i,i<xs.length->(atM xs i).n.size<=maxLen/\(atM xs i).t.size<=maxLen
theorem zGJ.below{xs:List zH}(h:zGJ w b off xs i)(hb:Below B w w')(hB:b<B):zGJ w' b off xs i:=by
 obtain⟨h0,h1⟩:=h;exact⟨Jc hb hB h0,Jc hb hB h1⟩
theorem zLl.below{w w':JY}{b off:Nat}{xs:List zH}{B:Nat}(h:zLl w b off xs)(hb:Below B w w')(hB:b<B):zLl w' b off xs:=
 fun i hi=>(h i hi).below hb hB
def zB3(w:JY)(a:Option Addr)(xs:List zH):Prop:=xs.length=0\/∃b off,a=some (Qa b off)/\zLl w b off xs/\b<w.heap.size
theorem zB3.below{w w':JY}{a:Option Addr}{xs:List zH}(h:zB3 w a xs)(hb:Qb w w'):zB3 w' a xs:=by
 rcases h with h|⟨b,off,rfl,h1,h2⟩
 ·exact yS h
 ·exact yU ⟨b,off,rfl,h1.below hb h2,yl h2 hb.size⟩
def Zc(w:JY)(g:Nat)(xs:List zH)(k:Nat):Prop:=
 g<w.heap.size/\w.there g 0 (xs.length*2)/\∀i,i<k->zGJ w g 0 xs i
theorem Zc.below{w w':JY}{g k:Nat}{xs:List zH}{B:Nat}(h:Zc w g xs k)(hb:Below B w w')(hB:g<B):Zc w' g xs k:=by
 obtain⟨h1,h2,h3⟩:=h;refine⟨yl h1 hb.size,fun j hj=>?_,fun i hi=>(h3 i hi).below hb hB⟩;have:=h2 j hj;exact⟨by rw[hb.cell (p:=Qa g _) hB];exact this.1,by rw[hb.frozen (p:=Qa g _) hB];exact this.2⟩
theorem Zc.anew{xs ys:List zH}(h:Zc w g xs k)(hl:xs.length=ys.length):Zc w g ys 0:=
 ⟨h.1,hl ▸ h.2.1,fun i hi=>yR hi (yx i)⟩
theorem Zc.step{xs:List zH}(h:Zc w g xs k)(hk:k<xs.length):Zc (w.setCells g (k*2) [Qs (atM xs k).n,Qs (atM xs k).t]) g xs (k+1):=by
 obtain⟨h1,h2,h3⟩:=h;have H:=World.cell?_setCells_in g [Qs (atM xs k).n,Qs (atM xs k).t] (k*2) w (fun j hj=>by
  have:=(h2 (k*2+j) (by simp at hj;omega)).1
  simpa using this)
 refine⟨?_,World.there_setCells h2 _ _ _,fun i hi=>?_⟩
 ·simpa[World.setCells,World.setCell] using h1
 ·by_cases e:i=k
  ·subst e;exact⟨Ju (H 0 Js),Ju (H 1 Js)⟩
  ·have K:i<k:=Jo;obtain⟨c0,c1⟩:=h3 i K;refine⟨?_,?_⟩;all_goals
    rw[World.cell?_setCells_out g _ _ _ _ (fun _ _=>yS (by simp;omega))]
    assumption
theorem zM0{xs:List zH}(h:Zc w g xs k)(hk:k<xs.length):((∃v,w.cell? (Qa g (k*2))=some v)/\w.frozen? (Qa g (k*2))=false)/\((∃v,w.cell? (Qa g (k*2+1))=some v)/\w.frozen? (Qa g (k*2+1))=false):=by
 have h0:=h.2.1 (k*2) Jo;have h1:=h.2.1 (k*2+1) Jo;simp only[yY] at h0 h1;exact⟨⟨Option.isSome_iff_exists.1 h0.1,h0.2⟩,⟨Option.isSome_iff_exists.1 h1.1,h1.2⟩⟩
theorem zW6:(prog.info? 53).map (fun i=>(i.zero,i.size,i.bytes))=some (some (.agg #[Qs ⟨#[]⟩,Qs ⟨#[]⟩]),2,32):=Jk
theorem zM1(w:JY)(z:Array Value)(n:Nat)(t:TypeId):(w.alloc (.cells (madeCells z n) t)).there w.heap.size 0 n:=by
 intro j hj;have hb:(w.alloc (.cells (madeCells z n) t)).heap[w.heap.size]?=some (.cells (madeCells z n) t (0,0)):=heap_alloc_new w _;have hc:=cell_of_row (w.alloc (.cells (madeCells z n) t)) w.heap.size (0+j) (madeCells z n) t (0,0) hb;refine⟨?_,frozen_of_row _ _ _ _ _ hb⟩;rw[hc];have:j<(madeCells z n).size:=by rw[size_madeCells];exact hj
 simp[this]
theorem zGK(c:UInt8)(w:JY):Calls prog 147 #[.int .u8 (c.toNat:Int)] w fun e w'=>e=.returned (.bool (sgB c))/\w'=w:=by
 go_enter func147,ntmps147;go_wp2;rw[run_callFunc_extern func226 Jk Jk Jk (e:=Extern.BytealgIndexByte.indexByte) Jk,Lib.run_indexByteString];simp only[Result.andThen];rw[Oper.upon_value];go_wp2;go_ret;refine⟨?_,rfl⟩;exact yV (fun b=>Ending.returned (.bool b)) (zV7 c)
theorem zB4(c:UInt8)(w:JY):Calls prog 73 #[.int .u8 (c.toNat:Int)] w fun e w'=>e=.returned (.bool (sgB c))/\w'=w:=by
 go_enter func73,ntmps73;go_wp2;go_loop [4] (fun i=>∃k:Nat,k<=18/\i=Qi k/\∀j,j<k->sgL.getD j 0≠c) (fun i=>18-(intOf i).toNat);case atStart=>exact⟨0,Jo,rfl,fun j h=>Jo⟩
 case round=>
  obtain⟨k,hk,rfl,hn⟩:=hrel;by_cases H:k<18
  ·go_wp2
   ·go_ret;exact⟨zi (zRi c k H (by rw[<-zPo k H (by exact H)];exact zW4 _ _ ‹_›)).symm,rfl⟩
   ·refine⟨⟨k+1,Jo,Jn,?_⟩,Ji⟩;intro j hj;by_cases e:j=k
    ·subst e;rw[<-zPo j H (by exact H)];exact zW5 _ _ ‹_›
    ·exact hn j Jo
  ·go_wp2;go_ret;exact⟨zi (zRh c (fun j hj=>hn j Jo)).symm,rfl⟩
theorem zGj(s:JZ)(k:Nat)(h:k<s.size)(hb:sgB s[k]=false):zGH s=false:=by
 simp[zGH,zQl s k h hb]
theorem zRp(s:JZ)(k:Nat)(hk:¬ k<s.size)(h:zIz (s.data.toList.take k)=true):zGH s=(decide (1<=s.size)&&decide (s.size<=16)):=by
 rw[zRk s k hk] at h;simp[zGH,h]
theorem zM2(s:JZ)(k:Nat)(h:k<s.size)(hs:zIz (s.data.toList.take k)=true)(hb:sgB s[k]=true):zIz (s.data.toList.take (k+1))=true:=by
 rw[zQk s k h,zRj,hs,hb];rfl
theorem zFG(s:JZ)(w:JY)(hs:s.size<=maxLen):Calls prog 43 #[Qs s] w fun e w'=>e=.returned (.bool (zGH s))/\w'=w:=by
 unfold maxLen at hs;go_enter func43,ntmps43;go_wp2;go_loop [3] (fun i=>∃k:Nat,k<=s.size/\i=Qi k/\Hid (zIz (s.data.toList.take k)=true)) (fun i=>s.size-(intOf i).toNat);case atStart=>exact⟨0,ym _,rfl,zB rfl⟩
 case round=>
  obtain⟨k,hk,rfl,hn⟩:=hrel;by_cases h:k<s.size
  ·cases hb:sgB s[k]
   ·have Hb:=zB hb;go_wp2_with (go_at_call 73;refine(zB4 _ _).mono ?_;rintro e w' ⟨rfl,rfl⟩);go_ret;exact⟨zi (zGj s k h Hb).symm,rfl⟩
   ·have Hb:=zB hb;go_wp2_with (go_at_call 73;refine(zB4 _ _).mono ?_;rintro e w' ⟨rfl,rfl⟩);exact⟨⟨k+1,Jo,Jn,zB (zM2 s k h hn Hb)⟩,Ji⟩
  ·have ht:=zB (zRp s k h hn);by_cases h1:1<=s.size
   ·have H:(1:Int)<=(s.size:Int):=Jo;go_wp2;go_ret;exact⟨zi (by rw[zA ht];simp[h1];omega),rfl⟩
   ·go_wp2;go_ret;exact⟨zi (by rw[zA ht];simp[h1]),rfl⟩
theorem zAm(s:JZ)(w:JY)(hs:s.size<=maxLen):Calls prog 99 #[Qs s] w fun e w'=>e=.returned (.bool (zGH s))/\w'=w:=by
 unfold maxLen at hs;by_cases h1:s.size<1
 ·go_enter func99,ntmps99;go_wp2;go_ret;exact⟨zi (by simp[zGH];omega),rfl⟩
 by_cases h2:16<s.size
 ·go_enter func99,ntmps99;go_wp2;go_ret;exact⟨zi (by simp[zGH];omega),rfl⟩
 go_enter func99,ntmps99;go_wp2;go_loop [14] (fun i=>∃k:Nat,k<=s.size/\i=Qi k/\Hid (zIz (s.data.toList.take k)=true)) (fun i=>s.size-(intOf i).toNat);case atStart=>exact⟨0,ym _,rfl,zB rfl⟩
 case round=>
  obtain⟨k,hk,rfl,hn⟩:=hrel;by_cases h:k<s.size
  ·cases hb:sgB s[k]
   ·have Hb:=zB hb;go_wp2_with (go_at_call 147;refine(zGK _ _).mono ?_;rintro e w' ⟨rfl,rfl⟩);go_ret;exact⟨zi (zGj s k h Hb).symm,rfl⟩
   ·have Hb:=zB hb;go_wp2_with (go_at_call 147;refine(zGK _ _).mono ?_;rintro e w' ⟨rfl,rfl⟩);exact⟨⟨k+1,Jo,Jn,zB (zM2 s k h hn Hb)⟩,Ji⟩
  ·have ht:=zB (zRp s k h hn);go_wp2;go_ret;exact⟨zi (by rw[zA ht];simp;omega),rfl⟩
theorem zDF(s:JZ)(k l sd:Int)(w:JY)(hs:s.size<=maxLen):Calls prog 21 #[.agg #[Qs s,Qi k,Qi l,Qi sd]] w fun e w'=>e=.returned (.bool (okB s k l sd))/\Qb w w':=by
 cases ht:zGH s
 ·have hf:=zB (by simp[okB,ht]:okB s k l sd=false);go_enter func21,ntmps21;go_wp2_with (go_at_call 43;refine(zFG _ _ hs).mono ?_;rintro e w' ⟨rfl,rfl⟩);go_ret;exact⟨zi hf.symm,zC _ _⟩
 ·have hf:=zB (by simp[okB,ht]:okB s k l sd=(decide (1<=l)&&decide (l<=1000)&&zH2 k sd));go_enter func21,ntmps21;go_wp2_with (go_at_call 43;refine(zFG _ _ hs).mono ?_;rintro e w' ⟨rfl,rfl⟩);all_goals(go_ret;refine⟨zi ?_,zC _ _⟩;rw[zA hf];go_light;clear hf;(try simp only[beq_iff_eq,yX,ne_eq] at *);rw[Bool.eq_iff_iff];simp[zH2]<;>omega)
theorem zEc(s:JZ)(k l sd:Int)(w:JY):Calls prog 100 #[.agg #[Qs s,Qi k,Qi l,Qi sd]] w fun e w'=>e=.returned (.bool (zH2 k sd))/\Qb w w':=by
 go_enter func100,ntmps100;go_wp2;all_goals(go_ret;refine⟨zi ?_,zC _ _⟩;go_light;(try simp only[beq_iff_eq,yX,ne_eq] at *);rw[Bool.eq_iff_iff];simp[zH2]<;>omega)
theorem zAf(s:JZ)(k l sd:Int)(w:JY)(hs:s.size<=maxLen):Calls prog 58 #[.agg #[Qs s,Qi k,Qi l,Qi sd]] w fun e w'=>e=.returned (.bool (okB s k l sd))/\Qb w w':=by
 cases ht:zGH s
 ·have hf:=zB (by simp[okB,ht]:okB s k l sd=false);go_enter func58,ntmps58;go_wp2_with (go_at_call 99;refine(zAm _ _ hs).mono ?_;rintro e w' ⟨rfl,rfl⟩);go_ret;exact⟨zi hf.symm,zC _ _⟩
 ·have hf:=zB (by simp[okB,ht]:okB s k l sd=(decide (1<=l)&&decide (l<=1000)&&zH2 k sd));by_cases h1:1<=l
  ·by_cases h2:l<=1000
   ·go_enter func58,ntmps58;go_wp2_with (first|(go_at_call 99;refine(zAm _ _ hs).mono ?_;rintro e w' ⟨rfl,rfl⟩)|(go_at_call 100;refine(zEc _ _ _ _ _).mono ?_;rintro e w' ⟨rfl,hb⟩));go_ret;exact⟨zi (by rw[zA hf];simp[h1,h2]),(zC _ _).trans (hb.mono Js)⟩
   ·go_enter func58,ntmps58;go_wp2_with (first|(go_at_call 99;refine(zAm _ _ hs).mono ?_;rintro e w' ⟨rfl,rfl⟩)|(go_at_call 100;refine(zEc _ _ _ _ _).mono ?_;rintro e w' ⟨rfl,hb⟩));go_ret;exact⟨zi (by rw[zA hf];simp;intros;omega),zC _ _⟩
  ·go_enter func58,ntmps58;go_wp2_with (first|(go_at_call 99;refine(zAm _ _ hs).mono ?_;rintro e w' ⟨rfl,rfl⟩)|(go_at_call 100;refine(zEc _ _ _ _ _).mono ?_;rintro e w' ⟨rfl,hb⟩));go_ret;exact⟨zi (by rw[zA hf];simp;intros;omega),zC _ _⟩
theorem zE(h:Qb w w')(row:Option Nat):w.grownBy w' row:=⟨h.os,h.tape,h.output,h.size,fun i hi _=>h.block i hi⟩
theorem zV{w2:JY}(h:Qb w w1)(h2:w1.grownBy w2 row):w.grownBy w2 row:=
 ⟨h2.os.trans h.os,h2.tape.trans h.tape,h2.output.trans h.output,yw h.size h2.size,fun i hi hr=>(h2.block i (yl hi h.size) hr).trans (h.block i hi)⟩
theorem zX{w2:JY}{row':Option Nat}(h:w.grownBy w1 row)(h2:w1.grownBy w2 row')(hr:row'=row\/∃k,row'=some k/\w.heap.size<=k):w.grownBy w2 row:=
 ⟨h2.os.trans h.os,h2.tape.trans h.tape,h2.output.trans h.output,yw h.size h2.size,fun i hi H=>(h2.block i (yl hi h.size) (fun e=>by
  rcases hr with rfl|⟨k,rfl,hk⟩
  ·exact H e
  ·injection e with e;omega)).trans (h.block i hi H)⟩
theorem zK(h:w.grownBy w' row)(hb:b<w.heap.size)(H:row≠some b)(o:Nat):w'.cell? (Qa b o)=w.cell? (Qa b o):=
 yu (w:=w) (h.block b hb (fun e=>H e.symm))
theorem ZZ{row':Option Nat}(h:w.grownBy w' row)(hr:row'=row\/∃k,row'=some k/\w.heap.size<=k)(r:Option Nat)(H:r=row'\/∃k,r=some k/\w'.heap.size<=k):r=row\/∃k,r=some k/\w.heap.size<=k:=by
 have:=h.size;rcases H with rfl|⟨k,rfl,hk⟩
 ·exact hr
 ·exact yU ⟨k,rfl,Jo⟩
theorem zS{t:TypeId}{z:Value}{s:Nat}(h:(prog.info? t).map (fun i=>(i.zero,i.size,i.bytes))=some (some z,s,b)):∃i,prog.info? t=some i/\i.zero=some z/\i.size=s/\i.bytes=b:=by
 obtain⟨i,hi,hz⟩:=Option.map_eq_some_iff.1 h;simp only[Prod.mk.injEq] at hz;exact⟨i,hi,hz.1,hz.2.1,hz.2.2⟩
theorem zIh(h:j<s.size):s.data.toList[j]?=some (bt s j):=by
 have h':j<s.data.size:=h;unfold bt;rw[Array.getElem?_toList,Array.getElem?_eq_getElem h'];rfl
theorem zLm(s:JZ)(c:UInt8)(j:Nat):Lib.occAt s.data.toList [c] j=decide (j<s.size/\bt s j=c):=by
 unfold Lib.occAt;by_cases h:j<s.size
 ·have hl:j<s.data.toList.length:=h;have hb:=zIh h;rw[yr hl] at hb;injection hb with hb;rw[List.drop_eq_getElem_cons hl,hb];rw[Bool.eq_iff_iff];simp[List.isPrefixOf,h];exact⟨fun e=>e.symm,fun e=>e.symm⟩
 ·have hl:s.data.toList.length<=j:=Nat.le_of_not_lt h;rw[List.drop_eq_nil_of_le hl];simp[List.isPrefixOf,h]
theorem zM3(s:JZ)(c:UInt8):(nx c s 0<s.size->Lib.indexB s ⟨#[c]⟩=(nx c s 0:Int))/\(¬ nx c s 0<s.size->Lib.indexB s ⟨#[c]⟩ = -1):=by
 obtain⟨h1,h2,h3,h4⟩:=zAc c s 0 (ym _);constructor
 ·intro h;refine Lib.index_first (s:=s.data.toList) (sub:=[c]) h2 ?_ (fun j hj=>?_)
  ·rw[zLm];simpa using⟨h,h4 h⟩
  ·rw[zLm];simp only[yW];exact fun e=>h3 j (ym _) hj e.2
 ·intro h;refine Lib.index_none (s:=s.data.toList) (sub:=[c]) (fun j hj=>?_);rw[zLm];simp only[yW];exact fun e=>h3 j (ym _) Jo e.2
theorem Za(s:JZ)(a b:Nat):(s.extract a b).size=min b s.size-a:=by
 simp[yz]
theorem zOj(s:JZ)(a b j:Nat)(h:j<min b s.size-a):bt (s.extract a b) j=bt s (a+j):=by
 have h1:j<(s.extract a b).size:=by rw[Za];exact h
 rw[<-ZQ h1,<-ZQ (s:=s) (i:=a+j) Jo];simp[ByteArray.getElem_extract]
theorem zM4(c:UInt8)(s:JZ)(a:Nat)(ha:a<=s.size):nx c s a=a+nx c (s.extract a s.size) 0:=by
 obtain⟨h1,h2,h3,h4⟩:=zAc c (s.extract a s.size) 0 (ym _);rw[Za,Nat.min_self] at h2 h4;refine zHV ha Jo Jo (fun k k1 k2=>?_) (fun h=>?_)
 ·have:=h3 (k-a) (ym _) Jo;rw[zOj s a s.size (k-a) (by rw[Nat.min_self];omega)] at this;rwa[(Jo:a+(k-a)=k)] at this
 ·have:=h4 Jo;rwa[zOj s a s.size _ (by rw[Nat.min_self];omega)] at this
theorem zIi(s:JZ)(a k l:Nat)(h:a+l<=s.size):(s.extract a s.size).extract k l=s.extract (a+k) (a+l):=by
 rw[ByteArray.extract_extract];congr 1;omega
theorem zM5(s:JZ):s.extract 0 s.size=s:=Js
theorem zKs(c:UInt8)(s:JZ):∀(n a:Nat),s.size-a<n->a<=s.size->Lib.splitB ⟨#[c]⟩ 0 (Lib.countB (s.extract a s.size) ⟨#[c]⟩) (s.extract a s.size)=(pcs c s a).map (fun p=>s.extract p.1 p.2)
 |0,a,hn,ha=>Jo
 |n+1,a,hn,ha=>by
  have k:(s.extract a s.size).size=s.size-a:=by rw[Za,Nat.min_self]
  obtain⟨i1,i2⟩:=zM3 (s.extract a s.size) c;have hx:=zM4 c s a ha;obtain⟨g1,g2,g3,g4⟩:=zAc c s a ha;rw[zAw c s a ha];by_cases h:nx c s a<s.size
  ·have e:=i1 Jo;have H:(⟨#[c]⟩:JZ).size=1:=rfl;have e1:(s.extract a s.size).extract 0 (nx c (s.extract a s.size) 0)=s.extract a (nx c s a):=by
    rw[zIi s a 0 _ (by omega),hx,Nat.add_zero]
   have e2:(s.extract a s.size).extract (nx c (s.extract a s.size) 0+1) (s.size-a)=s.extract (nx c s a+1) s.size:=by
    rw[zIi s a _ _ (by omega),(by omega:a+(nx c (s.extract a s.size) 0+1)=nx c s a+1),(by omega:a+(s.size-a)=s.size)]
   have e3:=zKs c s n (nx c s a+1) Jo Jo;rw[yQ h,Lib.countB_hit _ _ _ (by rw[H];exact yk _) e,Nat.add_comm,Lib.splitB_hit _ _ _ _ _ e,List.map_cons,H,k,e2,e3,Nat.add_zero,e1]
  ·have e:=i2 Jo;rw[yP h,Lib.countB_miss _ _ e,Lib.splitB_zero];simp only[List.map_cons,List.map_nil];rw[(Jo:nx c s a=s.size)]
theorem zI1(c:UInt8)(s:JZ):Lib.splitB ⟨#[c]⟩ 0 (Lib.countB s ⟨#[c]⟩) s=(pcs c s 0).map (fun p=>s.extract p.1 p.2):=by
 have:=zKs c s (s.size+1) 0 Jo (ym _);rwa[zM5] at this
def zI2(ps:List JZ):List ByteArray:=ps.filter (fun b=>decide (0<b.size))
theorem zM6(s:JZ):∀(n a:Nat),s.size-a<n->a<=s.size->zI2 ((pcs 32 s a).map (fun p=>s.extract p.1 p.2))=zCx s a
 |0,a,hn,ha=>Jo
 |n+1,a,hn,ha=>by
  obtain⟨g1,g2,g3,g4⟩:=zAc 32 s a ha;rw[zCy s a ha,zAw 32 s a ha,List.map_cons];have k:(s.extract a (nx 32 s a)).size=nx 32 s a-a:=by rw[Za];omega
  have H:zI2 ((if nx 32 s a<s.size then pcs 32 s (nx 32 s a+1) else[]).map (fun p=>s.extract p.1 p.2))=(if nx 32 s a<s.size then zCx s (nx 32 s a+1) else[]):=by
   by_cases h:nx 32 s a<s.size
   ·rw[yQ h,yQ h];exact zM6 s n _ Jo Jo
   ·rw[yP h,yP h];rfl
  rw[<-H];unfold zI2;by_cases h:a<nx 32 s a
  ·rw[yQ h,List.filter_cons_of_pos (by simp[k];omega)];rfl
  ·rw[yP h,List.filter_cons_of_neg (by simp[k];omega)];rfl
theorem zOk(s:JZ):zI2 (Lib.splitB ⟨#[32]⟩ 0 (Lib.countB s ⟨#[32]⟩) s)=wds s:=by
 rw[zI1,zM6 s (s.size+1) 0 Jo (ym _)];rfl
theorem zQo(ps:List JZ)(k:Nat)(p:JZ)(h:ps[k]?=some p):zI2 (ps.take (k+1))=zI2 (ps.take k)++(if 0<p.size then[p] else[]):=by
 rw[List.take_add_one,h];unfold zI2;rw[List.filter_append];congr 1;by_cases hp:0<p.size
 ·simp[hp]
 ·simp[hp]
theorem zV8(s:JZ)(a:Nat)(ha:a<=s.size):(⟨(Lib.cut (s.extract a s.size).data.toList [10]).1.toArray⟩:JZ)=s.extract a (nx 10 s a)/\(⟨(Lib.cut (s.extract a s.size).data.toList [10]).2.1.toArray⟩:JZ)=zBa s (nx 10 s a)/\(Lib.cut (s.extract a s.size).data.toList [10]).2.2=decide (nx 10 s a<s.size):=by
 have k:(s.extract a s.size).size=s.size-a:=by rw[Za,Nat.min_self]
 obtain⟨i1,i2⟩:=zM3 (s.extract a s.size) 10;have hx:=zM4 10 s a ha;obtain⟨g1,g2,g3,g4⟩:=zAc 10 s a ha;by_cases h:nx 10 s a<s.size
 ·obtain⟨e1,e2,e3⟩:=Lib.cutB_hit (s.extract a s.size) ⟨#[10]⟩ _ (i1 Jo);refine⟨e1.trans ?_,e2.trans ?_,e3.trans (by simp[h])⟩
  ·rw[zIi s a 0 _ (by omega),hx,Nat.add_zero]
  ·unfold zBa;have H:(⟨#[10]⟩:JZ).size=1:=rfl;rw[yQ h,k,H,zIi s a _ _ (by omega),(by omega:a+(nx 10 (s.extract a s.size) 0+1)=nx 10 s a+1),(by omega:a+(s.size-a)=s.size)]
 ·obtain⟨e1,e2,e3⟩:=Lib.cutB_miss (s.extract a s.size) ⟨#[10]⟩ (i2 Jo);refine⟨e1.trans ?_,e2.trans ?_,e3.trans (by simp[h])⟩
  ·rw[(Jo:nx 10 s a=s.size)]
  ·unfold zBa;rw[yP h]
theorem zCb(c:UInt8)(w:JY):Calls prog 71 #[.int .u8 (c.toNat:Int)] w fun e w'=>e=.returned (.bool (decide (cls c=2)))/\w'=w:=by
 go_enter func71,ntmps71;go_wp2;all_goals(go_ret;refine⟨zi ?_,rfl⟩;go_light;rw[Bool.eq_iff_iff];simp[zEa]<;>omega)
def zE9(v:Bool)(p:Prop):Prop:=v=true↔p
def zBD(e:Ending)(p:Prop):Prop:=∃v:Bool,e=.returned (.bool v)/\zE9 v p
theorem zBE(s:JZ)(w:JY)(hs:s.size<=maxLen):Calls prog 126 #[Qs s] w fun e w'=>zBD e (zGI s)/\w'=w:=by
 unfold maxLen at hs;go_enter func126,ntmps126;go_wp2;go_loop [3] (fun i=>∃k:Nat,k<=s.size/\i=Qi k/\Hid (∀j,j<k->cls (bt s j)=2)) (fun i=>s.size-(intOf i).toNat);case atStart=>exact⟨0,ym _,rfl,zB (fun j h=>Jo)⟩
 case round=>
  obtain⟨k,hk,rfl,hn⟩:=hrel;by_cases H:k<s.size
  ·cases hb:decide (cls s[k]=2)
   ·have Hb:=zB hb;go_wp2_with (go_at_call 71;refine(zCb _ _).mono ?_;rintro e w' ⟨rfl,rfl⟩);go_ret;refine⟨⟨_,rfl,⟨fun h=>(by cases h),fun h=>?_⟩⟩,rfl⟩;have h2:=h.2 k H;have:=zA Hb;rw[ZQ H] at this;simp at this;exact yR h2 this
   ·have Hb:=zB hb;go_wp2_with (go_at_call 71;refine(zCb _ _).mono ?_;rintro e w' ⟨rfl,rfl⟩);refine⟨⟨k+1,Jo,Jn,zB (fun j hj=>?_)⟩,Ji⟩;by_cases e:j=k
    ·subst e;have:=zA Hb;rw[ZQ H] at this;simpa using this
    ·exact hn j Jo
  ·by_cases h1:1<=s.size
   ·have K:(1:Int)<=(s.size:Int):=Jo;go_wp2;go_ret;exact⟨⟨_,rfl,⟨fun _=>⟨h1,fun j hj=>hn j Jo⟩,fun _=>Jq⟩⟩,rfl⟩
   ·go_wp2;go_ret;exact⟨⟨decide (0<s.size),rfl,⟨fun h=>yR (of_decide_eq_true h) Jo,fun h=>yR h.1 h1⟩⟩,rfl⟩
theorem zEA{a b:JZ}(h:a.toList=b.toList):a=b:=by
 rw[yF,yF] at h;obtain⟨⟨l⟩⟩:=a;obtain⟨⟨l'⟩⟩:=b;simpa using h
def ZM(l:List JZ):List Value:=l.map fun s=>Qs s
theorem Zg(l l':List JZ):ZM (l++l')=ZM l++ZM l':=by simp[ZM]
theorem Z3(l:List JZ):∀u∈ZM l,u.oneCell'=true:=by
 intro u hu;simp only[ZM,List.mem_map] at hu;obtain⟨b,_,rfl⟩:=hu;rfl
theorem zEd:(prog.info? 9).map (fun i=>(i.zero,i.size,i.bytes))=some (some (Qs ⟨#[]⟩),1,16):=Jk
theorem zAz(w:JY)(t:JZ):∀j u,(ZM [t])[j]?=some u->(w.alloc (.cells #[Qs t] 9)).cell? ((Qa w.heap.size 0).add j)=some u:=by
 intro j u hj;rw[Addr.add_mid];have:=yC (w:=w.alloc (.cells #[Qs t] 9)) (b:=w.heap.size) (heap_alloc_new w _) 0 1;exact this j u (by simpa[ZM] using hj)
def Ze(w:JY)(B:Nat)(v:Value)(ps:List JZ):Prop:=w.ownsRow B 9 1 v ps.length (ZM ps)
theorem zR{size:Nat}{xs:List Value}(h:w.ownsRow B e size u n xs):∃a c,u=.slice a n c:=by
 obtain⟨_,⟨rfl,rfl⟩|⟨g,cap,H,rfl,_⟩⟩:=h
 ·exact⟨none,0,rfl⟩
 ·exact⟨_,_,rfl⟩
theorem Ze.grown(h:Ze w B u us)(hg:w.grownBy w' row)(H:∀k,u.ownBlock=some k->row≠some k):Ze w' B u us:=
 World.ownsRow.kept h hg (by
  cases e:u.ownBlock with
  |none=>exact yS rfl
  |some k=>exact yU (fun x=>H k e x.symm))
theorem Ze.below(h:Ze w B u us)(hb:Qb w w'):Ze w' B u us:=
 h.grown (row:=none) ⟨hb.os,hb.tape,hb.output,hb.size,fun i hi _=>hb.block i hi⟩ (fun k _ e=>by cases e)
theorem Ze.lt{w:JY}{B:Nat}{u:Value}{us:List JZ}(h:Ze w B u us):∀g,u.ownBlock=some g->B<=g/\g<w.heap.size:=fun g hg=>World.ownsRow.lt h g hg
theorem Ze.cells{c:Nat}(h:Ze w B (Ql g n c) us):∀(j:Nat) x,us[j]?=some x->w.cell? (Qa g (0+j))=some (Qs x):=by
 intro j x hj;have hl:j<us.length:=(jc.1 hj).1;obtain⟨_,⟨h1,_⟩|⟨g',cap,H,h1,h2⟩⟩:=h
 ·cases h1
 ·have hh:Ze w B (Ql g' us.length cap) us:=⟨Ja,yU ⟨g',cap,H,rfl,h2⟩⟩;simp only[Value.slice.injEq,Option.some.injEq,Addr.mk.injEq] at h1;obtain⟨⟨rfl,_⟩,_⟩:=h1;rw[yY,World.ownsRow.cellAt hh j Jo];simp[ZM,hj]
structure zU where
 k:Int
 g:JZ
 t:ByteArray
def zU.zero:zU:=⟨0,⟨#[]⟩,⟨#[]⟩⟩
def atT(xs:List zU)(i:Nat):zU:=xs.getD i zU.zero
def zGL(w:JY)(b off:Nat)(xs:List zU)(i:Nat):Prop:=
 w.cell? (Qa b (off+i*3))=some (Qi (atT xs i).k)/\w.cell? (Qa b (off+i*3+1))=some (Qs (atT xs i).g)/\w.cell? (Qa b (off+i*3+2))=some (Qs (atT xs i).t)
def zDf(w:JY)(b off:Nat)(xs:List zU):Prop:=∀i,i<xs.length->zGL w b off xs i
def zRq(xs:List zU):Prop:=∀i,i<xs.length->(atT xs i).g.size<=maxLen/\(atT xs i).t.size<=maxLen
theorem zGL.below{xs:List zU}(h:zGL w b off xs i)(hb:Below B w w')(hB:b<B):zGL w' b off xs i:=by
 obtain⟨h0,h1,h2⟩:=h;exact⟨Jc hb hB h0,Jc hb hB h1,Jc hb hB h2⟩
theorem zDf.below{w w':JY}{b off:Nat}{xs:List zU}{B:Nat}(h:zDf w b off xs)(hb:Below B w w')(hB:b<B):zDf w' b off xs:=
 fun i hi=>(h i hi).below hb hB
def zRr(o:zU):Nat:=o.g.size+o.t.size
def Zf(xs:List zU):Nat->Nat
 |0=>0
 |k+1=>Zf xs k+zRr (atT xs k)
def zIj(w:JY)(g:Nat)(xs:List zU)(k:Nat):Prop:=
 g<w.heap.size/\w.there g 0 (xs.length*3)/\∀i,i<k->zGL w g 0 xs i
theorem zVv:(prog.info? 135).map (fun i=>(i.zero,i.size,i.bytes))=some (some (.agg #[Qi 0,Qs ⟨#[]⟩,Qs ⟨#[]⟩]),3,40):=Jk
def sub(s:JZ)(i n:Nat):ByteArray:=s.extract i (i+n)
theorem zBc(h:i+n<=s.size):(sub s i n).size=n:=by
 unfold sub;rw[yz];omega
theorem zEe(h:i+n<=s.size)(hj:j<n):bt (sub s i n) j=bt s (i+j):=by
 have h':i+n<=s.data.size:=h;unfold bt sub;rw[ByteArray.data_extract,Array.getElem?_extract,yQ Jo]
theorem zCc{t:JZ}{c:UInt8}(h:t.size=1):t=⟨#[c]⟩↔bt t 0=c:=by
 obtain⟨⟨l⟩⟩:=t;match l,h with
 |[x],_=>simp[bt]
def opT(xs:List OpR)(t:JZ):Prop:=∃j,j<xs.length/\(atO xs j).s=t
def zCd(xs:List OpR)(s:JZ)(i n k:Nat):Prop:=
 1<=n/\i+n<=s.size /\
 (
  (cls (bt s i)=2/\k=1/\(∀j,j<n->cls (bt s (i+j))=2)/\(i+n<s.size->cls (bt s (i+n))≠2)) \/
  (cls (bt s i)=3/\k=2/\(∀j,j<n->(cls (bt s (i+j))=2\/cls (bt s (i+j))=3))/\(i+n<s.size->¬ (cls (bt s (i+n))=2\/cls (bt s (i+n))=3))) \/
  (cls (bt s i)=4/\k=4/\n=1)\/(cls (bt s i)=5/\k=5/\n=1) \/
  (cls (bt s i)=6/\((k=3/\opT xs (sub s i n)/\∀m,n<m->i+m<=s.size->¬ opT xs (sub s i m))\/(k=6/\n=1/\∀m,1<=m->i+m<=s.size->¬ opT xs (sub s i m)))) \/
  (cls (bt s i)=0/\k=6/\n=1))
theorem zCd.one{n' k':Nat}(h:zCd xs s i n k)(h':zCd xs s i n' k'):n=n'/\k=k':=by
 obtain⟨h1,h2,h⟩:=h;obtain⟨K,H,h'⟩:=h';rcases h with⟨c,rfl,a,b⟩|⟨c,rfl,a,b⟩|⟨c,rfl,rfl⟩|⟨c,rfl,rfl⟩|⟨c,h⟩|⟨c,rfl,rfl⟩
 ·rcases h' with⟨c',rfl,a',b'⟩|⟨c',_⟩|⟨c',_⟩|⟨c',_⟩|⟨c',_⟩|⟨c',_⟩<;>try omega
  refine⟨?_,rfl⟩;rcases Nat.lt_trichotomy n n' with e|e|e
  ·exact yR (a' n e) (b Jo)
  ·exact e
  ·exact yR (a n' e) (b' Jo)
 ·rcases h' with⟨c',_⟩|⟨c',rfl,a',b'⟩|⟨c',_⟩|⟨c',_⟩|⟨c',_⟩|⟨c',_⟩<;>try omega
  refine⟨?_,rfl⟩;rcases Nat.lt_trichotomy n n' with e|e|e
  ·exact yR (a' n e) (b Jo)
  ·exact e
  ·exact yR (a n' e) (b' Jo)
 ·rcases h' with⟨c',_⟩|⟨c',_⟩|⟨c',rfl,rfl⟩|⟨c',_⟩|⟨c',_⟩|⟨c',_⟩<;>omega
 ·rcases h' with⟨c',_⟩|⟨c',_⟩|⟨c',_⟩|⟨c',rfl,rfl⟩|⟨c',_⟩|⟨c',_⟩<;>omega
 ·rcases h' with⟨c',_⟩|⟨c',_⟩|⟨c',_⟩|⟨c',_⟩|⟨c',h'⟩|⟨c',_⟩<;>try omega
  rcases h with⟨rfl,a,b⟩|⟨rfl,rfl,b⟩
  ·rcases h' with⟨rfl,a',b'⟩|⟨rfl,rfl,b'⟩
   ·refine⟨?_,rfl⟩;rcases Nat.lt_trichotomy n n' with e|e|e
    ·exact yR a' (b n' e H)
    ·exact e
    ·exact yR a (b' n e h2)
   ·exact yR a (b' n h1 h2)
  ·rcases h' with⟨rfl,a',b'⟩|⟨rfl,rfl,b'⟩
   ·exact yR a' (b n' K H)
   ·exact⟨rfl,rfl⟩
 ·rcases h' with⟨c',_⟩|⟨c',_⟩|⟨c',_⟩|⟨c',_⟩|⟨c',_⟩|⟨c',rfl,rfl⟩<;>omega
def zEf(s:JZ)(i j:Nat):Prop:=∀q,i<=q->q<j->cls (bt s q)=1
def zAA(xs:List OpR)(s:JZ):Nat->List zU->Prop
 |_,[]=>False
 |i,t::out=>(out=[]/\i<=s.size/\zEf s i s.size/\t=⟨7,s.extract i s.size,⟨#[]⟩⟩) \/
   ∃j n k:Nat,i<=j/\j<s.size/\zEf s i j/\cls (bt s j)≠1/\zCd xs s j n k/\t=⟨(k:Int),s.extract i j,s.extract j (j+n)⟩/\zAA xs s (j+n) out
theorem zAA.fin(h1:i<=s.size)(h2:zEf s i s.size):zAA xs s i [⟨7,s.extract i s.size,⟨#[]⟩⟩]:=yS ⟨rfl,h1,h2,rfl⟩
theorem zAA.tok{h:List zU}(a:i<=j)(b:j<s.size)(c:zEf s i j)(d:cls (bt s j)≠1)(e:zCd xs s j n k)(f:zAA xs s (j+n) h):zAA xs s i (⟨(k:Int),s.extract i j,s.extract j (j+n)⟩::h):=yU ⟨j,n,k,a,b,c,d,e,rfl,f⟩
theorem zAA.one{xs:List OpR}{s:JZ}:∀(o o':List zU)(i:Nat),zAA xs s i o->zAA xs s i o'->o=o'
 |[],_,_,h,_=>h.elim
 |_::_,[],_,_,h=>h.elim
 |t::o,t'::o',i,h,h'=>by
  rcases h with⟨rfl,hi,hb,rfl⟩|⟨j,n,k,a,b,c,d,e,rfl,f⟩
  ·rcases h' with⟨rfl,_,_,rfl⟩|⟨j',n',k',a',b',c',d',e',rfl,f'⟩
   ·rfl
   ·exact yR (hb _ a' b') d'
  ·rcases h' with⟨rfl,hi,hb,rfl⟩|⟨j',n',k',a',b',c',d',e',rfl,f'⟩
   ·exact yR (hb _ a b) d
   ·have hj:j=j':=by
     rcases Nat.lt_trichotomy j j' with x|x|x
     ·exact yR (c' j a x) d
     ·exact x
     ·exact yR (c j' a' x) d'
    subst hj;obtain⟨rfl,rfl⟩:=e.one e';rw[zAA.one o o' (j+n) f f']
theorem zAA.len{xs:List OpR}{s:JZ}:∀(o:List zU)(i:Nat),zAA xs s i o->o.length+i<=s.size+1
 |[],_,h=>h.elim
 |t::o,i,h=>by
  rcases h with⟨rfl,hi,hb,rfl⟩|⟨j,n,k,a,b,c,d,e,rfl,f⟩
  ·simp;omega
  ·have:=e.1;have:=zAA.len o (j+n) f;simp only[yy];omega
def opB(xs:List OpR)(t:JZ):Bool:=(List.range xs.length).any fun j=>(atO xs j).s.data==t.data
theorem zFp(xs:List OpR)(t:JZ):opB xs t=true↔opT xs t:=by
 have e:∀a b:JZ,(a.data=b.data)↔a=b:=fun a b=>⟨fun h=>by cases a;cases b;simp_all,fun h=>by rw[h]⟩
 simp[opB,opT,List.any_eq_true,e]
def Zp(xs:List OpR)(t:JZ):Nat:=
 if zT8 t=true then 1 else if zRm t=true then 2 else if t.data=#[40] then 4 else if t.data=#[41] then 5 else if opB xs t=true then 3 else 6
def zA0(xs:List OpR):Prop:=∀j,j<xs.length->1<=(atO xs j).s.size/\(atO xs j).s.size<=16/\∀q,q<(atO xs j).s.size->cls (bt (atO xs j).s q)=6
theorem zB5(h:zBi xs xs.length):zA0 xs:=by
 intro j hj;have hk:=h j hj;unfold OpR.ok okB zGH at hk;simp only[Bool.and_eq_true,decide_eq_true_eq] at hk;obtain⟨⟨⟨⟨⟨h1,h2⟩,h3⟩,_⟩,_⟩,_⟩:=hk;refine⟨h2,h3,fun q hq=>?_⟩;have hm:bt (atO xs j).s q∈(atO xs j).s.data.toList:=by
  have H:q<(atO xs j).s.data.size:=hq;unfold bt;rw[Array.getElem?_eq_getElem H];simp
 have:=List.all_eq_true.1 h1 _ hm;rw[zLk] at this;simpa using this
theorem zLn(hv:zA0 xs)(_h1:1<=n)(h:i+n<=s.size)(ho:opT xs (sub s i n)):n<=16/\cls (bt s i)=6:=by
 obtain⟨j,hj,e⟩:=ho;obtain⟨a,b,c⟩:=hv j hj;have hs:=zBc h;rw[<-e] at hs;have:=c 0 Jo;rw[e,zEe h Jo] at this;exact⟨Jo,this⟩
theorem zRs(hv:zA0 xs)(h1:1<=n)(h:i+n<=s.size)(hc:cls (bt s i)=2):(Zp xs (sub s i n)=1/\∀j,j<n->cls (bt s (i+j))=2)\/(Zp xs (sub s i n)=6/\¬ ∀j,j<n->cls (bt s (i+j))=2):=by
 have hs:=zBc h;have h0:bt (sub s i n) 0=bt s i:=by rw[zEe h Jo];rfl
 by_cases hn:zGI (sub s i n)
 ·refine yS ⟨by simp[Zp,Z8,hn],fun j hj=>?_⟩;have:=hn.2 j Jo;rwa[zEe h hj] at this
 ·refine yU ⟨?_,fun ha=>hn ⟨Jo,fun j hj=>by rw[zEe h Jo];exact ha j Jo⟩⟩;have n2:¬ zBr (sub s i n):=fun hh=>by
   have:=hh.2 0 Jo;rw[h0] at this;omega
  have n3:¬ sub s i n=⟨#[40]⟩:=fun e=>by
   have e1:n=1:=by rw[e] at hs;exact hs.symm
   have:=(zCc Jo).1 e;rw[h0] at this;have:=(zGi _).2 this;omega
  have n4:¬ sub s i n=⟨#[41]⟩:=fun e=>by
   have e1:n=1:=by rw[e] at hs;exact hs.symm
   have:=(zCc Jo).1 e;rw[h0] at this;have:=(zFo _).2 this;omega
  have n5:¬ opT xs (sub s i n):=fun e=>by
   have:=(zLn hv h1 h e).2;omega
  simp[Zp,Z8,zAL,zFp,zDk,hn,n2,n3,n4,n5]
theorem zM7(h1:1<=n)(h:i+n<=s.size)(hc:cls (bt s i)=3)(ha:∀j,j<n->(cls (bt s (i+j))=2\/cls (bt s (i+j))=3)):Zp xs (sub s i n)=2:=by
 have hs:=zBc h;have h0:bt (sub s i n) 0=bt s i:=by rw[zEe h Jo];rfl
 have n1:¬ zGI (sub s i n):=fun hh=>by
  have:=hh.2 0 Jo;rw[h0] at this;omega
 have n2:zBr (sub s i n):=by
  refine⟨Jo,fun j hj=>?_⟩;rw[hs] at hj;rw[zEe h hj];by_cases e:j=0
  ·subst e;exact yS hc
  ·have:=ha j hj;omega
 simp[Zp,Z8,zAL,n1,n2]
theorem zKt(h1:1<=n)(h:i+n<=s.size)(hc:cls (bt s i)=6):(Zp xs (sub s i n)=3/\opT xs (sub s i n))\/(Zp xs (sub s i n)=6/\¬ opT xs (sub s i n)):=by
 have hs:=zBc h;have h0:bt (sub s i n) 0=bt s i:=by rw[zEe h Jo];rfl
 have n1:¬ zGI (sub s i n):=fun hh=>by
  have:=hh.2 0 Jo;rw[h0] at this;omega
 have n2:¬ zBr (sub s i n):=fun hh=>by
  have:=hh.2 0 Jo;rw[h0] at this;omega
 have n3:¬ sub s i n=⟨#[40]⟩:=fun e=>by
  have e1:n=1:=by rw[e] at hs;exact hs.symm
  have:=(zCc Jo).1 e;rw[h0] at this;have:=(zGi _).2 this;omega
 have n4:¬ sub s i n=⟨#[41]⟩:=fun e=>by
  have e1:n=1:=by rw[e] at hs;exact hs.symm
  have:=(zCc Jo).1 e;rw[h0] at this;have:=(zFo _).2 this;omega
 by_cases n5:opT xs (sub s i n)
 ·exact yS ⟨by simp[Zp,Z8,zAL,zFp,zDk,n1,n2,n3,n4,n5],n5⟩
 ·exact yU ⟨by simp[Zp,Z8,zAL,zFp,zDk,n1,n2,n3,n4,n5],n5⟩
theorem zRt(hv:zA0 xs)(h:i+1<=s.size)(hc:cls (bt s i)=4\/cls (bt s i)=5\/cls (bt s i)=0):(cls (bt s i)=4/\Zp xs (sub s i 1)=4)\/(cls (bt s i)=5/\Zp xs (sub s i 1)=5)\/(cls (bt s i)=0/\Zp xs (sub s i 1)=6):=by
 have hs:=zBc h;have h0:bt (sub s i 1) 0=bt s i:=by rw[zEe h Jo];rfl
 have n1:¬ zGI (sub s i 1):=fun hh=>by
  have:=hh.2 0 Jo;rw[h0] at this;omega
 have n2:¬ zBr (sub s i 1):=fun hh=>by
  have:=hh.2 0 Jo;rw[h0] at this;omega
 have n5:¬ opT xs (sub s i 1):=fun e=>by
  have:=(zLn hv Jo h e).2;omega
 have e4:sub s i 1=⟨#[40]⟩↔cls (bt s i)=4:=by rw[zCc hs,h0,zGi]
 have e5:sub s i 1=⟨#[41]⟩↔cls (bt s i)=5:=by rw[zCc hs,h0,zFo]
 rcases hc with c|c|c
 ·exact yS ⟨c,by simp[Zp,Z8,zAL,zDk,n1,n2,e4,c]⟩
 ·exact yU (yS ⟨c,by simp[Zp,Z8,zAL,zDk,n1,n2,e4,e5,c]⟩)
 ·exact yU (yU ⟨c,by simp[Zp,Z8,zAL,zFp,zDk,n1,n2,e4,e5,n5,c]⟩)
def Reach(s:JZ)(i r:Nat):Prop:=
 1<=r/\i+r<=s.size /\
 (
  (cls (bt s i)=6/\r<=16/\(r=16\/i+r=s.size)) \/
  ((cls (bt s i)=2\/cls (bt s i)=3)/\(∀j,j<r->(cls (bt s (i+j))=2\/cls (bt s (i+j))=3))/\(i+r<s.size->¬ (cls (bt s (i+r))=2\/cls (bt s (i+r))=3))) \/
  ((cls (bt s i)≠6/\cls (bt s i)≠2/\cls (bt s i)≠3)/\r=1))
def zPp(xs:List OpR)(s:JZ)(i r:Nat):Prop:=
 1<=r/\(r=1\/Zp xs (sub s i r)≠6)/\∃m,Reach s i m/\r<=m/\∀q,r<q->q<=m->Zp xs (sub s i q)=6
theorem zM8{r:Nat}(hv:zA0 xs)(h:zPp xs s i r)(hb:cls (bt s i)≠1):zCd xs s i r (Zp xs (sub s i r)):=by
 obtain⟨h1,h2,m,⟨Y,X,hm⟩,V,hq⟩:=h;refine⟨h1,Jo,?_⟩;have U:=zRl (bt s i);rcases hm with⟨c,hm,u⟩|⟨c,ha,hm⟩|⟨⟨c1,c2,c3⟩,rfl⟩
 ·refine yU (yU (yU (yU (yS ⟨c,?_⟩))));have J:∀q,r<q->i+q<=s.size->¬ opT xs (sub s i q):=fun q hr Q ho=>by
   have:=(zLn hv Jo Q ho).1;have p:q<=m:=Jo;have:=hq q hr p;rcases zKt (xs:=xs) Jo Q c with⟨x,_⟩|⟨_,x⟩
   ·omega
   ·exact x ho
  rcases zKt (xs:=xs) h1 Jo c with⟨x,y⟩|⟨x,y⟩
  ·exact yS ⟨x,y,J⟩
  ·have H:r=1:=Jo;refine yU ⟨x,H,fun q v Q=>?_⟩;by_cases e:q=r
   ·subst e;exact y
   ·exact J q Jo Q
 ·rcases c with c|c
  ·refine yS ?_;have key:=fun q (a:1<=q) (b:i+q<=s.size)=>zRs (xs:=xs) hv a b c
   have k:Zp xs (sub s i r)=1/\∀j,j<r->cls (bt s (i+j))=2:=by
    rcases key r h1 Jo with x|⟨x,y⟩
    ·exact x
    ·exfalso;have H:r=1:=Jo;subst H;exact y (fun j hj=>by
      have:j=0:=Jo
      subst this;exact c)
   refine⟨c,k.1,k.2,fun P hd=>?_⟩;have K:r+1<=m:=by
    rcases Nat.lt_or_ge r m with x|x
    ·exact x
    ·have:r=m:=Jo;subst this;exact yR (yS hd) (hm P)
   have h6:=hq (r+1) Jo K;rcases key (r+1) Jo Jo with⟨x,_⟩|⟨_,y⟩
   ·omega
   ·refine y (fun j hj=>?_);by_cases e:j=r
    ·subst e;exact hd
    ·exact k.2 j Jo
  ·refine yU (yS ?_);have K:r=m:=by
    rcases Nat.lt_or_ge r m with x|x
    ·have:=hq m x (yk _);rw[zM7 (xs:=xs) Y X c ha] at this;omega
    ·omega
   subst K;exact⟨c,zM7 Y X c ha,ha,hm⟩
 ·have H:r=1:=Jo;subst H;rcases zRt (xs:=xs) hv X Jo with⟨c,x⟩|⟨c,x⟩|⟨c,x⟩
  ·exact yU (yU (yS ⟨c,x,rfl⟩))
  ·exact yU (yU (yU (yS ⟨c,x,rfl⟩)))
  ·exact yU (yU (yU (yU (yU ⟨c,x,rfl⟩))))
def ZN(l:List UInt8):List Value:=l.map fun b=>.int .u8 (b.toNat:Int)
theorem zBl(l:List UInt8):(ZN l).length=l.length:=by simp[ZN]
theorem zA1(l l':List UInt8):ZN (l++l')=ZN l++ZN l':=by simp[ZN]
theorem zDG(l:List UInt8):∀u∈ZN l,u.oneCell'=true:=by
 intro u hu;simp only[ZN,List.mem_map] at hu;obtain⟨b,_,rfl⟩:=hu;rfl
theorem zEg(W:JY)(s:JZ):∃(c:Nat)(W':JY),(convert 9 102 (Qs s)).run prog W=.ok (Ql W.heap.size s.size c) W' /\
  (∀j u,(ZN s.data.toList)[j]?=some u->W'.cell? ((Qa W.heap.size 0).add j)=some u)/\Qb W W':=by
 refine⟨_,_,run_bytes_of_string (P:=prog) W 9 102 5 s underlying9 underlying102 underlying5,?_,?_⟩
 ·intro j u hj;rw[Addr.add_mid,yY];have h:j<s.size:=by
   have:=(jc.1 hj).1;rw[zBl] at this;simpa using this
  rw[cell_of_row _ W.heap.size j (bytesRow s (grownCap W s.size 0 5)) 5 _ (heap_alloc_new W.drew _)];have:j<s.data.size:=h;simp only[bytesRow];rw[Array.getElem?_append_left (by simpa using this)];simp only[ZN,List.getElem?_map] at hj;simpa using hj
 ·exact(yJ _ _).drew.alloc (yk _) _
theorem zH4(W:JY)(g n c:Nat)(l:List UInt8)(hn:n=l.length)(h:∀j u,(ZN l)[j]?=some u->W.cell? ((Qa g 0).add j)=some u):(convert 102 9 (Ql g n c)).run prog W=.ok (Qs ⟨l.toArray⟩) W:=by
 rw[run_convert_bytes_string _ 102 9 5 _ _ _ underlying102 underlying5 underlying9];have hl:(loadCells (Qa g 0) n).run prog W=.ok ((l.map fun b=>(b.toNat:Int)).map (Value.int .u8)).toArray W:=by
  have:=run_loadCells_list (P:=prog) W (Qa g 0) (ZN l) h;rw[zBl,<-hn] at this;rw[this];simp[ZN]
 rw[run_bytesToString _ (Qa g 0) n c _ hl];congr 2;clear hl h hn;have key:∀(l:List UInt8)(H:JZ),List.foldl (fun(r:JZ)(n:Int)=>r.push (UInt8.ofNat n.toNat)) H (l.map fun b=>(b.toNat:Int))=⟨(H.data.toList++l).toArray⟩:=by
  intro l;induction l with
  |nil=>intro H;simp
  |cons b r ih=>
   intro H;rw[List.map_cons,List.foldl_cons,ih];congr 1;simp[ByteArray.push]
 rw[key];simp
theorem infoByte:(prog.info? 5).map (fun i=>(i.zero,i.size,i.bytes))=some (some (.int .u8 0),1,1):=Jk
def Zy(xs:List zU):Nat->List UInt8
 |0=>[]
 |k+1=>Zy xs k++(atT xs k).g.data.toList++(atT xs k).t.data.toList
theorem zDH(xs:List zU):∀k,(Zy xs k).length=Zf xs k
 |0=>rfl
 |k+1=>by
  have:=zDH xs k;simp only[Zy,Zf,zRr,yq,this];simp;omega
theorem zFI(xs:List zU):∀k n,k<=n->Zf xs k<=Zf xs n
 |k,0,h=>by
  have:k=0:=Jo;subst this;exact yk _
 |k,n+1,h=>by
  by_cases e:k=n+1
  ·subst e;exact yk _
  ·have:=zFI xs k n Jo;simp only[Zf];omega
theorem ZC{base size:Nat}{v:Value}{xs:List Value}(h:w.ownsRow base e size v n xs)(hv:v ≠ .slice none 0 0):∃g cap,v = Ql g n cap:=by
 obtain⟨_,h|⟨g,cap,k,H,_⟩⟩:=h
 ·exact yR h.1 hv
 ·exact⟨g,cap,H⟩
theorem zH5{base:Nat}{l:List UInt8}(h:w.ownsRow base e 1 (Ql g n cap) n (ZN l)):∀j u,(ZN l)[j]?=some u->w.cell? ((Qa g 0).add j)=some u:=
 h.cells rfl
theorem Zq(h:Qb w w')(row:Option Nat):w.grownBy w' row:=⟨h.os,h.tape,h.output,h.size,fun i hi _=>h.block i hi⟩
def zu(zs:List zU):List Value:=zs.flatMap fun o=>[Qi o.k,Qs o.g,Qs o.t]
theorem zB6(xs ys:List zU):zu (xs++ys)=zu xs++zu ys:=by simp[zu]
theorem zH6:∀zs:List zU,(zu zs).length=zs.length*3
 |[]=>rfl
 |o::r=>by
  have:=zH6 r;simp only[zu,List.flatMap_cons,yq,yy,yZ] at *;omega
theorem zI3:∀(zs:List zU)(i:Nat),i<zs.length->(zu zs)[i*3]?=some (Qi (atT zs i).k)/\(zu zs)[i*3+1]?=some (Qs (atT zs i).g)/\(zu zs)[i*3+2]?=some (Qs (atT zs i).t)
 |[],i,h=>yR h (yx i)
 |o::r,0,_=>⟨rfl,rfl,rfl⟩
 |o::r,i+1,h=>by
  have ih:=zI3 r i (Ju h);have e:∀j,(zu (o::r))[(i+1)*3+j]?=(zu r)[i*3+j]?:=fun j=>by
   have:(i+1)*3+j=(i*3+j)+3:=Jo;rw[this];rfl
  exact⟨(e 0).trans ih.1,(e 1).trans ih.2.1,(e 2).trans ih.2.2⟩
theorem zCz(zs:List zU):∀u∈zu zs,u.oneCell'=true:=by
 intro u hu;simp only[zu,List.mem_flatMap] at hu;obtain⟨o,_,ho⟩:=hu;simp at ho;rcases ho with rfl|rfl|rfl<;>rfl
theorem zC0{base:Nat}{zs:List zU}(h:w.ownsRow base e 3 (Ql g zs.length cap) zs.length (zu zs)):base<=g/\zIj w g zs zs.length:=by
 have H:=h.lt g rfl;refine⟨H.1,H.2,fun j hj=>⟨?_,h.frozenAt _⟩,fun i hi=>?_⟩
 ·rw[h.cellAt (0+j) Jo];have:0+j<(zu zs).length:=by rw[zH6];omega
  rw[yr this];rfl
 ·obtain⟨c0,c1,c2⟩:=zI3 zs i hi;have e:=fun j (hj:j<3)=>h.cellAt (i*3+j) Jo
  exact⟨Ju ((e 0 Jo).trans c0),Ju ((e 1 Jo).trans c1),Ju ((e 2 Jo).trans c2)⟩
theorem zFq(w:JY)(o:zU):∀j u,(zu [o])[j]?=some u->(w.alloc (.cells #[Qi o.k,Qs o.g,Qs o.t] 135)).cell? ((Qa w.heap.size 0).add j)=some u:=by
 intro j u hj;rw[Addr.add_mid];have:=yC (w:=w.alloc (.cells #[Qi o.k,Qs o.g,Qs o.t] 135)) (b:=w.heap.size) (heap_alloc_new w _) 0 3;exact this j u (by simpa[zu] using hj)
def zW7(xs:List OpR)(ok:Prop)(s:JZ)(us:List zU)(v:Bool):Prop:=
 ((ok/\s.size<=20000)/\v=true/\zAA xs s 0 us)\/(¬ (ok/\s.size<=20000)/\v=false/\us=[])
def zI4(xs:List OpR)(s:JZ)(i:Nat)(h:List zU):Prop:=h.length<=i/\∀out,zAA xs s i out->zAA xs s 0 (h++out)
theorem zI4.start(xs:List OpR)(s:JZ):zI4 xs s 0 []:=⟨yk _,fun _ h=>h⟩
theorem zI4.step{H:List zU}(h:zI4 xs s i H)(h1:i<=j)(h2:j<s.size)(h3:zEf s i j)(h4:cls (bt s j)≠1)(h5:zCd xs s j n k):zI4 xs s (j+n) (H++[⟨(k:Int),s.extract i j,s.extract j (j+n)⟩]):=by
 refine⟨?_,fun K ho=>?_⟩
 ·have:=h.1;have:=h5.1;simp;omega
 ·rw[yA];exact h.2 _ (zAA.tok h1 h2 h3 h4 h5 ho)
theorem zI4.done{H:List zU}(h:zI4 xs s i H)(h1:i<=s.size)(h3:zEf s i s.size):zAA xs s 0 (H++[⟨7,s.extract i s.size,⟨#[]⟩⟩]):=
 h.2 _ (zAA.fin h1 h3)
def atI(xs:List Int)(i:Nat):Int:=xs.getD i 0
def zk(l:List Int):List Value:=l.map fun n=>Qi n
theorem zGM(l:List Int):(zk l).length=l.length:=by simp[zk]
theorem zAT(l l':List Int):zk (l++l')=zk l++zk l':=by simp[zk]
theorem zBF(l:List Int):∀u∈zk l,u.oneCell'=true:=by
 intro u hu;simp only[zk,List.mem_map] at hu;obtain⟨b,_,rfl⟩:=hu;rfl
theorem zKu(l:List Int)(i:Nat)(h:i<l.length):(zk l)[i]?=some (Qi (atI l i)):=by
 simp[zk,atI,h]
def zGk(w:JY)(g:Nat)(xs:List Int)(k:Nat):Prop:=
 g<w.heap.size/\w.there g 0 xs.length/\∀i,i<k->w.cell? (Qa g i)=some (Qi (atI xs i))
theorem zEh{base:Nat}{zs:List Int}(h:w.ownsRow base e 1 (Ql g zs.length cap) zs.length (zk zs)):base<=g/\zGk w g zs zs.length:=by
 have H:=h.lt g rfl;refine⟨H.1,H.2,fun j hj=>⟨?_,h.frozenAt _⟩,fun i hi=>?_⟩
 ·rw[h.cellAt (0+j) Jo];have:0+j<(zk zs).length:=by rw[zGM];omega
  rw[yr this];rfl
 ·exact(h.cellAt i Jo).trans (zKu zs i hi)
def zV9(w:JY)(n:Nat)(a:Option Addr)(us:List Int):Prop:=(us.length=0/\a=none)\/∃g,a=some (Qa g 0)/\n<=g/\zGk w g us us.length
theorem zI5(b off cap:Nat)(xs:List zU)(w:JY)(hm:xs.length+Zf xs xs.length<=1048576)(hw:zDf w b off xs)(hB:b<w.heap.size):Calls prog 115 #[.slice (some (Qa b off)) xs.length cap] w fun e w'=>e=.returned (Qs ⟨(Zy xs xs.length).toArray⟩)/\Qb w w':=by
 obtain⟨i0,hi,C,D,E⟩:=info_parts infoByte;have HI:=zB hi;have HZ:=zB (yK C (yK D E));have HW:=zB hw;have HO:=zB (show(w.alloc (.cells #[] 5)).ownsRow w.heap.size 5 1 (Ql w.heap.size 0 0) 0 (ZN (Zy xs 0)) by
  show(w.alloc (.cells #[] 5)).ownsRow w.heap.size 5 1 (Ql w.heap.size 0 0) 0 []
  simpa using yG (base:=w.heap.size) (e:=5) (size:=1) w #[] 0 (yk _) (ym _) rfl)
 clear hi C D E hw;go_enter func115,ntmps115;go_wp2;go_loopw [3,4] (fun o i wr=>∃(k go co n:Nat),k<=xs.length/\i=Qi k/\o = Ql go n co/\Hid (n=(Zy xs k).length)/\Hid (wr.ownsRow w.heap.size 5 1 (Ql go n co) n (ZN (Zy xs k)))/\Qb w wr) (fun _ i _=>xs.length-(intOf i).toNat);case atStart=>exact⟨0,w.heap.size,0,0,ym _,rfl,rfl,zB rfl,HO,zC _ _⟩
 case round=>
  clear HO;obtain⟨k,go,co,n,hk,rfl,rfl,hn,J,h⟩:=hrel;by_cases N:k<xs.length
  ·have B:=((HW) k N).below h hB;obtain⟨a0,a1,a2⟩:=B;have c:=hn.trans (zDH xs k);have G:Zf xs (k+1)<=Zf xs xs.length:=zFI xs _ _ Jo;simp only[Zf,zRr] at G;obtain⟨c1,w1,a,j,V⟩:=zEg wr (atT xs k).g;have I:=zB j;have m:=zB V;have b2:=(V.cell (p:=(Qa b (off+k*3+2))) (yl hB h.size)).trans a2;have hown1:=zB (J.kept (Zq V none) (yU Jb));have x:=h.trans (V.mono h.size);have d:=zB c;have R:n+(atT xs k).g.size+(atT xs k).t.size<=1048576:=Jo;clear j V J c G h a2;go_wp2_with (at_builtin;refine wpList_append_own _ rfl (.tmp 12) (.tmp 18) 102 rfl w.heap.size 5 i0 _ 1 1 underlying102 HI HZ.1 HZ.2.1 HZ.2.2 rfl Jd _ n (ZN (Zy xs k)) rfl hown1 (Qa wr.heap.size 0) (atT xs k).g.size c1 (ZN (atT xs k).g.data.toList) rfl (by rw[zBl];simp) I (zDG _) ?b1 ?b2 ?b3 ?next);case b1=>exact Jm
   case b2=>omega
   case b3=>exact x.size
   case next=>
    intro v2 w2 hown2 K u;have r:=hown1.lt go rfl;have P:Qb w w2:=x.grown K x.size (fun q hq=>by simp[Value.ownBlock] at hq;omega);obtain⟨g2,q2,rfl⟩:=ZC hown2 (by simp[u]);rw[<-zA1] at hown2;have d2:w2.cell? (Qa b (off+k*3+2))=some (Qs (atT xs k).t):=K.cell b2 (by simp[Value.ownBlock];omega);obtain⟨c3,w3,M,Y,U⟩:=zEg w2 (atT xs k).t;have F:=zB Y;have X:=zB (hown2.kept (Zq U none) (yU Jb));have Q:=P.trans (U.mono P.size);clear hown2 K u hown1 I m Y U b2 a a0 a1;go_wp2_with (at_builtin;refine wpList_append_own _ rfl (.tmp 20) (.tmp 26) 102 rfl w.heap.size 5 i0 _ 1 1 underlying102 HI HZ.1 HZ.2.1 HZ.2.2 rfl Jd _ (n+(atT xs k).g.size) _ rfl X (Qa w2.heap.size 0) (atT xs k).t.size c3 (ZN (atT xs k).t.data.toList) rfl (by rw[zBl];simp) F (zDG _) ?b1 ?b2 ?b3 ?next);case b1=>exact Jm
    case b2=>omega
    case b3=>exact Q.size
    case next=>
     intro v4 w4 H y v;have s:=X.lt g2 rfl;have A:Qb w w4:=Q.grown y Q.size (fun q hq=>by simp[Value.ownBlock] at hq;omega);obtain⟨g4,q4,rfl⟩:=ZC H (by simp[v]);rw[<-zA1] at H;have L:Hid (w4.ownsRow w.heap.size 5 1 (Ql g4 (n+(atT xs k).g.size+(atT xs k).t.size) q4) (n+(atT xs k).g.size+(atT xs k).t.size) (ZN (Zy xs (k+1)))):=H;have l:=zB (by rw[zDH];have:=zA d;simp only[Zf,zRr];omega:n+(atT xs k).g.size+(atT xs k).t.size=(Zy xs (k+1)).length);clear H y v X F d hn;go_wp2;exact⟨⟨k+1,g4,q4,_,Jo,Jn,rfl,l,L,A⟩,Ji⟩
  ·have f:k=xs.length:=Jo;have O:=zH4 wr go n co (Zy xs k) hn (zH5 J);have HK:=zB f;clear f;go_wp2;go_ret;exact⟨zPn (by rw[zA HK]),h⟩
end Go.Proofs.YtadiaghhackbjaaGreatDoor
