import Derived.Test.YtadiaghhackbjaaGreatDoorU07
namespace Go.Proofs.YtadiaghhackbjaaGreatDoor
set_option linter.all false
set_option maxHeartbeats 0
set_option maxRecDepth 100000
open Proofs.Tryz
variable{N b:Nat}{e v:Value}{ps:List ByteArray}{row:Option Nat}{w w' w2:World}
def atB(ws:List JZ)(i:Nat):ByteArray:=ws.getD i ByteArray.empty
open Go.RowKit
theorem zSm(n:Nat):(zCH 7 n).size<=7:=by
 have:∀(f n:Nat),(zCH f n).size<=f:=by
  intro f;induction f with
  |zero=>intro n;simp[zCH]
  |succ f ih=>
   intro n;simp only[zCH];split
   ·rw[zEF];omega
   ·rw[zA7,zEF];have:=ih (n/10);omega
 exact this 7 n
theorem zNr(sd:Int):(sdW sd).size<=5:=by
 unfold sdW;repeat' split
 all_goals decide
theorem zLK{o:OpR}(h:o.s.size<=16):(zA8 (dW o)).size<=50:=by
 have h1:=zSm o.l.toNat;have h2:=zNr o.sd;have a1:zAl.size=6:=rfl;have a2:Z9.size=7:=rfl;have a3:zBj.size=5:=rfl;unfold dW;repeat' split
 all_goals
  simp only[zA8,zA7,zEF]
  omega
def HdI(s:JZ)(o b:OpR)(ls:List (Nat×Nat)):Nat->ByteArray->Prop
 |0,t=>t=⟨#[]⟩
 |i+1,t=>∃t0,HdI s o b ls i t0 /\
   (
    (OpW (wds (s.extract (ls.getD i (0,0)).1 (ls.getD i (0,0)).2)) o/\t=t0++zA8 (dW b)++⟨#[10]⟩) \/
    (¬ OpW (wds (s.extract (ls.getD i (0,0)).1 (ls.getD i (0,0)).2)) o/\t=t0++s.extract (ls.getD i (0,0)).1 (ls.getD i (0,0)).2++⟨#[10]⟩))
theorem HdI.one{s:JZ}{o b:OpR}{ls:List (Nat×Nat)}:∀{i:Nat}{t t':JZ},HdI s o b ls i t->HdI s o b ls i t'->t=t'
 |0,_,_,h,h'=>h.trans h'.symm
 |i+1,_,_,h,h'=>by
  obtain⟨t0,h0,h⟩:=h;obtain⟨t1,h1,h'⟩:=h';obtain rfl:=h0.one h1;rcases h with⟨a,rfl⟩|⟨a,rfl⟩<;>rcases h' with⟨a',rfl⟩|⟨a',rfl⟩
  ·rfl
  ·exact yR a a'
  ·exact yR a' a
  ·rfl
def bgN(s:JZ):List (Nat×Nat)->Nat->Nat
 |[],_=>0
 |p::r,n=>if wds (s.extract p.1 p.2)=[zAK] then n+1 else bgN s r (n+1)
def zSn(s:JZ)(o b:OpR)(t:JZ):Prop:=HdI s o b (pcs 10 s 0) (bgN s (pcs 10 s 0) 0) t
def zNs(us:List zU):List UInt8:=us.flatMap fun t=>t.g.data.toList++t.t.data.toList
theorem zIK(us:List zU):∀k,k<=us.length->Zy us k=zNs (us.take k)
 |0,_=>rfl
 |k+1,h=>by
  have ih:=zIK us k Jo;have e:us.take (k+1)=us.take k++[atT us k]:=by
   rw[List.take_add_one,yr Jo];simp[atT,List.getD,yr (Jo:k<us.length)]
  rw[e];show Zy us k++(atT us k).g.data.toList++(atT us k).t.data.toList=_;rw[ih];simp[zNs]
theorem zJm(us:List zU):Zy us us.length=zNs us:=by
 rw[zIK us us.length (yk _),List.take_length]
theorem zJn(s:JZ)(i j:Nat):(s.extract i j).data.toList=(s.data.toList.drop i).take (j-i):=by
 simp[ByteArray.data_extract,List.extract_eq_take_drop]
theorem zJo{xs:List OpR}{s:JZ}:∀(us:List zU)(i:Nat),zAA xs s i us->zNs us=s.data.toList.drop i/\us.length+i<=s.size+1
 |[],_,h=>h.elim
 |t::out,i,h=>by
  have q:s.data.toList.length=s.size:=Js;rcases h with⟨rfl,hi,_,rfl⟩|⟨j,n,k,Q,hj,_,_,K,rfl,H⟩
  ·refine⟨?_,Jq⟩;show(s.extract i s.size).data.toList++[]++[]=_;rw[zJn,List.append_nil,List.append_nil,List.take_of_length_le (by rw[List.length_drop,q];exact yk _)]
  ·obtain⟨ih1,ih2⟩:=zJo out (j+n) H;have h1:=K.1;refine⟨?_,Jq⟩;show(s.extract i j).data.toList++(s.extract j (j+n)).data.toList++zNs out=_;rw[ih1,zJn,zJn];have e1:s.data.toList.drop (j+n)=(s.data.toList.drop j).drop n:=by rw[List.drop_drop]
   have e2:s.data.toList.drop j=(s.data.toList.drop i).drop (j-i):=by rw[List.drop_drop];congr 1;omega
   rw[yA,e1,Nat.add_sub_cancel_left,List.take_append_drop,e2,List.take_append_drop]
theorem zF0{xs:List OpR}{s:JZ}{us:List zU}(h:zAA xs s 0 us):(⟨(Zy us us.length).toArray⟩:JZ)=s/\us.length<=s.size+1/\Zf us us.length=s.size:=by
 obtain⟨h1,h2⟩:=zJo us 0 h;rw[List.drop_zero] at h1;have h3:=zDH us us.length;rw[zJm,h1] at h3;refine⟨?_,Jo,by rw[<-h3];simp⟩;rw[zJm,h1]
open Go.Maps
theorem zEP(a c:Int)(w:JY):Calls prog 224 #[Qi a,Qi c] w fun e w'=>e=.returned (.bool (zA4 a c))/\w'=w:=by
 have hb:zA4 a c=(a==3||c==3||(a==2&&c==2)):=by
  unfold zA4;rw[Bool.eq_iff_iff];simp only[decide_eq_true_eq,Bool.or_eq_true,Bool.and_eq_true,beq_iff_eq];omega
 have HB:=zB hb;clear hb;by_cases h1:a=3
 ·have H:(a==3)=true:=Ju h1
  rw[H] at HB;go_enter func224,ntmps224;go_wp2;go_ret;exact⟨zi (by rw[zA HB];rfl),rfl⟩
 ·have H:(a==3)=false:=Ju h1
  rw[H] at HB;by_cases h2:c=3
  ·have k:(c==3)=true:=Ju h2
   rw[k] at HB;go_enter func224,ntmps224;go_wp2;go_ret;exact⟨zi (by rw[zA HB];rfl),rfl⟩
  ·have k:(c==3)=false:=Ju h2
   rw[k] at HB;by_cases h3:a=2
   ·have h:(a==2)=true:=Ju h3
    rw[h] at HB;go_enter func224,ntmps224;go_wp2;go_ret;exact⟨zi (by rw[zA HB];rfl),rfl⟩
   ·have h:(a==2)=false:=Ju h3
    rw[h] at HB;go_enter func224,ntmps224;go_wp2;go_ret;exact⟨zi (by rw[zA HB];rfl),rfl⟩
structure zE0(w:JY)(b:Nat)(v:Value)(ps:List JZ)(last:Int):Prop where
 c0:w.cell? (Qa b 0)=some v
 c1:w.cell? (Qa b 1)=some (Qi last)
 fz:∀o,w.frozen? (Qa b o)=false
 row:Ze w (b+1) v ps
theorem zE0.ne{last:Int}(h:zE0 w b v ps last):v.ownBlock≠some b:=fun e=>by
 have:=(h.row.lt _ e).1;omega
theorem zE0.below{w w':JY}{b:Nat}{v:Value}{ps:List JZ}{last:Int}(h:zE0 w b v ps last)(hb:Qb w w'):zE0 w' b v ps last:=
 have H:b<w.heap.size:=block_lt_of_cell h.c0
 ⟨Jc hb H h.c0,Jc hb H h.c1,fun o=>(hb.frozen (p:=Qa b o) H).trans (h.fz o),h.row.below hb⟩
theorem zE0.keep{o:Obj}{last:Int}(h:zE0 w b v ps last)(hg:(w.alloc o).grownBy w2 v.ownBlock):(∀q,w2.cell? (Qa b q)=w.cell? (Qa b q))/\∀q,w2.frozen? (Qa b q)=w.frozen? (Qa b q):=by
 have H:b<w.heap.size:=block_lt_of_cell h.c0;have k:w2.heap[b]?=(w.alloc o).heap[b]?:=hg.block b Jq (fun e=>h.ne e.symm);exact⟨fun q=>(yu (w:=w.alloc o) k).trans ((zC w o).cell (p:=Qa b q) H),fun q=>(yD (w:=w.alloc o) k).trans ((zC w o).frozen (p:=Qa b q) H)⟩
theorem zE0.put{o:Obj}{v2:Value}{ps2:List JZ}{last:Int}(h:zE0 w b v ps last)(hg:(w.alloc o).grownBy w2 v.ownBlock)(hr:Ze w2 (b+1) v2 ps2):zE0 (w2.setCell ⟨b,0,none⟩ v2) b v2 ps2 last/\zAZ w (w2.setCell ⟨b,0,none⟩ v2) b v.ownBlock:=by
 have H:b<w.heap.size:=block_lt_of_cell h.c0;have K:w2.heap[b]?=(w.alloc o).heap[b]?:=hg.block b Jq (fun e=>h.ne e.symm);have e:∀q,w2.cell? ⟨b,q,none⟩=w.cell? ⟨b,q,none⟩:=fun q=>(yu (w:=w.alloc o) K).trans ((zC w o).cell (p:=⟨b,q,none⟩) H)
 have f:∀q,w2.frozen? ⟨b,q,none⟩=w.frozen? ⟨b,q,none⟩:=fun q=>(yD (w:=w.alloc o) K).trans ((zC w o).frozen (p:=⟨b,q,none⟩) H)
 refine⟨⟨yt _ _ _ ((e 0).trans h.c0),(yj _ _ _ _ Js).trans ((e 1).trans h.c1),fun q=>(yv _ _ _ _).trans ((f q).trans (h.fz q)),hr.grown (zCQ _ b 0 _) (fun k hk=>fun x=>?_)⟩,?_⟩
 ·injection x with x;have:=(hr.lt k hk).1;omega
 ·have e1:=hg.size;simp at e1;refine⟨hg.os,hg.tape,hg.output,by simp[World.setCell];omega,fun i hi h1 h2=>?_⟩;rw[je _ _ _ _ (Ju h1)];exact(hg.block i Jq h2).trans ((zC w o).block i hi)
theorem zE0.last{last:Int}(h:zE0 w b v ps last)(k:Int):zE0 (w.setCell ⟨b,1,none⟩ (Qi k)) b v ps k:=
 ⟨(yj _ _ _ _ Js).trans h.c0,yt _ _ _ h.c1,fun q=>(yv _ _ _ _).trans (h.fz q),h.row.grown (zCQ _ b 1 _) (fun k hk=>fun x=>by
  injection x with x
  have:=(h.row.lt k hk).1
  omega)⟩
theorem zAZ.trans{w w1 w2:JY}{p:Nat}{row row':Option Nat}(h:zAZ w w1 p row)(h2:zAZ w1 w2 p row')(hr:row'=row\/∃k,row'=some k/\w.heap.size<=k):zAZ w w2 p row:=
 ⟨h2.os.trans h.os,h2.tape.trans h.tape,h2.output.trans h.output,yw h.size h2.size,fun i hi h1 H=>(h2.block i (yl hi h.size) h1 (fun e=>by
  rcases hr with rfl|⟨k,rfl,hk⟩
  ·exact H e
  ·injection e with e;omega)).trans (h.block i hi h1 H)⟩
theorem zAZ.below{w1:JY}{p:Nat}(h:Qb w w1)(h2:zAZ w1 w2 p row):zAZ w w2 p row:=
 ⟨h2.os.trans h.os,h2.tape.trans h.tape,h2.output.trans h.output,yw h.size h2.size,fun i hi h1 H=>(h2.block i (yl hi h.size) h1 H).trans (h.block i hi)⟩
theorem zAZ.set{p o:Nat}:zAZ w (w.setCell (Qa p o) v) p row:=
 ⟨rfl,rfl,rfl,Jt,fun i _ h1 _=>je _ _ _ _ (Ju h1)⟩
theorem zAZ.at{p:Nat}{row':Option Nat}(h:zAZ w w' p row)(hr:row'=row\/∃k,row'=some k/\w.heap.size<=k)(r:Option Nat)(H:r=row'\/∃k,r=some k/\w'.heap.size<=k):r=row\/∃k,r=some k/\w.heap.size<=k:=by
 have:=h.size;rcases H with rfl|⟨k,rfl,hk⟩
 ·exact hr
 ·exact yU ⟨k,rfl,Jo⟩
theorem zAZ.cell{w w':JY}{p:Nat}{row:Option Nat}(h:zAZ w w' p row){b:Nat}(hb:b<w.heap.size)(h1:b≠p)(h2:row≠some b)(o:Nat):w'.cell? (Qa b o)=w.cell? (Qa b o):=
 yu (w:=w) (h.block b hb h1 (fun e=>h2 e.symm))
def zFY(w:JY)(b:Nat)(v:Value)(st:List ByteArray×Int)(x:Ending)(w':JY):Prop:=
 x=.returned (.tuple #[])/\∃v',Hid (zE0 w' b v' st.1 st.2)/\Hid (zAZ w w' b v.ownBlock)/\Hid (v'.ownBlock=v.ownBlock\/∃k,v'.ownBlock=some k/\w.heap.size<=k)
theorem zE1(b:Nat)(v:Value)(ps:List JZ)(last K:Int)(t:JZ)(w:JY)(h:zE0 w b v ps last)(hl:ps.length+2<=200000):Calls prog 202 #[Qp b,Qs t,Qi K] w (zFY w b v (ps++((if zA4 last K then[blk] else[])++[t]),K)):=by
 obtain⟨i0,F,d,D,E⟩:∃i,prog.info? 9=some i/\i.zero=some (Qs ⟨#[]⟩)/\i.size=1/\i.bytes=16:=by
  obtain⟨i,hi,hz⟩:=Option.map_eq_some_iff.1 zEd;simp only[Prod.mk.injEq] at hz;exact⟨i,hi,hz.1,hz.2.1,hz.2.2⟩
 have HI:=zB F;have HZ:=zB (yK d (yK D E));clear F d D E;obtain⟨a,c,rfl⟩:=zR h.row;have HP:=zB h;have n:b<w.heap.size:=block_lt_of_cell h.c0;have c0:=h.c0;have c1:=h.c1;have f0:=h.fz 0;clear h;have last2:∀(v1:Value)(ps1:List JZ)(w1:JY),Hid (zE0 w1 b v1 ps1 last)->Hid (zAZ w w1 b (Value.slice a ps.length c).ownBlock)->Hid (v1.ownBlock=(Value.slice a ps.length c).ownBlock\/∃k,v1.ownBlock=some k/\w.heap.size<=k) ->
   Hid (zE0 (w1.setCell (Qa b 1) (Qi K)) b v1 ps1 K)/\Hid (zAZ w (w1.setCell (Qa b 1) (Qi K)) b (Value.slice a ps.length c).ownBlock):=
  fun v1 ps1 w1 hp hk ho=>⟨zB (hp.last K),zB (hk.trans zAZ.set (yS rfl))⟩
 have HL:=zB last2;clear last2;obtain⟨ps2,j⟩:∃ps2,Hid (ps++((if zA4 last K then[blk] else[])++[t])=ps2):=⟨_,zB rfl⟩;rw[zA j];cases hbl:zA4 last K
 ·have U:=zB (by rw[<-zA j,hbl];simp:ps2=ps++[t]);clear j;go_enter func202,ntmps202;go_wp2_with fail;go_call zEP last K _ as e w' ⟨rfl,hw'⟩;have u:=hw'.symm;subst u;rw[hbl];go_wp2_with (at_builtin;go_loud (refine yL _ rfl (.tmp 25) (.tmp 27) 87 rfl (b+1) 9 i0 _ 1 16 underlying87 HI HZ.1 HZ.2.1 HZ.2.2 rfl Jd _ ps.length (ZM ps) rfl (HP.row.below (zC _ _)) (Qa w.heap.size 0) 1 1 (ZM [t]) rfl rfl (Ju (zAz w t)) (Z3 _) ?b1 ?b2 ?b3 ?next));case b1=>exact Jm
  case b2=>omega
  case b3=>first|omega|(simp;omega)
  case next=>
   intro v4 w4 q H Y x;have y:Ze w4 (b+1) v4 ps2:=by
    unfold Ze;rw[zA U,Zg,yq];exact q
   obtain⟨p5,k5⟩:=HP.put H y;have HA:Hid (v4.ownBlock=(Value.slice a ps.length c).ownBlock\/∃k,v4.ownBlock=some k/\w.heap.size<=k):=x.imp id (fun h=>⟨_,h,by first|omega|(simp;omega)⟩);obtain⟨a4,c4,rfl⟩:=zR y;have X:=zB p5;have p:=zB k5;obtain⟨g,l⟩:=(zA HL) _ _ _ X p HA;obtain⟨qe,ge⟩:=HP.keep H;have q0:=(qe 0).trans c0;have q1:=(qe 1).trans c1;have g0:=(ge 0).trans f0;have g1:=(ge 1).trans (HP.fz 1);clear q H Y x y p5 k5 c0 c1 f0 qe ge;go_wp2_with fail;go_end0;exact⟨rfl,_,g,l,HA⟩
 ·obtain⟨ps1,V⟩:∃ps1,Hid (ps1=ps++[blk]):=⟨_,zB rfl⟩;have M:ps1.length+1<=200000:=by rw[zA V];simp;omega
  have U:=zB (by rw[<-zA j,zA V,hbl];simp:ps2=ps1++[t]);clear j;go_enter func202,ntmps202;go_wp2_with fail;go_call zEP last K _ as e w' ⟨rfl,hw'⟩;have u:=hw'.symm;subst u;rw[hbl];go_wp2_with (at_builtin;refine yL _ rfl (.tmp 16) (.tmp 17) 87 rfl (b+1) 9 i0 _ 1 16 underlying87 HI HZ.1 HZ.2.1 HZ.2.2 rfl Jd _ ps.length (ZM ps) rfl (HP.row.below (zC _ _)) (Qa w.heap.size 0) 1 1 (ZM [⟨#[32]⟩]) rfl rfl (Ju (zAz w ⟨#[32]⟩)) (Z3 _) ?b1 ?b2 ?b3 ?next);case b1=>exact Jm
  case b2=>omega
  case b3=>first|omega|(simp;omega)
  case next=>
   intro v4 w4 q H Y x;have y:Ze w4 (b+1) v4 ps1:=by
    unfold Ze;rw[zA V,Zg,yq];exact q
   obtain⟨p5,k5⟩:=HP.put H y;have HA:Hid (v4.ownBlock=(Value.slice a ps.length c).ownBlock\/∃k,v4.ownBlock=some k/\w.heap.size<=k):=x.imp id (fun h=>⟨_,h,by first|omega|(simp;omega)⟩);obtain⟨a4,c4,rfl⟩:=zR y;have X:=zB p5;have p:=zB k5;obtain⟨qe,ge⟩:=HP.keep H;have q0:=(qe 0).trans c0;have q1:=(qe 1).trans c1;have g0:=(ge 0).trans f0;have g1:=(ge 1).trans (HP.fz 1);have d0:=p5.c0;have e0:=p5.fz 0;have f:b<(w4.setCell (Qa b 0) (.slice a4 ps1.length c4)).heap.size:=block_lt_of_cell d0;obtain⟨W4,N⟩:∃W4,Hid (W4=w4.setCell (Qa b 0) (.slice a4 ps1.length c4)):=⟨_,zB rfl⟩;clear q H Y x y p5 k5 c0 c1 f0 qe ge;go_wp2_with (at_builtin;refine yL _ rfl (.tmp 25) (.tmp 27) 87 rfl (b+1) 9 i0 _ 1 16 underlying87 HI HZ.1 HZ.2.1 HZ.2.2 rfl Jd _ ps1.length (ZM ps1) rfl (X.row.below (zC _ _)) (Qa w4.heap.size 0) 1 1 (ZM [t]) rfl rfl (by simpa[World.setCell] using zAz (w4.setCell (Qa b 0) (.slice a4 ps1.length c4)) t) (Z3 _) ?b1 ?b2 ?b3 ?next);case b1=>exact Jm
   case b2=>omega
   case b3=>first|omega|(simp at f ⊢;omega)
   case next=>
    intro v6 w6 J Q B P;have A:Ze w6 (b+1) v6 ps2:=by
     unfold Ze;rw[zA U,Zg,yq];exact J
    obtain⟨p7,k7⟩:=X.put Q A;have L:=zB (p.trans k7 HA);have C:=zB (p.at HA v6.ownBlock (P.imp id (fun h=>⟨_,h,by first|omega|(simp;done)|(simp;omega)⟩)));obtain⟨a6,c6,rfl⟩:=zR A;have m:=zB p7;obtain⟨I,G⟩:=(zA HL) _ _ _ m L C;obtain⟨qe,ge⟩:=X.keep Q;have r0:=(qe 0).trans d0;have r1:=(qe 1).trans X.c1;have t0:=(ge 0).trans e0;have t1:=(ge 1).trans (X.fz 1);clear J Q B P A p7 k7 qe ge q0 q1 g0 g1 d0 e0;go_wp2_with fail;go_end0;exact⟨rfl,_,I,G,C⟩
def zEQ(w:JY)(N:Nat)(p:OpR)(e:Value):Prop:=w.cell? (Qa N 0)=some (Qs p.s)/\w.cell? (Qa N 1)=some (Qi p.k)/\w.cell? (Qa N 2)=some (Qi p.l)/\w.cell? (Qa N 3)=some (Qi p.sd)/\w.cell? (Qa N 4)=some e/\w.frozen? (Qa N 4)=false
theorem zEQ.kept{g:Nat}{p:OpR}(h:zEQ w N p e)(hk:zJ w w' g)(H:N≠g):zEQ w' N p e:=by
 obtain⟨h0,h1,h2,h3,h4,h5⟩:=h;have k:=block_lt_of_cell h0;have c:=hk.cell k H;exact⟨(c 0).trans h0,(c 1).trans h1,(c 2).trans h2,(c 3).trans h3,(c 4).trans h4,(hk.frozen k H 4).trans h5⟩
theorem zEQ.below{p:OpR}(h:zEQ w N p e)(hb:Qb w w'):zEQ w' N p e:=
 h.kept (g:=w.heap.size) (zJ.of_below hb) (by have:N<w.heap.size:=block_lt_of_cell h.1;omega)
theorem zEQ.set{p:OpR}(h:zEQ w N p e)(e':Value):zEQ (w.setCell (Qa N 4) e') N p e':=by
 obtain⟨h0,h1,h2,h3,h4,h5⟩:=h;have c:∀o,o≠4->(w.setCell (Qa N 4) e').cell? (Qa N o)=w.cell? (Qa N o):=fun o ho=>yj _ _ _ _ (fun x=>ho (by injection x with _ x;exact x.symm))
 exact⟨(c 0 Jo).trans h0,(c 1 Jo).trans h1,(c 2 Jo).trans h2,(c 3 Jo).trans h3,yt _ _ _ h4,(yv _ _ _ _).trans h5⟩
theorem zCp.other{g m o:Nat}(h:zCp w g m)(H:N≠g)(v:Value):zCp (w.setCell (Qa N o) v) g m:=
 ⟨(yj _ _ _ _ (fun x=>H (by injection x))).trans h.1,(yv _ _ _ _).trans h.2⟩
theorem zJ.far{w1:JY}{g:Nat}(h:zJ w w1 g)(o:Nat)(v:Value)(hN:w.heap.size<=N):zJ w (w1.setCell (Qa N o) v) g:=
 ⟨h.os,h.tape,h.output,by simpa[World.setCell] using h.size,fun i hi a=>(je _ _ _ _ (fun e=>by have:i=N:=e;omega)).trans (h.block i hi a)⟩
theorem zUp{T:TypeId}(p:OpR)(g m m1:Nat)(H:Int){e1:Value}(w:JY)(he:∃T' v',e1=.iface T' v')(hg:zCp w g m)(y:p.s.size<=maxLen)(X:m1<=100000)(hc:∀W,zCp W g m->Calls prog 200 #[Qp g,.iface T v,Qi (ZU p.s p.k p.l p.sd false)] W (zBV W g m1 e1)):Calls prog 200 #[Qp g,zGV p (.iface T v),Qi H] w (zBV w g (m1+zL1 p.l H) (zG7 p.l H (zGV p e1))):=by
 obtain⟨T',v',rfl⟩:=he;have n1:=zWL (.agg #[Qs p.s,Qi p.k,Qi p.l,Qi p.sd,.iface T v]);have i1:=zSS (.agg #[Qs p.s,Qi p.k,Qi p.l,Qi p.sd,.iface T v]);unfold Z0 zG at n1;have j:=block_lt_of_cell hg.1;have HC:=zB hc;have K:Hid (zCp (w.alloc (.cells #[Qs p.s,Qi p.k,Qi p.l,Qi p.sd,.iface T v] 264)).drew g m):=hg.below ((zC _ _).drew);have h:=zB (show zEQ (w.alloc (.cells #[Qs p.s,Qi p.k,Qi p.l,Qi p.sd,.iface T v] 264)).drew w.heap.size p (.iface T v) from
  (show zEQ (w.alloc (.cells #[Qs p.s,Qi p.k,Qi p.l,Qi p.sd,.iface T v] 264)) w.heap.size p (.iface T v) from⟨Jg,Jg,Jg,Jg,Jg,Jg⟩).below ((yJ _ _).drew))
 have q:Hid (zJ w (w.alloc (.cells #[Qs p.s,Qi p.k,Qi p.l,Qi p.sd,.iface T v] 264)).drew g):=zJ.of_below ((zC _ _).drew);clear hc hg;unfold zGV;go_enter func200,ntmps200;go_wp2_with fail;clear n1 i1;obtain⟨k0,k1,k2,k3,k4,k5⟩:=zA h;go_region_with
  (first|(go_at_call 183;refine(zAn p.s p.k p.l p.sd false _ y).mono ?_;rintro e w3 ⟨rfl,hb3⟩;replace h:=zB (h.below hb3);replace⟨k0,k1,k2,k3,k4,k5⟩:=zA h;replace K:=zB (K.below hb3);replace q:=zB (q.trans (zJ.of_below hb3));clear hb3)|(go_at_call 200;refine(HC _ K).mono ?_;rintro e w4 ⟨rfl,hg4,hk4⟩;replace h:=zB (h.kept hk4 Jo);replace K:=hg4;replace q:=zB (q.trans hk4);clear hk4 hg4;replace⟨k0,k1,k2,k3,k4,k5⟩:=zA h))
 all_goals
  replace h:=zB (h.set (.iface T' v'))
  replace K:=zB (K.other (N:=w.heap.size) (o:=4) Jo (.iface T' v'))
  replace q:=zB (q.far 4 (.iface T' v') (yk _))
  clear k0 k1 k2 k3 k4 k5
  obtain⟨k0,k1,k2,k3,k4,k5⟩:=zA h
  go_wp2_with fail
  go_call zDq (zQB p (.iface T' v')) g m1 H _ K X as x w6 ⟨rfl,h1,h2⟩
  obtain⟨T6,v6,Q⟩:=zDS p.l H 264 (.agg #[Qs p.s,Qi p.k,Qi p.l,Qi p.sd,.iface T' v'])
  have Y:=zB (q.trans h2)
  unfold zGV
  rw[Q]
  clear k0 k1 k2 k3 k4 k5 h K q h2
  go_wp2_with fail
  go_ret
  exact⟨by first|rfl|(rw[Q];rfl),h1,Y⟩
end Go.Proofs.YtadiaghhackbjaaGreatDoor
