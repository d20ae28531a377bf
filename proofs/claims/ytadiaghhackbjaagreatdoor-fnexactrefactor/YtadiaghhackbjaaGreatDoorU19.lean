import Derived.Test.YtadiaghhackbjaaGreatDoorU09
import Derived.Test.YtadiaghhackbjaaGreatDoorU11
import Derived.Test.YtadiaghhackbjaaGreatDoorU16
import Derived.Test.YtadiaghhackbjaaGreatDoorU18
namespace Go.Proofs.YtadiaghhackbjaaGreatDoor
set_option linter.all false
set_option maxHeartbeats 0
set_option maxRecDepth 100000
open Proofs.Tryz RowKit
variable{B b off:Nat}{V:List zD}{t:ByteArray}{ts:List zU}{us:List Int}{w w':World}{xs:List OpR}
theorem zHI(g o c i:Nat)(ts:List zU)(w:JY)(hm:ts.length+Zf ts ts.length<=1048576)(hi:i<ts.length)(hc:ts.length<=c)(P:c<=maxLen)(hw:zDf w g o ts)(hB:g<w.heap.size)(hz:(atT ts i).g.size<=1048576):Calls prog 66 #[.slice (some (Qa g o)) ts.length c,Qi i] w fun e w'=>e=.returned (Qi (zIY ts i:Int))/\Qb w w':=by
 have k:(ts.take i).length=i:=Jq;have X:=zFI ts i ts.length Jo;have q:Qb w w.drew:=(yJ _ _).drew;have HX:=zI5 g o c (ts.take i) w.drew (by rw[k,zFR ts i i (yk _)];omega) (fun j hj=>by
  rw[k] at hj
  have h:=(hw j Jo).below q hB
  unfold zGL at h ⊢
  rw[zJX hj]
  exact h) hB
 rw[k] at HX;have e0:(Zy (ts.take i) i).length=Zf ts i:=by rw[zDH,zFR ts i i (yk _)]
 obtain⟨S,hS⟩:∃S:JZ,S=⟨(Zy (ts.take i) i).toArray⟩:=⟨_,rfl⟩;rw[<-hS] at HX;have K:S.size=Zf ts i:=by rw[hS,<-e0];simp[ByteArray.size]
 obtain⟨k0,k1,k2⟩:=hw i hi;have Y:(i:Int)<(ts.length:Int):=Jo;have HS:=zB K;have Q:=zB (by unfold zIY;rw[K];omega:(zIY ts i:Int)=(S.size:Int)+((atT ts i).g.size:Int));have J:S.size<=1048576:=Jo;clear hS e0 K X k hw q;go_enter func66,ntmps66;go_wp2_with fail;have H:Hid (Qb w w.drew):=(yJ _ _).drew;go_region_held (fun w'=>w'.cell? (Qa g (o+i*3+1))=some (Qs (atT ts i).g)) (first|(go_keep;done)|exact(H.cell (p:=(Qa g (o+i*3+1))) hB).trans k1)
  (first|(go_at_call 115;refine HX.mono ?_;rintro x w1 ⟨rfl,hb⟩;replace H:=zB (H.trans hb);clear HX hb))
 have y:IntKind.i64.wrap ((S.size:Int)+((atT ts i).g.size:Int))=(S.size:Int)+((atT ts i).g.size:Int):=by rw[IntKind.wrap_i64];omega
 rw[y,<-zA Q];go_wp2_with fail;go_ret;exact⟨rfl,H⟩
theorem zN4(b off cap gt ot ct gr cr i j:Nat)(xs:List OpR)(ts:List zU)(us:List Int)(w:JY)(hm:xs.length<=1048576)(hw:Ops w b off xs)(hB:b<w.heap.size)(ht:zDf w gt ot ts)(y:gt<w.heap.size)(hr:∀i,i<us.length->w.cell? (Qa gr i)=some (Qi (atI us i)))(hi:i<ts.length)(K:i<us.length)(hf:fnd xs (atT ts i).t (atI us i)=some j):Calls prog 168 #[.agg #[.slice (some (Qa b off)) xs.length cap],.slice (some (Qa gt ot)) ts.length ct,Ql gr us.length cr,Qi i] w fun e w'=>e=.returned (.agg #[Qs (atO xs j).s,Qi (atO xs j).k,Qi (atO xs j).l,Qi (atO xs j).sd])/\Below w.heap.size w w':=by
 have hj:=(zAg hf).1;have P:(j:Int)<(xs.length:Int):=Jo;have J:(i:Int)<(ts.length:Int):=Jo;have Y:(i:Int)<(us.length:Int):=Jo;have Q:=zB (by rw[hf];rfl:fI (fnd xs (atT ts i).t (atI us i))=(j:Int));have x:gr<w.heap.size:=block_lt_of_cell (hr i K);obtain⟨W,hW⟩:=Jx ((w.alloc (.cells #[.slice (some (Qa b off)) xs.length cap] 63)).alloc (.cells #[Qs ⟨#[]⟩,Qi 0,Qi 0,Qi 0] 33));have H:Below w.heap.size w W:=by rw[hW];exact(zC _ _).alloc Js _
 have h:=zB (by rw[hW];show((w.alloc _).alloc _).heap.size=_;simp:W.drew.heap.size=w.heap.size+2);have X:W.heap.size=w.heap.size+2:=zA h;have q:Hid (Below w.heap.size w W.drew):=H.drew;have q0:W.cell? (Qa w.heap.size 0)=some (.slice (some (Qa b off)) xs.length cap):=by rw[hW];simp[go_sem]
 have q1:W.cell? (Qa gt (ot+i*3+2))=some (Qs (atT ts i).t):=(H.cell (p:=(Qa gt (ot+i*3+2))) y).trans (ht i hi).2.2;have q2:W.cell? (Qa gr i)=some (Qi (atI us i)):=Jc H x (hr i K);obtain⟨r0,r1,r2,r3⟩:=(hw j hj).below H hB;have t0:W.cell? (Qa (w.heap.size+1) 0)=some (Qs ⟨#[]⟩):=by rw[hW];simp[go_sem]
 have u0:W.frozen? (Qa (w.heap.size+1) 0)=false:=by rw[hW];simp[go_sem]
 have t1:W.cell? (Qa (w.heap.size+1) 1)=some (Qi 0):=by rw[hW];simp[go_sem]
 have u1:W.frozen? (Qa (w.heap.size+1) 1)=false:=by rw[hW];simp[go_sem]
 have t2:W.cell? (Qa (w.heap.size+1) 2)=some (Qi 0):=by rw[hW];simp[go_sem]
 have u2:W.frozen? (Qa (w.heap.size+1) 2)=false:=by rw[hW];simp[go_sem]
 have t3:W.cell? (Qa (w.heap.size+1) 3)=some (Qi 0):=by rw[hW];simp[go_sem]
 have u3:W.frozen? (Qa (w.heap.size+1) 3)=false:=by rw[hW];simp[go_sem]
 have HX:=zFx b off cap xs (atT ts i).t (atI us i) W.drew hm (hw.below q hB) (by rw[zA h];omega);rw[zA Q] at HX;have n1:b≠w.heap.size+1:=Jo;have n2:w.heap.size+1≠b:=Jo;have n3:gt≠w.heap.size+1:=Jo;have n4:w.heap.size+1≠gt:=Jo;have n5:gr≠w.heap.size+1:=Jo;have n6:w.heap.size+1≠gr:=Jo;have HW:=zB hW;clear hW hf hw ht hr H X;go_enter func168,ntmps168;go_wp2_with fail;rw[<-zA HW];go_region_held (fun w'=>w'.cell? (Qa w.heap.size 0)=some (.slice (some (Qa b off)) xs.length cap)/\w'.cell? (Qa gt (ot+i*3+2))=some (Qs (atT ts i).t)/\w'.cell? (Qa gr i)=some (Qi (atI us i))/\w'.cell? (Qa b (off+j*4))=some (Qs (atO xs j).s)/\w'.cell? (Qa b (off+j*4+1))=some (Qi (atO xs j).k)/\w'.cell? (Qa b (off+j*4+2))=some (Qi (atO xs j).l)/\w'.cell? (Qa b (off+j*4+3))=some (Qi (atO xs j).sd)) (first|(go_keep;done)|exact⟨q0',q1',q2',r0',r1',r2',r3'⟩)
  (first|(go_at_call 121;refine HX.mono ?_;rintro e w2 ⟨rfl,hb2⟩;have q0':=(hb2.cell (p:=Qa w.heap.size 0) (by simp only[zA h];omega)).trans (show W.drew.cell? _=_ from q0);have q1':=(hb2.cell (p:=(Qa gt (ot+i*3+2))) (by simp only[zA h];omega)).trans (show W.drew.cell? _=_ from q1);have q2':=(hb2.cell (p:=Qa gr i) (by simp only[zA h];omega)).trans (show W.drew.cell? _=_ from q2);have r0':=(hb2.cell (p:=(Qa b (off+j*4))) (by simp only[zA h];omega)).trans (show W.drew.cell? _=_ from r0);have r1':=(hb2.cell (p:=(Qa b (off+j*4+1))) (by simp only[zA h];omega)).trans (show W.drew.cell? _=_ from r1);have r2':=(hb2.cell (p:=(Qa b (off+j*4+2))) (by simp only[zA h];omega)).trans (show W.drew.cell? _=_ from r2);have r3':=(hb2.cell (p:=(Qa b (off+j*4+3))) (by simp only[zA h];omega)).trans (show W.drew.cell? _=_ from r3);have t0':=(hb2.cell (p:=(Qa (w.heap.size+1) 0)) (by simp only[zA h];omega)).trans (show W.drew.cell? _=_ from t0);have u0':=(hb2.frozen (p:=(Qa (w.heap.size+1) 0)) (by simp only[zA h];omega)).trans (show W.drew.frozen? _=_ from u0);have t1':=(hb2.cell (p:=(Qa (w.heap.size+1) 1)) (by simp only[zA h];omega)).trans (show W.drew.cell? _=_ from t1);have u1':=(hb2.frozen (p:=(Qa (w.heap.size+1) 1)) (by simp only[zA h];omega)).trans (show W.drew.frozen? _=_ from u1);have t2':=(hb2.cell (p:=(Qa (w.heap.size+1) 2)) (by simp only[zA h];omega)).trans (show W.drew.cell? _=_ from t2);have u2':=(hb2.frozen (p:=(Qa (w.heap.size+1) 2)) (by simp only[zA h];omega)).trans (show W.drew.frozen? _=_ from u2);have t3':=(hb2.cell (p:=(Qa (w.heap.size+1) 3)) (by simp only[zA h];omega)).trans (show W.drew.cell? _=_ from t3);have u3':=(hb2.frozen (p:=(Qa (w.heap.size+1) 3)) (by simp only[zA h];omega)).trans (show W.drew.frozen? _=_ from u3);have B2:=zB (q.trans (hb2.mono (by rw[zA h];omega)));clear hb2))
 go_wp2_with fail;refine yN (v:=.agg #[Qs (atO xs j).s,Qi (atO xs j).k,Qi (atO xs j).l,Qi (atO xs j).sd]) ?res rfl ⟨rfl,?_⟩;case res=>simp[results,results168,go_sem,t0',t1',t2',t3']
 exact zM (Jo:w.heap.size<=w.heap.size+1) [Qs (atO xs j).s,Qi (atO xs j).k,Qi (atO xs j).l,Qi (atO xs j).sd] 0 w2 B2
def zTG(w:JY)(gr:Nat)(us:List Int):Prop:=gr<w.heap.size/\∀i,i<us.length->w.cell? (Qa gr i)=some (Qi (atI us i))
theorem zTG.below{gr:Nat}(h:zTG w gr us)(hb:Below B w w')(hB:gr<B):zTG w' gr us:=⟨yl h.1 hb.size,fun i hi=>Jc hb hB (h.2 i hi)⟩
theorem zN5{ns:List OpR}{b x:Nat×SyR}(h:sLv ns x.2<sLv ns b.2\/(sLv ns x.2=sLv ns b.2/\sSo ns x.2≠2)):zB9 ns (some b) x=some x:=yQ h
theorem zQY{ns:List OpR}{b x:Nat×SyR}(h:¬ (sLv ns x.2<sLv ns b.2\/(sLv ns x.2=sLv ns b.2/\sSo ns x.2≠2))):zB9 ns (some b) x=some b:=yP h
theorem zGb(hb:Qb w w'){p0 p1 p2 p3 p4:Addr}{v0 v1 v2 v3 v4:Value}(h:w.cell? p0=some v0/\w.cell? p1=some v1/\w.cell? p2=some v2/\w.cell? p3=some v3/\w.cell? p4=some v4):w'.cell? p0=some v0/\w'.cell? p1=some v1/\w'.cell? p2=some v2/\w'.cell? p3=some v3/\w'.cell? p4=some v4:=
 ⟨(hb.cell (block_lt_of_cell h.1)).trans h.1,(hb.cell (block_lt_of_cell h.2.1)).trans h.2.1,(hb.cell (block_lt_of_cell h.2.2.1)).trans h.2.2.1,(hb.cell (block_lt_of_cell h.2.2.2.1)).trans h.2.2.2.1,(hb.cell (block_lt_of_cell h.2.2.2.2)).trans h.2.2.2.2⟩
theorem zPQ(b off cap gt ot ct gr cr lo hi:Nat)(xs:List OpR)(ts:List zU)(us:List Int)(w:JY)(hm:xs.length<=1048576)(hw:Ops w b off xs)(hB:b<w.heap.size)(ht:zDf w gt ot ts)(F:gt<w.heap.size)(hr:zTG w gr us)(I:us=Zs xs ts ts.length)(hn:ts.length<=100000)(h6:lo<=hi)(h8:hi<=ts.length)(hF:∀i,i<ts.length->TkF xs ts i/\1<=(atT ts i).k/\(atT ts i).k<=7/\(atT ts i).k≠6):Calls prog 118 #[.agg #[.slice (some (Qa b off)) xs.length cap],.slice (some (Qa gt ot)) ts.length ct,Ql gr us.length cr,Qi lo,Qi hi] w fun e w'=>e=.returned (Qi (zDv (rtF xs (sgs xs ts lo (hi-lo)) lo 0 none)))/\Qb w w':=by
 have hz:us.length<=ts.length:=by rw[I,zAP];exact yk _
 have hv:ts.length<=us.length:=by rw[I,zAP];exact yk _
 have R:Hid (∀i,i<ts.length->atI us i=zZ xs ts i):=fun i hi=>by rw[I];exact zDA hi
 have HW:=zB hw;have HT:=zB ht;have HR:=zB hr;have HF:=zB hF;have o:=hr.1;clear hw ht hr hF I;go_enter func118,ntmps118;go_wp2_with fail;go_loopw [11,12,13] (fun bv ov iv wr=>∃n:Nat,n<=hi-lo/\iv=Qi ((lo+n:Nat):Int)/\bv=Qi (zDv (rtF xs (sgs xs ts lo n) lo 0 none))/\ov=Qi (opL 0 (sgs xs ts lo n))/\Hid (wr.cell? (Qa w.heap.size 0)=some (.slice (some (Qa b off)) xs.length cap))/\Hid (Qb w wr)) (fun _ _ iv _=>hi-(intOf iv).toNat);case atStart=>exact⟨0,ym _,rfl,rfl,rfl,zB Jg,zB (zC _ _)⟩
 case round=>
  obtain⟨n,h7,rfl,rfl,rfl,J,q⟩:=hrel;by_cases h9:n<hi-lo
  ·have N:((lo+n:Nat):Int)<(hi:Int):=Jo;obtain⟨i,a⟩:=Jx (lo+n);obtain⟨B,G⟩:=Jx (rtF xs (sgs xs ts lo n) lo 0 none);obtain⟨op,A⟩:=Jx (opL 0 (sgs xs ts lo n));have hit:i<ts.length:=Jo;have hy:(i:Int)<(ts.length:Int):=Jo;have h4:(i:Int)<(us.length:Int):=Jo;have he:-100000<=op/\op<=100000:=by
    have:=zSk (sgs xs ts lo n) 0;rw[zAq,<-A] at this;omega
   obtain⟨hu,h3⟩:=he;obtain⟨T,E,D,C⟩:=(zA HF) i hit;have v:=zB T;have Y:=zB (show opL 0 (sgs xs ts lo (n+1))=op+(if(atT ts i).k=4 then 1 else 0)-(if(atT ts i).k=5 then 1 else 0) by
    rw[zQP,<-A,<-a];exact zWS T ⟨E,D,C⟩ op)
   have P:=zB (show rtF xs (sgs xs ts lo (n+1)) lo 0 none=(if opL 0 (sgs xs ts lo (n+1))≠0\/¬ (3<=(sgT xs ts i).1/\(sgT xs ts i).1<=5) then B else zB9 xs B (i,sgT xs ts i)) by
    rw[zUn,<-zQP,<-a,<-G])
   have r:=zB (show ∀x,B=some x->lo<=x.1/\x.1<i/\x.2=sgT xs ts x.1/\(3<=x.2.1/\x.2.1<=5) from fun x hx=>by
    have:=zUo (G.symm.trans hx)
    rw[a];exact this)
   have c0:=(HT.below q F i hit).1;have ur:=((HR.below q o).2 i Jo);rw[(zA R) i hit] at ur;have tc:=zA J;have X:=zB a;rw[<-G,<-A,<-a];rw[<-a] at N;clear A G T a;by_cases k4:(atT ts i).k=4
   ·have y:=zB (show rtF xs (sgs xs ts lo (n+1)) lo 0 none=B by
     rw[zA P]
     rcases zA v with⟨k3,_⟩|⟨_,_,V⟩
     ·omega
     ·exact yQ (yU V))
    have g:zZ xs ts i=0:=by
     rcases zA v with⟨k3,_⟩|⟨_,h0,_⟩
     ·omega
     ·exact h0
    rw[yQ k4,yP Jo] at Y;rw[k4] at c0;rw[g] at ur;clear k4 E D C v g P;by_cases h0:op+1=0
    ·have e0:(op+1 != 0)=false:=Ju h0
     have U:=zB (Jo:op+1-0=op+1);clear h0;go_wp2_with fail;refine⟨⟨n+1,Jo,?_,by rw[zA y],by rw[zA Y,zA U],J,q⟩,?_⟩
     ·first|(rw[zA X];go_num)|(congr 1;have:=zA X;omega)
     ·simp[intOf];omega
    ·have e0:(op+1 != 0)=true:=Ju h0
     have U:=zB (Jo:op+1-0=op+1);clear h0;go_wp2_with fail;refine⟨⟨n+1,Jo,?_,by rw[zA y],by rw[zA Y,zA U],J,q⟩,?_⟩
     ·first|(rw[zA X];go_num)|(congr 1;have:=zA X;omega)
     ·simp[intOf];omega
   have e4:((atT ts i).k==4)=false:=Ju k4
   by_cases k5:(atT ts i).k=5
   ·have y:=zB (show rtF xs (sgs xs ts lo (n+1)) lo 0 none=B by
     rw[zA P]
     rcases zA v with⟨k3,_⟩|⟨_,_,V⟩
     ·omega
     ·exact yQ (yU V))
    have g:zZ xs ts i=0:=by
     rcases zA v with⟨k3,_⟩|⟨_,h0,_⟩
     ·omega
     ·exact h0
    rw[yP k4,yQ k5] at Y;rw[k5] at c0;rw[g] at ur;have U:=zB (Jo:op+0-1=op-1);clear k5 k4 E D C v g P e4;by_cases h0:op-1=0
    ·have e0:(op-1 != 0)=false:=Ju h0
     clear h0;go_wp2_with fail;refine⟨⟨n+1,Jo,?_,by rw[zA y],by rw[zA Y,zA U],J,q⟩,?_⟩
     ·first|(rw[zA X];go_num)|(congr 1;have:=zA X;omega)
     ·simp[intOf];omega
    ·have e0:(op-1 != 0)=true:=Ju h0
     clear h0;go_wp2_with fail;refine⟨⟨n+1,Jo,?_,by rw[zA y],by rw[zA Y,zA U],J,q⟩,?_⟩
     ·first|(rw[zA X];go_num)|(congr 1;have:=zA X;omega)
     ·simp[intOf];omega
   have e5:((atT ts i).k==5)=false:=Ju k5
   rw[yP k4,yP k5] at Y;have U:=zB (Jo:op+0-0=op);rw[zA U] at Y;by_cases h0:op=0;case neg=>
    have y:=zB (show rtF xs (sgs xs ts lo (n+1)) lo 0 none=B by
     rw[zA P]
     exact yQ (yS (by rw[zA Y];exact h0)))
    have e0:(op != 0)=true:=Ju h0
    clear h0 k4 k5 E D C P v;go_wp2_with fail;refine⟨⟨n+1,Jo,?_,by rw[zA y],by rw[zA Y],J,q⟩,?_⟩
    ·first|(rw[zA X];go_num)|(congr 1;have:=zA X;omega)
    ·simp[intOf];omega
   subst h0;rcases zA v with⟨k3,⟨hp,ho⟩,hj,j,O,ha,hc⟩|⟨k3,hd,V⟩;case inr=>
    have y:=zB (show rtF xs (sgs xs ts lo (n+1)) lo 0 none=B by
     rw[zA P]
     exact yQ (yU V))
    rw[hd] at ur;clear k3 k4 k5 E D C P v hd V;go_wp2_with fail;refine⟨⟨n+1,Jo,?_,by rw[zA y],by rw[zA Y],J,q⟩,?_⟩
    ·first|(rw[zA X];go_num)|(congr 1;have:=zA X;omega)
    ·simp[intOf];omega
   have e0:(zZ xs ts i==0)=false:=Jq;have c:=zB (show rtF xs (sgs xs ts lo (n+1)) lo 0 none=zB9 xs B (i,sgT xs ts i) by
    rw[zA P]
    refine yP (fun h=>?_)
    rcases h with h|h
    ·exact h Y
    ·apply h
     rw[hj]
     simp only
     omega)
   have HJ:=zB (zAg O).1;have HX:=zN4 b off cap gt ot ct gr cr i j xs ts us wr hm (HW.below q hB) (yl hB q.size) (HT.below q F) (yl F q.size) (HR.below q o).2 hit Jo (by rw[(zA R) i hit];exact O);have L:=zB ha;have hb:=zB hc;clear k3 k4 k5 E D C P v hp ho hj ha hc O;go_wp2_with fail;refine HX.mono ?_;clear HX;rintro e w2 ⟨rfl,hb2⟩;have H:Hid (Qb w (w2.alloc (.cells #[Qs (atO xs j).s,Qi (atO xs j).k,Qi (atO xs j).l,Qi (atO xs j).sd] 33)).drew):=((q.trans (hb2.mono q.size)).alloc (yw q.size hb2.size) _).drew;have Q:=zB (show(w2.alloc (.cells #[Qs (atO xs j).s,Qi (atO xs j).k,Qi (atO xs j).l,Qi (atO xs j).sd] 33)).drew.cell? (Qa w.heap.size 0)=some (.slice (some (Qa b off)) xs.length cap)/\(w2.alloc (.cells #[Qs (atO xs j).s,Qi (atO xs j).k,Qi (atO xs j).l,Qi (atO xs j).sd] 33)).drew.cell? (Qa w2.heap.size 0)=some (Qs (atO xs j).s)/\(w2.alloc (.cells #[Qs (atO xs j).s,Qi (atO xs j).k,Qi (atO xs j).l,Qi (atO xs j).sd] 33)).drew.cell? (Qa w2.heap.size 1)=some (Qi (atO xs j).k)/\(w2.alloc (.cells #[Qs (atO xs j).s,Qi (atO xs j).k,Qi (atO xs j).l,Qi (atO xs j).sd] 33)).drew.cell? (Qa w2.heap.size 2)=some (Qi (atO xs j).l)/\(w2.alloc (.cells #[Qs (atO xs j).s,Qi (atO xs j).k,Qi (atO xs j).l,Qi (atO xs j).sd] 33)).drew.cell? (Qa w2.heap.size 3)=some (Qi (atO xs j).sd) from
    ⟨((zC w2 (.cells #[Qs (atO xs j).s,Qi (atO xs j).k,Qi (atO xs j).l,Qi (atO xs j).sd] 33)).drew.cell (p:=Qa w.heap.size 0) (yl (block_lt_of_cell tc) hb2.size)).trans ((hb2.cell (p:=Qa w.heap.size 0) (block_lt_of_cell tc)).trans tc),
     show(w2.alloc _).cell? _=_ by simp[go_sem],show(w2.alloc _).cell? _=_ by simp[go_sem],show(w2.alloc _).cell? _=_ by simp[go_sem],show(w2.alloc _).cell? _=_ by simp[go_sem]⟩)
   clear hb2 tc c0 ur J q e0;cases hB':B with
   |none=>
    have y:=zB (by rw[zA c,hB'];rfl:rtF xs (sgs xs ts lo (n+1)) lo 0 none=some (i,sgT xs ts i));have eR:zDv none = -1:=rfl;rw[eR];clear c r hB';obtain⟨z0,z1,z2,z3,z4⟩:=zA Q;go_wp2_with fail;go_quiet (fail);go_wp2_with fail;refine⟨⟨n+1,Jo,by first|(rw[zA X];go_num)|(congr 1;have:=zA X;omega),by rw[zA y];rfl,by rw[zA Y],zB (show _=_ from Q.1),zB (zEw H rfl rfl rfl rfl)⟩,Ji⟩
   |some x=>
    obtain⟨x1,x2⟩:=x;obtain⟨g1,g2,g3,g4⟩:=(zA r) _ hB';simp only at g1 g2 g3 g4;have Z:x1<ts.length:=Jo;obtain⟨jb,hg,hh⟩:∃jb,fnd xs (atT ts x1).t (zZ xs ts x1)=some jb/\sLv xs (sgT xs ts x1)=(atO xs jb).l:=by
     rcases((HF) x1 Z).1 with⟨_,_,_,j,h1,h2,_⟩|⟨_,_,V⟩
     ·exact⟨j,h1,h2⟩
     ·rw[<-g3] at V;exact yR g4 V
    have f:Hid (∀W,Qb w W->_):=fun W hW=>zN4 b off cap gt ot ct gr cr x1 jb xs ts us W hm (HW.below hW hB) (yl hB hW.size) (HT.below hW F) (yl F hW.size) (HR.below hW o).2 Z Jo (by rw[(zA R) x1 Z];exact hg)
    have h5:∀W:JY,(Instr.field 33 (.agg #[Qs (atO xs jb).s,Qi (atO xs jb).k,Qi (atO xs jb).l,Qi (atO xs jb).sd]) 2).run prog W=.ok (Qi (atO xs jb).l) W:=fun W=>zJg W _ _ _ _
    have eR:zDv (some (x1,x2))=(x1:Int):=rfl;rw[eR];have eb:decide ((x1:Int)<0)=false:=by rw[yW];omega
    rw[g3] at hB';have M:=zB (by rw[zA c,hB']:rtF xs (sgs xs ts lo (n+1)) lo 0 none=zB9 xs (some (x1,sgT xs ts x1)) (i,sgT xs ts i));have m:=zB hh;clear c r hB' g3 g4 hg hh;rcases(Jo:(atO xs j).l<(atO xs jb).l\/(atO xs j).l=(atO xs jb).l\/(atO xs jb).l<(atO xs j).l) with hl|hl|hl
    ·have hf:decide ((atO xs j).l<(atO xs jb).l)=true:=Ju hl
     have y:=zB (show rtF xs (sgs xs ts lo (n+1)) lo 0 none=some (i,sgT xs ts i) by
      rw[zA M];exact zN5 (yS (by simp only;rw[zA L,zA m];exact hl)))
     go_wp2_with fail;refine wp_region_held_drew (S:=(fun w'=>w'.cell? (Qa w.heap.size 0)=some (.slice (some (Qa b off)) xs.length cap)/\w'.cell? (Qa w2.heap.size 0)=some (Qs (atO xs j).s)/\w'.cell? (Qa w2.heap.size 1)=some (Qi (atO xs j).k)/\w'.cell? (Qa w2.heap.size 2)=some (Qi (atO xs j).l)/\w'.cell? (Qa w2.heap.size 3)=some (Qi (atO xs j).sd))) Jk Q (fun hHeld=>?_);refine tkH 0 hHeld ?_;refine tkH 1 hHeld ?_;refine tkH 2 hHeld ?_;refine tkH 3 hHeld ?_;refine tkH 4 hHeld ?_;refine tkH 5 hHeld ?_;refine tkH 6 hHeld ?_;refine tkH 7 hHeld ?_;refine tkH 8 hHeld ?_;refine yO (rs:=[9]) Jk Js ?_;refine yH rfl (fun K hK=>?_) yI;go_simp;go_call f _ H as e w3 ⟨rfl,hb3⟩;replace H:=zB (H.trans (hb3.mono H.size));replace Q:=zB (zGb hb3 Q);clear hb3 hHeld;refine hK.out _ _ Q (fun hHeld=>?_);clear hK;try simp only[Act.put,ye,yg,yh]
     refine tkH 10 hHeld ?_;refine tkH 11 hHeld ?_;refine tkH 12 hHeld ?_;refine tkH 13 hHeld ?_;refine tkU 14 hHeld ?_;refine tkU 15 hHeld ?_;refine tkU 16 hHeld ?_;refine tkU 17 hHeld ?_;refine tkU 18 hHeld ?_;refine tkU 19 hHeld ?_;refine tkU 20 hHeld ?_;refine tkU 21 hHeld ?_;refine tkU 22 hHeld ?_;refine tkU 23 hHeld ?_;refine tkU 24 hHeld ?_;refine tkU 25 hHeld ?_;refine tkU 26 hHeld ?_;refine tkU 27 hHeld ?_;refine tkH 28 hHeld ?_;refine wpAnyH_done Jk ?_ _;all_goals go_wp2_with fail
     all_goals refine⟨⟨n+1,Jo,by first|(rw[zA X];go_num)|(congr 1;have:=zA X;omega),by rw[zA y];rfl,by rw[zA Y],zB Q.1,H⟩,Ji⟩
    ·have u:¬ (atO xs j).l<(atO xs jb).l:=Jo;have hf:decide ((atO xs j).l<(atO xs jb).l)=false:=by rw[yW];exact u
     have hs:((atO xs j).l==(atO xs jb).l)=true:=Ju hl
     by_cases d:srt (atO xs j).k (atO xs j).sd=2
     ·have hq:(srt (atO xs j).k (atO xs j).sd != 2)=false:=Ju d
      have y:=zB (show rtF xs (sgs xs ts lo (n+1)) lo 0 none=some (x1,sgT xs ts x1) by
       rw[zA M];exact zQY (by simp only;rw[zA L,zA m,zA hb];rintro(h|⟨_,h⟩);exact u h;exact h d))
      have hk:=zB u;clear d hl u;go_wp2_with fail;go_region_held (fun w'=>w'.cell? (Qa w.heap.size 0)=some (.slice (some (Qa b off)) xs.length cap)/\w'.cell? (Qa w2.heap.size 0)=some (Qs (atO xs j).s)/\w'.cell? (Qa w2.heap.size 1)=some (Qi (atO xs j).k)/\w'.cell? (Qa w2.heap.size 2)=some (Qi (atO xs j).l)/\w'.cell? (Qa w2.heap.size 3)=some (Qi (atO xs j).sd)) (first|(go_keep;done)|exact Q)
       (first|(go_at_call 168;refine(f _ H).mono ?_;rintro e w3 ⟨rfl,hb3⟩;replace H:=zB (H.trans (hb3.mono H.size));replace Q:=zB (zGb hb3 Q);clear hb3)|(go_at_call 74;refine(zGO _ _ _ _ _).mono ?_;rintro e w4 ⟨rfl,hb4⟩;replace H:=zB (H.trans (hb4.mono H.size));replace Q:=zB (zGb hb4 Q);clear hb4))
      all_goals go_wp2_with fail
      all_goals refine⟨⟨n+1,Jo,by first|(rw[zA X];go_num)|(congr 1;have:=zA X;omega),by rw[zA y];rfl,by rw[zA Y],zB Q.1,H⟩,Ji⟩
     ·have hq:(srt (atO xs j).k (atO xs j).sd != 2)=true:=Ju d
      have y:=zB (show rtF xs (sgs xs ts lo (n+1)) lo 0 none=some (i,sgT xs ts i) by
       rw[zA M];exact zN5 (yU (by simp only;rw[zA L,zA m,zA hb];exact⟨hl,d⟩)))
      have hk:=zB u;clear d hl u;go_wp2_with fail;go_region_held (fun w'=>w'.cell? (Qa w.heap.size 0)=some (.slice (some (Qa b off)) xs.length cap)/\w'.cell? (Qa w2.heap.size 0)=some (Qs (atO xs j).s)/\w'.cell? (Qa w2.heap.size 1)=some (Qi (atO xs j).k)/\w'.cell? (Qa w2.heap.size 2)=some (Qi (atO xs j).l)/\w'.cell? (Qa w2.heap.size 3)=some (Qi (atO xs j).sd)) (first|(go_keep;done)|exact Q)
       (first|(go_at_call 168;refine(f _ H).mono ?_;rintro e w3 ⟨rfl,hb3⟩;replace H:=zB (H.trans (hb3.mono H.size));replace Q:=zB (zGb hb3 Q);clear hb3)|(go_at_call 74;refine(zGO _ _ _ _ _).mono ?_;rintro e w4 ⟨rfl,hb4⟩;replace H:=zB (H.trans (hb4.mono H.size));replace Q:=zB (zGb hb4 Q);clear hb4))
      all_goals go_wp2_with fail
      all_goals refine⟨⟨n+1,Jo,by first|(rw[zA X];go_num)|(congr 1;have:=zA X;omega),by rw[zA y];rfl,by rw[zA Y],zB Q.1,H⟩,Ji⟩
    ·have u:¬ (atO xs j).l<(atO xs jb).l:=Jo;have hf:decide ((atO xs j).l<(atO xs jb).l)=false:=by rw[yW];exact u
     have hs:((atO xs j).l==(atO xs jb).l)=false:=Jq;have y:=zB (show rtF xs (sgs xs ts lo (n+1)) lo 0 none=some (x1,sgT xs ts x1) by
      rw[zA M];exact zQY (by simp only;rw[zA L,zA m];rintro(h|⟨h,_⟩);exact u h;omega))
     go_wp2_with fail;refine wp_region_held_drew (S:=(fun w'=>w'.cell? (Qa w.heap.size 0)=some (.slice (some (Qa b off)) xs.length cap)/\w'.cell? (Qa w2.heap.size 0)=some (Qs (atO xs j).s)/\w'.cell? (Qa w2.heap.size 1)=some (Qi (atO xs j).k)/\w'.cell? (Qa w2.heap.size 2)=some (Qi (atO xs j).l)/\w'.cell? (Qa w2.heap.size 3)=some (Qi (atO xs j).sd))) Jk Q (fun hHeld=>?_);refine tkH 0 hHeld ?_;refine tkH 1 hHeld ?_;refine tkH 2 hHeld ?_;refine tkH 3 hHeld ?_;refine tkH 4 hHeld ?_;refine tkH 5 hHeld ?_;refine tkH 6 hHeld ?_;refine tkH 7 hHeld ?_;refine tkH 8 hHeld ?_;refine yO (rs:=[9]) Jk Js ?_;refine yH rfl (fun K hK=>?_) yI;go_simp;go_call f _ H as e w3 ⟨rfl,hb3⟩;replace H:=zB (H.trans (hb3.mono H.size));replace Q:=zB (zGb hb3 Q);clear hb3 hHeld;refine hK.out _ _ Q (fun hHeld=>?_);clear hK;try simp only[Act.put,ye,yg,yh]
     refine tkH 10 hHeld ?_;refine tkH 11 hHeld ?_;refine tkH 12 hHeld ?_;refine tkH 13 hHeld ?_;refine tkH 14 hHeld ?_;refine tkH 15 hHeld ?_;refine tkH 16 hHeld ?_;refine tkH 17 hHeld ?_;refine tkH 18 hHeld ?_;refine tkH 19 hHeld ?_;refine yO (rs:=[20]) Jk Js ?_;refine yH rfl (fun K hK=>?_) yI;go_simp;go_call f _ H as e w3 ⟨rfl,hb3⟩;replace H:=zB (H.trans (hb3.mono H.size));replace Q:=zB (zGb hb3 Q);clear hb3 hHeld;refine hK.out _ _ Q (fun hHeld=>?_);clear hK;try simp only[Act.put,ye,yg,yh]
     refine tkH 21 hHeld ?_;refine tkH 22 hHeld ?_;refine tkH 23 hHeld ?_;refine tkU 24 hHeld ?_;refine tkU 25 hHeld ?_;refine tkU 26 hHeld ?_;refine tkH 27 hHeld ?_;refine tkH 28 hHeld ?_;refine wpAnyH_done Jk ?_ _;all_goals go_wp2_with fail
     all_goals refine⟨⟨n+1,Jo,by first|(rw[zA X];go_num)|(congr 1;have:=zA X;omega),by rw[zA y];rfl,by rw[zA Y],zB Q.1,H⟩,Ji⟩
  ·have N:¬ ((lo+n:Nat):Int)<(hi:Int):=Jo;have e:n=hi-lo:=Jo;subst e;go_wp2_with fail;go_ret;exact⟨rfl,q⟩
def BE(w:JY)(B b off gt ot gr:Nat)(xs:List OpR)(ts:List zU)(us:List Int):Prop:=Ops w b off xs/\b<B/\zDf w gt ot ts/\gt<B/\zTG w gr us/\gr<B/\B<=w.heap.size
theorem BE.grown{gt ot gr:Nat}{row:Option Nat}(h:BE w B b off gt ot gr xs ts us)(hg:w.grownBy w' row)(hr:∀k,row=some k->B<=k):BE w' B b off gt ot gr xs ts us:=by
 obtain⟨h1,h2,h3,h4,h5,h6,h7⟩:=h;have c:∀q,q<B->∀o,w'.cell? (Qa q o)=w.cell? (Qa q o):=fun q hq o=>zK hg (b:=q) Jo (fun e=>Jy (hr _ e)) o
 refine⟨zER h1 hg h2 h7 hr,h2,fun i hi=>?_,h4,⟨yl h5.1 hg.size,fun i hi=>(c _ h6 _).trans (h5.2 i hi)⟩,h6,yw h7 hg.size⟩;obtain⟨a0,a1,a2⟩:=h3 i hi;exact⟨(c _ h4 _).trans a0,(c _ h4 _).trans a1,(c _ h4 _).trans a2⟩
theorem BE.below{gt ot gr:Nat}(h:BE w B b off gt ot gr xs ts us)(hb:Qb w w'):BE w' B b off gt ot gr xs ts us:=h.grown (zE hb none) (fun k hk=>by cases hk)
structure TF(xs:List OpR)(ts:List zU)(us:List Int):Prop where
 len:ts.length<=100000
 us:us=Zs xs ts ts.length
 all:∀i,i<ts.length->TkF xs ts i/\1<=(atT ts i).k/\(atT ts i).k<=7/\(atT ts i).k≠6
def zAu(w:JY)(B:Nat)(u:Value)(us:List zD)(r:Option ET)(m:Nat)(x:Ending)(w':JY):Prop:=
 ∃u' vs ok,x=.returned (.tuple #[u',.bool ok])/\Hid (ZK w' B u' vs)/\Hid (w.grownBy w' u.ownBlock)/\Hid (u'.ownBlock=u.ownBlock\/∃k,u'.ownBlock=some k/\w.heap.size<=k)/\vs.length<=us.length+m /\
  Hid ((∃T,r=some T/\ok=true/\vs=us++nd T us.length)\/(r=none/\ok=false))
theorem zBq{cap gt ot ct gr cr lo hi:Nat}(hm:xs.length<=1048576)(hE:BE w B b off gt ot gr xs ts us)(hF:TF xs ts us)(h:lo<=hi)(H:hi<=ts.length){R:Int}(hR:zDv (rtF xs (sgs xs ts lo (hi-lo)) lo 0 none)=R):Calls prog 118 #[.agg #[.slice (some (Qa b off)) xs.length cap],.slice (some (Qa gt ot)) ts.length ct,Ql gr us.length cr,Qi lo,Qi hi] (w.alloc (.cells #[.slice (some (Qa b off)) xs.length cap] 63)) fun e w'=>e=.returned (Qi R)/\Below (w.alloc (.cells #[.slice (some (Qa b off)) xs.length cap] 63)).heap.size (w.alloc (.cells #[.slice (some (Qa b off)) xs.length cap] 63)) w':=by
 obtain⟨h1,h2,h3,h4,h5,h6,h7⟩:=hE.below (zC w (.cells #[.slice (some (Qa b off)) xs.length cap] 63));rw[<-hR];exact zPQ b off cap gt ot ct gr cr lo hi xs ts us _ hm h1 Jo h3 Jo h5 hF.us hF.len h H hF.all
theorem zU6(b off cap gt ot ct gr cr lo hi:Nat)(xs:List OpR)(ts:List zU)(us:List Int)(B:Nat)(u:Value)(ns:List zD)(w:JY)(hm:xs.length<=1048576)(hE:BE w B b off gt ot gr xs ts us)(hF:TF xs ts us)(l:lo<hi)(F:hi<=ts.length)(hR:zDv (rtF xs (sgs xs ts lo (hi-lo)) lo 0 none) = -1)(Y:ZK w B u ns)(g:ns.length<=90000)(hk:(atT ts lo).k=1\/(atT ts lo).k=2){T:ET}(hT:T=.node (atT ts lo).k.toNat 0 (atT ts lo).t .nil .nil)(i:1<=hi-lo):Calls prog 68 #[.agg #[.slice (some (Qa b off)) xs.length cap],.slice (some (Qa gt ot)) ts.length ct,Ql gr us.length cr,Qi lo,Qi hi,u] w (zAu w B u ns (some T) (hi-lo)):=by
 obtain⟨i0,f,c,d,D⟩:=zS zDK;have HI:=zB f;have HZ:=zB (yK c (yK d D));clear f c d D;have HX:=zBq (cap:=cap) (ct:=ct) (cr:=cr) hm hE hF Jo F hR;have G:(lo:Int)<(ts.length:Int):=Jo;have j:=zB (show nd T ns.length=[⟨(atT ts lo).k,(atT ts lo).t,0,0⟩] by
  rw[hT]
  rcases hk with e|e<;>rw[e]<;>rfl)
 obtain⟨h1,h2,h3,h4,h5,h6,h7⟩:=hE;obtain⟨k0,k1,k2⟩:=h3 lo Jo;have a:=zC w (.cells #[.slice (some (Qa b off)) xs.length cap] 63);have y:=zB Y;have I:=zB Y.base;obtain⟨a0,c0,hu⟩:=ZE Y;have C:gt<w.heap.size:=Jo;clear Y h1 h3 h5 hT hF hR;subst hu;obtain⟨u,hu⟩:=Jx (Value.slice a0 ns.length c0);have E:=zB (by rw[hu]:zAu w B (Value.slice a0 ns.length c0) ns (some T) (hi-lo)=zAu w B u ns (some T) (hi-lo));rw[zA E];have P:=zB hu;clear hu E;go_enter func68,ntmps68;go_wp2_with fail;refine HX.mono ?_;clear HX;rintro e w1 ⟨rfl,hb1⟩;have H:Qb w w1:=a.trans (hb1.mono a.size);have z1:w.heap.size+1<=w1.heap.size:=Jz hb1.size
 replace k0:=(H.cell (p:=(Qa gt (ot+lo*3))) C).trans k0;replace k2:=(H.cell (p:=(Qa gt (ot+lo*3+2))) C).trans k2;have L:gt<w1.heap.size:=Jo;have m:gt≠w1.heap.size:=Jo;clear hb1 k1 a;rcases hk with hk|hk
 ·have e4:((atT ts lo).k==4)=false:=by rw[hk];rfl
  have e2:((atT ts lo).k==2)=false:=by rw[hk];rfl
  have X:=zB (y.below H);have J:Hid (Qb w ((w1.alloc (.cells #[Qi 1,Qs (atT ts lo).t,Qi 0,Qi 0] 106)))):=H.alloc H.size _;rw[hk] at j;clear hk y;go_wp2_with (at_builtin;refine yL _ rfl (.tmp 65) (.tmp 67) 68 rfl B 106 i0 _ 4 40 underlying68 HI HZ.1 HZ.2.1 HZ.2.2 rfl Jd _ ns.length (zT ns) rfl ((X.below (zC _ _)).below (zC _ _)) (Qa (w1.heap.size+1) 0) 1 1 (zT [⟨1,(atT ts lo).t,0,0⟩]) rfl rfl (Ju (zAr (w1.alloc (.cells #[Qi 1,Qs (atT ts lo).t,Qi 0,Qi 0] 106)) (w1.heap.size+1) ⟨1,(atT ts lo).t,0,0⟩ Js)) (zj _) ?b1 ?b2 ?b3 ?next);case b1=>exact Jm
  case b2=>omega
  case b3=>first|omega|(simp;omega)
  case next=>
   intro v4 w4 q K x Q;have U:=zB (show ZK w4 B v4 (ns++nd T ns.length) by
    rw[zA j]
    unfold ZK
    rw[ze,yq]
    exact q)
   have V:=zB (by rw[zA P];exact zV (J.alloc J.size _) K:w.grownBy w4 u.ownBlock);have A:=zB (by rw[zA P];exact Q.imp id (fun h=>⟨_,h,by have:=H.size;first|omega|(simp;omega)⟩):v4.ownBlock=u.ownBlock\/∃k,v4.ownBlock=some k/\w.heap.size<=k);clear q K x Q;go_wp2_with fail;refine yN (v:=.tuple #[v4,.bool true]) (by simp[results,results68,go_sem]) rfl ⟨v4,ns++nd T ns.length,true,rfl,U,V,A,?_,zB (yS ⟨T,rfl,rfl,rfl⟩)⟩;rw[zA j,yq,List.length_singleton];omega
 ·have e4:((atT ts lo).k==4)=false:=by rw[hk];rfl
  have e2:((atT ts lo).k==2)=true:=by rw[hk];rfl
  have X:=zB (y.below H);have J:Hid (Qb w ((w1.alloc (.cells #[Qi 2,Qs (atT ts lo).t,Qi 0,Qi 0] 106)))):=H.alloc H.size _;rw[hk] at j;clear hk y;go_wp2_with (at_builtin;refine yL _ rfl (.tmp 65) (.tmp 67) 68 rfl B 106 i0 _ 4 40 underlying68 HI HZ.1 HZ.2.1 HZ.2.2 rfl Jd _ ns.length (zT ns) rfl ((X.below (zC _ _)).below (zC _ _)) (Qa (w1.heap.size+1) 0) 1 1 (zT [⟨2,(atT ts lo).t,0,0⟩]) rfl rfl (Ju (zAr (w1.alloc (.cells #[Qi 2,Qs (atT ts lo).t,Qi 0,Qi 0] 106)) (w1.heap.size+1) ⟨2,(atT ts lo).t,0,0⟩ Js)) (zj _) ?b1 ?b2 ?b3 ?next);case b1=>exact Jm
  case b2=>omega
  case b3=>first|omega|(simp;omega)
  case next=>
   intro v4 w4 q K x Q;have U:=zB (show ZK w4 B v4 (ns++nd T ns.length) by
    rw[zA j]
    unfold ZK
    rw[ze,yq]
    exact q)
   have V:=zB (by rw[zA P];exact zV (J.alloc J.size _) K:w.grownBy w4 u.ownBlock);have A:=zB (by rw[zA P];exact Q.imp id (fun h=>⟨_,h,by have:=H.size;first|omega|(simp;omega)⟩):v4.ownBlock=u.ownBlock\/∃k,v4.ownBlock=some k/\w.heap.size<=k);clear q K x Q;go_wp2_with fail;refine yN (v:=.tuple #[v4,.bool true]) (by simp[results,results68,go_sem]) rfl ⟨v4,ns++nd T ns.length,true,rfl,U,V,A,?_,zB (yS ⟨T,rfl,rfl,rfl⟩)⟩;rw[zA j,yq,List.length_singleton];omega
theorem zPR(hk:zY (b:Int)=1)(t:JZ)(T:ET)(ns:List zD):ns++nd (.node b 0 t T .nil) ns.length=(ns++nd T ns.length)++[⟨(b:Int),t,((ns++nd T ns.length).length:Int)-1,0⟩]:=by
 simp only[nd,tN,hk,yq,ZX];simp
theorem zWe(t:JZ)(L R:ET)(ns:List zD):ns++nd (.node 4 0 t L R) ns.length=((ns++nd L ns.length)++nd R (ns++nd L ns.length).length)++[⟨4,t,((ns++nd L ns.length).length:Int)-1,(((ns++nd L ns.length)++nd R (ns++nd L ns.length).length).length:Int)-1⟩]:=by
 have hk:zY ((4:Nat):Int)=2:=rfl;simp only[nd,tN,hk,yq,ZX];simp
theorem zTH(b off cap gt ot ct gr cr lo hi:Nat)(xs:List OpR)(ts:List zU)(us:List Int)(B:Nat)(u:Value)(ns:List zD)(w:JY)(hm:xs.length<=1048576)(hE:BE w B b off gt ot gr xs ts us)(hF:TF xs ts us)(F:lo+2<=hi)(A:hi<=ts.length)(hR:zDv (rtF xs (sgs xs ts lo (hi-lo)) lo 0 none) = -1)(Q:ZK w B u ns)(d:ns.length+(hi-lo)<=90000)(hk:(atT ts lo).k=4)(r1:Option ET)(hc:∀W,BE W B b off gt ot gr xs ts us->ZK W B u ns->Calls prog 68 #[.agg #[.slice (some (Qa b off)) xs.length cap],.slice (some (Qa gt ot)) ts.length ct,Ql gr us.length cr,Qi ((lo:Int)+1),Qi ((hi:Int)-1),u] W (zAu W B u ns r1 (hi-lo-2))):Calls prog 68 #[.agg #[.slice (some (Qa b off)) xs.length cap],.slice (some (Qa gt ot)) ts.length ct,Ql gr us.length cr,Qi lo,Qi hi,u] w (zAu w B u ns (r1.map (fun T=>.node 6 0 ByteArray.empty T .nil)) (hi-lo)):=by
 obtain⟨i0,P,Y,j,J⟩:=zS zDK;have HI:=zB P;have HZ:=zB (yK Y (yK j J));clear P Y j J;have HX:=zBq (cap:=cap) (ct:=ct) (cr:=cr) hm hE hF Jo A hR;have D:(lo:Int)<(ts.length:Int):=Jo;have E:ts.length<=100000:=hF.len;have HE:=zB hE;obtain⟨h1,h2,h3,h4,h5,h6,h7⟩:=hE;obtain⟨k0,k1,k2⟩:=h3 lo Jo;have X:=zC w (.cells #[.slice (some (Qa b off)) xs.length cap] 63);have V:=zB Q;have f:=zB Q.base;have HC:=zB hc;have U:gt<w.heap.size:=Jo;have e4:((atT ts lo).k==4)=true:=by rw[hk];rfl
 clear Q h1 h3 h5 hF hR hc hk;go_enter func68,ntmps68;go_wp2_with fail;refine HX.mono ?_;clear HX;rintro e w1 ⟨rfl,hb1⟩;have H:Qb w w1:=X.trans (hb1.mono X.size);have z1:w.heap.size+1<=w1.heap.size:=Jz hb1.size
 have t1:w1.cell? (Qa w.heap.size 0)=some (.slice (some (Qa b off)) xs.length cap):=Jc hb1 Jh Jg;replace k0:=(H.cell (p:=(Qa gt (ot+lo*3))) U).trans k0;have HX:=(zA HC) w1 (HE.below H) (V.below H);clear hb1 k1 k2 X HC;go_wp2_with fail;refine HX.mono ?_;clear HX;rintro e w2 ⟨u1,vs1,ok,rfl,HR2,HG2,HA2,hl2,HO2⟩;obtain⟨a1,c1,rfl⟩:=ZE HR2;have HG:=zB (zV H HG2);have HA:Hid ((Value.slice a1 vs1.length c1).ownBlock=u.ownBlock\/∃k,(Value.slice a1 vs1.length c1).ownBlock=some k/\w.heap.size<=k):=HA2.imp id (fun⟨k,h,h'⟩=>⟨k,h,Jo⟩);have z2:=HG2.size;clear HG2 HA2 t1 k0;go_wp2_with (at_builtin;refine yL _ rfl (.tmp 44) (.tmp 49) 68 rfl B 106 i0 _ 4 40 underlying68 HI HZ.1 HZ.2.1 HZ.2.2 rfl Jd _ vs1.length (zT vs1) rfl (HR2.below (zC _ _)) (Qa w2.heap.size 0) 1 1 (zT [⟨6,⟨#[]⟩,(vs1.length:Int)-1,0⟩]) rfl rfl (Ju (Zr w2 ⟨6,⟨#[]⟩,(vs1.length:Int)-1,0⟩)) (zj _) ?b1 ?b2 ?b3 ?next);case b1=>exact Jm
 case b2=>omega
 case b3=>first|omega|(simp;omega)
 case next=>
  intro v4 w4 q K y x;have c:=zB (show ZK w4 B v4 (vs1++[⟨6,⟨#[]⟩,(vs1.length:Int)-1,0⟩]) by
   unfold ZK
   rw[ze,yq]
   exact q)
  have a:=zB (zX HG (zV (zC w2 _) K) HA);have C:=zB (ZZ HG HA v4.ownBlock (x.imp id (fun h=>⟨_,h,by first|exact yk _|simp⟩)));clear q K y x;go_wp2_with fail;refine yN (v:=.tuple #[v4,.bool ok]) (by simp[results,results68,go_sem]) rfl ⟨v4,_,ok,rfl,c,a,C,?_,zB ?_⟩
  ·rw[yq,List.length_singleton];omega
  ·rcases zA HO2 with⟨T,rfl,rfl,rfl⟩|⟨rfl,rfl⟩
   ·exact yS ⟨_,rfl,rfl,(zPR (b:=6) rfl ByteArray.empty T ns).symm⟩
   ·exact yU ⟨rfl,rfl⟩
theorem zU7{a b:List zD}{i:Nat}(h:i<a.length):atN (a++b) i=atN a i:=by
 simp[atN,List.getD,List.getElem?_append,h]
theorem zF1{a:List zD}{o:zD}{b:List zD}{i:Nat}(h:i=a.length):atN (a++o::b) i=o:=by
 subst h;simp[atN,List.getD,List.getElem?_append]
theorem zU8(xs:List OpR)(b:Nat)(t:JZ)(l r:ET)(s:Nat):zAN xs (tN b t l r s)=sLv xs (b,t):=rfl
theorem zBP{T:ET}(hg:zn xs T)(ns rest:List zD)(hV:V=ns++nd T ns.length):1<=V.length/\zAN xs (atN (V++rest) (V.length-1))=lvT xs T/\(3<=(atN (V++rest) (V.length-1)).k->(atN (V++rest) (V.length-1)).k<=5->fnd xs (atN (V++rest) (V.length-1)).t ((atN (V++rest) (V.length-1)).k-2)≠none):=by
 cases T with
 |nil=>exact hg.elim
 |node b o t l r=>
  have e:V=(ns++nd l ns.length++nd r (ns.length+tsz l))++[tN b t l r ns.length]:=by
   rw[hV];simp[nd]
  have hl:V.length=(ns++nd l ns.length++nd r (ns.length+tsz l)).length+1:=by rw[e];simp;omega
  have H:atN (V++rest) (V.length-1)=tN b t l r ns.length:=by
   rw[zU7 Jo];have:V.length-1=(ns++nd l ns.length++nd r (ns.length+tsz l)).length:=Jo;rw[this];conv=>lhs;rw[e]
   exact zF1 rfl
  rw[H];refine⟨Jo,zU8 _ _ _ _ _ _,fun h3 h5=>?_⟩;have hk:knB xs (b,t)=true:=by
   obtain⟨rfl,h⟩:=hg;simp only[tN] at h3 h5;rcases h with⟨q,rfl,rfl⟩|⟨rfl,rfl,hl,rfl⟩|⟨K,hk,hl,rfl,hh⟩|⟨rfl,hk,hl,hr,h1,h2⟩
   ·omega
   ·omega
   ·exact hk
   ·exact hk
  unfold knB at hk;simp only[tN];intro e;rw[e] at hk;cases hk
theorem zMT{q:Nat}{j:Nat}(h:fnd xs t ((q:Int)-2)=some j)(b:Bool):zF6 xs j b=sH xs (q,t) b:=by
 unfold sH zh;simp only[rt];rw[h]
theorem zQZ{T:ET}{q:Nat}{j:Nat}(hg:zn xs T)(hq:q=3\/q=5)(hf:fnd xs t ((q:Int)-2)=some j)(ns:List zD)(hV:V=ns++nd T ns.length):zJF xs (V++[⟨(q:Int),t,(V.length:Int)-1,0⟩]) V.length↔zCJ xs q t T .nil=true:=by
 obtain⟨h1,h2,h3⟩:=zBP hg ns [⟨(q:Int),t,(V.length:Int)-1,0⟩] hV;have h:atN (V++[(⟨(q:Int),t,(V.length:Int)-1,0⟩:zD)]) V.length=⟨(q:Int),t,(V.length:Int)-1,0⟩:=zF1 rfl;have ho:Zh (atN (V++[(⟨(q:Int),t,(V.length:Int)-1,0⟩:zD)]) V.length):=by rw[h];unfold Zh;simp only;omega
 rw[zJi ho (by rw[h];exact hf),h];simp only;have e:((V.length:Int)-1).toNat=V.length-1:=Jo;rw[e,h2,zMT hf];unfold zCJ;have hk:zY (q:Int)=1:=by rcases hq with rfl|rfl<;>rfl
 have h4:q≠4:=Jo;simp[hk,h4]
theorem zU9{L R:ET}{j:Nat}(K:zn xs L)(Q:zn xs R)(hf:fnd xs t 2=some j)(ns:List zD){V2:List zD}(hV:V=ns++nd L ns.length)(k:V2=V++nd R V.length):zJF xs (V2++[⟨4,t,(V.length:Int)-1,(V2.length:Int)-1⟩]) V2.length↔zCJ xs 4 t L R=true:=by
 obtain⟨h1,h2,h3⟩:=zBP K ns (nd R V.length++[⟨4,t,(V.length:Int)-1,(V2.length:Int)-1⟩]) hV;obtain⟨g1,g2,g3⟩:=zBP Q V [⟨4,t,(V.length:Int)-1,(V2.length:Int)-1⟩] k;rw[<-yA,<-k] at h2;have h:atN (V2++[(⟨4,t,(V.length:Int)-1,(V2.length:Int)-1⟩:zD)]) V2.length=⟨4,t,(V.length:Int)-1,(V2.length:Int)-1⟩:=zF1 rfl;have ho:Zh (atN (V2++[(⟨4,t,(V.length:Int)-1,(V2.length:Int)-1⟩:zD)]) V2.length):=by rw[h];unfold Zh;simp only;omega
 have H:fnd xs t ((4:Int)-2)=some j:=hf;rw[zJi ho (by rw[h];exact H),h];simp only;have e:((V.length:Int)-1).toNat=V.length-1:=Jo;have e2:((V2.length:Int)-1).toNat=V2.length-1:=Jo;rw[e,e2,h2,g2,zMT (q:=4) H,zMT (q:=4) H];unfold zCJ;have hk:zY (4:Int)=2:=rfl;simp[hk]
end Go.Proofs.YtadiaghhackbjaaGreatDoor
