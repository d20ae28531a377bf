import Derived.Test.YtadiaghhackbjaaGreatDoorU00
namespace Go.Proofs.YtadiaghhackbjaaGreatDoor
set_option linter.all false
set_option maxHeartbeats 0
set_option maxRecDepth 100000
open Proofs.Tryz RowKit
variable{B U f g k n:Nat}{b l s sd t:ByteArray}{listed:Array Bool}{os:List OpR}{row:Option Nat}{u v v4 vo vu:Value}{us ws:List ByteArray}{w w' w1 w4:World}
theorem zAE(c:UInt8)(w:JY):Calls prog 173 #[.int .u8 (c.toNat:Int)] w fun e w'=>e=.returned (Qi (cls c:Int))/\w'=w:=by
 have h:=zLk c;go_enter func173,ntmps173;go_wp2_with (go_at_call 147;refine(zGK _ _).mono ?_;rintro e w' ⟨rfl,hx⟩;obtain rfl:=hx.symm);all_goals(go_ret;refine⟨zF ?_,rfl⟩;go_light;(try simp only[beq_iff_eq,yX,ne_eq] at *);unfold cls;(repeat' split)<;>(try simp_all)<;>(try omega))
def zCf(first:Nat)(c:UInt8):Bool:=decide (cls c=2\/(cls c=3/\first=3))
theorem zD1(first:Nat)(c:UInt8)(w:JY):Calls prog 174 #[Qi first,.int .u8 (c.toNat:Int)] w fun e w'=>e=.returned (.bool (zCf first c))/\w'=w:=by
 by_cases h2:cls c=2
 ·have HR:=zB (by simp[zCf,h2]:zCf first c=true);have HC:=zB (Jo:(cls c:Int)=2);clear h2;go_enter func174,ntmps174;go_wp2_with (go_at_call 173;refine(zAE _ _).mono ?_;rw[zA HC];rintro e w' ⟨rfl,hx⟩;obtain rfl:=hx.symm);go_ret;exact⟨zi HR.symm,rfl⟩
 by_cases h3:cls c=3
 ·have HC:=zB (Jo:(cls c:Int)=3);by_cases hf:first=3
  ·have HR:=zB (by simp[zCf,h3,hf]:zCf first c=true);subst hf;clear h2 h3;go_enter func174,ntmps174;go_wp2_with (go_at_call 173;refine(zAE _ _).mono ?_;rw[zA HC];rintro e w' ⟨rfl,hx⟩;obtain rfl:=hx.symm);go_ret;exact⟨zi HR.symm,rfl⟩
  ·have HR:=zB (by simp[zCf,h3,hf]:zCf first c=false);have k:((first:Int)==3)=false:=Jq;clear h2 h3 hf;go_enter func174,ntmps174;go_wp2_with (go_at_call 173;refine(zAE _ _).mono ?_;rw[zA HC];rintro e w' ⟨rfl,hx⟩;obtain rfl:=hx.symm);go_ret;exact⟨zi HR.symm,rfl⟩
 ·have HR:=zB (by simp[zCf,h2,h3]:zCf first c=false);have H:((cls c:Int)==2)=false:=Jq;have h:((cls c:Int)==3)=false:=Jq;clear h2 h3;go_enter func174,ntmps174;go_wp2_with (go_at_call 173;refine(zAE _ _).mono ?_;rintro e w' ⟨rfl,hx⟩;obtain rfl:=hx.symm);go_ret;exact⟨zi HR.symm,rfl⟩
theorem zPx(t:JZ):∀(n i:Nat)(r:List UInt8),n=t.size-i->r≠[]->ByteArray.toList.loop t i r≠[]
 |0,i,r,h,hr=>by
  unfold ByteArray.toList.loop;rw[yP Jo];simpa using hr
 |n+1,i,r,h,hr=>by
  unfold ByteArray.toList.loop;rw[yQ Jo];exact zPx t n (i+1) _ Jo Js
theorem zFt(h:t.size≠0):t.toList.isEmpty=false:=by
 rw[List.isEmpty_eq_false_iff];unfold ByteArray.toList ByteArray.toList.loop;rw[yQ Jo];exact zPx t (t.size-1) 1 _ rfl Js
theorem zFu(h:t.size=0):t=⟨#[]⟩:=by
 obtain⟨d⟩:=t;congr 1;exact Array.eq_empty_of_size_eq_zero h
theorem zQ{p:Prop}(h:¬ p):zE9 false p:=⟨fun e=>(by cases e),fun e=>yR e h⟩
theorem Zb{p:Prop}(h:p):zE9 true p:=⟨fun _=>h,fun _=>rfl⟩
def zF7(first:Nat)(s:JZ):Prop:=1<=s.size/\cls (bt s 0)=first/\∀j,j<s.size->zCf first (bt s j)=true
theorem zDN(first:Nat)(s:JZ)(w:JY)(hs:s.size<=maxLen):Calls prog 129 #[Qi first,Qs s] w fun e w'=>zBD e (zF7 first s)/\w'=w:=by
 unfold maxLen at hs;by_cases h0:s.size=0
 ·have HN:Hid (¬ zF7 first s):=fun h=>Jy h.1
  obtain rfl:=zFu h0;go_enter func129,ntmps129;go_wp2_with fail;go_ret;exact⟨⟨_,rfl,zQ HN⟩,rfl⟩
 have Q:=zFt h0;have X:(0:Int)<(s.size:Int):=Jo;have K:0<s.size:=Jo
 by_cases hc:cls (bt s 0)=first
 case neg=>
  have HN:Hid (¬ zF7 first s):=fun h=>hc h.2.1
  have hb:=ZQ K;have x:((cls s[0]:Int)!=(first:Int))=true:=by rw[hb];simp;omega
  clear hb;go_enter func129,ntmps129;go_wp2_with (go_at_call 173;refine(zAE _ _).mono ?_;rintro e w' ⟨rfl,hx⟩;obtain rfl:=hx.symm);go_ret;exact⟨⟨_,rfl,zQ HN⟩,rfl⟩
 have HC:=zB hc;have hb:=ZQ K;have HX:=zB (by rw[hb];omega:(cls s[0]:Int)=(first:Int));clear hb hc;go_enter func129,ntmps129;go_wp2_with (go_at_call 173;refine(zAE _ _).mono ?_;rw[zA HX];rintro e w' ⟨rfl,hx⟩;obtain rfl:=hx.symm);go_loop [17] (fun i=>∃k:Nat,k<=s.size/\i=Qi k/\Hid (∀j,j<k->zCf first (bt s j)=true)) (fun i=>s.size-(intOf i).toNat);case atStart=>exact⟨0,ym _,rfl,zB (fun j h=>Jo)⟩
 case round=>
  obtain⟨k,hk,rfl,hn⟩:=hrel;by_cases H:k<s.size
  ·have q:(k:Int)<(s.size:Int):=Jo;cases hb:zCf first s[k]
   ·have Hb:=zB (by rw[<-ZQ H];exact hb:zCf first (bt s k)=false);go_wp2_with (go_at_call 174;refine(zD1 _ _ _).mono ?_;rintro e w' ⟨rfl,hx⟩;obtain rfl:=hx.symm);go_ret;exact⟨⟨_,rfl,zQ (fun h=>by have:=h.2.2 k H;rw[zA Hb] at this;cases this)⟩,rfl⟩
   ·have Hb:=zB (by rw[<-ZQ H];exact hb:zCf first (bt s k)=true);go_wp2_with (go_at_call 174;refine(zD1 _ _ _).mono ?_;rintro e w' ⟨rfl,hx⟩;obtain rfl:=hx.symm);refine⟨⟨k+1,Jo,Jn,zB (fun j hj=>?_)⟩,Ji⟩;by_cases e:j=k
    ·subst e;exact Hb
    ·exact hn j Jo
  ·go_wp2_with fail;go_ret;exact⟨⟨_,rfl,Zb ⟨Jo,HC,fun j hj=>hn j Jo⟩⟩,rfl⟩
theorem zPy(s:JZ):zF7 2 s↔zGI s:=by
 unfold zF7 zGI zCf;constructor
 ·rintro⟨h1,h2,h3⟩;refine⟨h1,fun j hj=>?_⟩;have:=h3 j hj;simpa using this
 ·rintro⟨h1,h2⟩;exact⟨h1,h2 0 Jo,fun j hj=>by simp[h2 j hj]⟩
theorem zLs(s:JZ):zF7 3 s↔zBr s:=by
 unfold zF7 zBr zCf;constructor
 ·rintro⟨h1,h2,h3⟩;refine⟨h1,fun j hj=>?_⟩;have:=h3 j hj;simp at this;by_cases e:j=0
  ·subst e;exact yS h2
  ·omega
 ·rintro⟨h1,h2⟩;refine⟨h1,?_,fun j hj=>?_⟩
  ·have:=h2 0 Jo;omega
  ·have:=h2 j hj;simp;omega
theorem Zw{l:List UInt8}(h:(t.toList==l)=true):t=⟨l.toArray⟩:=by
 have h:t.toList=l:=Ju h
 rw[yF] at h;obtain⟨d⟩:=t;subst h;simp
theorem ZI{l:List UInt8}(h:(t.toList==l)=false):t≠⟨l.toArray⟩:=fun e=>by
 subst e;simp[yF] at h
theorem zGS{l:List UInt8}(h:t≠⟨l.toArray⟩):(t.toList==l)=false:=by
 cases e:(t.toList==l)
 ·rfl
 ·exact yR (Zw e) h
def zDO(w:JZ):Int:=if w=zAl then 1 else if w=zBj then 2 else if w=Z9 then 3 else 0
theorem zOq(t:JZ)(w:JY):Calls prog 82 #[Qs t] w fun e w'=>e=.returned (Qi (Z2 t))/\w'=w:=by
 cases q1:(t.toList==[108,101,102,116])
 ·cases q2:(t.toList==[114,105,103,104,116])
  ·cases q3:(t.toList==[110,111,110,101])
   ·have HR:=zB (by unfold Z2 zFE zDC zFF;rw[yP (ZI q1),yP (ZI q2),yP (ZI q3)]:Z2 t=0);go_enter func82,ntmps82;go_wp2;go_ret;exact⟨zF HR.symm,rfl⟩
   ·have HR:=zB (by unfold Z2 zFE zDC zFF;rw[yP (ZI q1),yP (ZI q2),yQ (Zw q3)]:Z2 t=3);go_enter func82,ntmps82;go_wp2;go_ret;exact⟨zF HR.symm,rfl⟩
  ·have HR:=zB (by unfold Z2 zFE zDC zFF;rw[yP (ZI q1),yQ (Zw q2)]:Z2 t=2);go_enter func82,ntmps82;go_wp2;go_ret;exact⟨zF HR.symm,rfl⟩
 ·have HR:=zB (by unfold Z2 zFE zDC zFF;rw[yQ (Zw q1)]:Z2 t=1);go_enter func82,ntmps82;go_wp2;go_ret;exact⟨zF HR.symm,rfl⟩
theorem zJI(t:JZ)(w:JY):Calls prog 155 #[Qs t] w fun e w'=>e=.returned (Qi (Z2 t))/\w'=w:=by
 cases q1:(t.toList==[108,101,102,116])
 ·cases q2:(t.toList==[114,105,103,104,116])
  ·cases q3:(t.toList==[110,111,110,101])
   ·have HR:=zB (by unfold Z2 zFE zDC zFF;rw[yP (ZI q1),yP (ZI q2),yP (ZI q3)]:Z2 t=0);go_enter func155,ntmps155;go_wp2;go_ret;exact⟨zF HR.symm,rfl⟩
   ·have HR:=zB (by unfold Z2 zFE zDC zFF;rw[yP (ZI q1),yP (ZI q2),yQ (Zw q3)]:Z2 t=3);go_enter func155,ntmps155;go_wp2;go_ret;exact⟨zF HR.symm,rfl⟩
  ·have HR:=zB (by unfold Z2 zFE zDC zFF;rw[yP (ZI q1),yQ (Zw q2)]:Z2 t=2);go_enter func155,ntmps155;go_wp2;go_ret;exact⟨zF HR.symm,rfl⟩
 ·have HR:=zB (by unfold Z2 zFE zDC zFF;rw[yQ (Zw q1)]:Z2 t=1);go_enter func155,ntmps155;go_wp2;go_ret;exact⟨zF HR.symm,rfl⟩
theorem zJJ(t:JZ)(w:JY):Calls prog 154 #[Qs t] w fun e w'=>e=.returned (Qi (zDO t))/\w'=w:=by
 cases q1:(t.toList==[112,114,101,102,105,120])
 ·cases q2:(t.toList==[105,110,102,105,120])
  ·cases q3:(t.toList==[112,111,115,116,102,105,120])
   ·have HR:=zB (by unfold zDO zAl zBj Z9;rw[yP (ZI q1),yP (ZI q2),yP (ZI q3)]:zDO t=0);go_enter func154,ntmps154;go_wp2;go_ret;exact⟨zF HR.symm,rfl⟩
   ·have HR:=zB (by unfold zDO zAl zBj Z9;rw[yP (ZI q1),yP (ZI q2),yQ (Zw q3)]:zDO t=3);go_enter func154,ntmps154;go_wp2;go_ret;exact⟨zF HR.symm,rfl⟩
  ·have HR:=zB (by unfold zDO zAl zBj Z9;rw[yP (ZI q1),yQ (Zw q2)]:zDO t=2);go_enter func154,ntmps154;go_wp2;go_ret;exact⟨zF HR.symm,rfl⟩
 ·have HR:=zB (by unfold zDO zAl zBj Z9;rw[yQ (Zw q1)]:zDO t=1);go_enter func154,ntmps154;go_wp2;go_ret;exact⟨zF HR.symm,rfl⟩
def zFN(t:JZ):Bool:=decide (t.size<=6)&&zT8 t
def zJK(t:JZ):Int:=if zFN t=true then(zAY t t.size:Int) else -1
theorem zEE(t:JZ):zFN t=true↔zRn t:=by
 unfold zFN zRn;rw[Bool.and_eq_true,Z8,decide_eq_true_iff];unfold zGI;constructor
 ·rintro⟨h1,h2,h3⟩;exact⟨h2,h1,fun i hi=>(zEa _).1 (h3 i hi)⟩
 ·rintro⟨h1,h2,h3⟩;exact⟨h2,h1,fun i hi=>(zEa _).2 (h3 i hi)⟩
theorem zE4(t:JZ)(w:JY)(hs:t.size<=maxLen):Calls prog 152 #[Qs t] w fun e w'=>e=.returned (.bool (zFN t))/\w'=w:=by
 by_cases h6:t.size<=6
 ·have h:(t.size:Int)<=6:=Jo;have HE:=zB (show ∀v,zE9 v (zF7 2 t)->v=zFN t from fun v hv=>by
   have:(v=true↔zFN t=true):=by
    rw[zEE]
    unfold zE9 at hv
    rw[hv,zPy]
    unfold zGI zRn
    constructor
    ·rintro⟨a,b⟩;exact⟨a,h6,fun i hi=>(zEa _).1 (b i hi)⟩
    ·rintro⟨a,_,b⟩;exact⟨a,fun i hi=>(zEa _).2 (b i hi)⟩
   exact Bool.eq_iff_iff.2 this)
  go_enter func152,ntmps152;go_wp2_with (go_at_call 129;refine(zDN 2 _ _ hs).mono ?_;rintro e w' ⟨⟨v,rfl,hv⟩,hx⟩;obtain rfl:=hx.symm;have HV:=zB hv;clear hv);go_ret;exact⟨zi (HE _ HV),rfl⟩
 ·have h:¬ (t.size:Int)<=6:=Jo;have HE:=zB (by unfold zFN;simp[h6]:zFN t=false);unfold maxLen at hs;go_enter func152,ntmps152;go_wp2;go_ret;exact⟨zi HE.symm,rfl⟩
theorem zFO(t:JZ)(w:JY)(hs:t.size<=maxLen):Calls prog 81 #[Qs t] w fun e w'=>e=.returned (Qi (zJK t))/\w'=w:=by
 by_cases hn:zGI t;case neg=>
  have HR:=zB (show zJK t = -1 by
   unfold zJK
   rw[yP]
   rw[zEE]
   exact fun h=>hn ⟨h.1,fun i hi=>(zEa _).2 (h.2.2 i hi)⟩)
  have HN:=zB hn;clear hn;go_enter func81,ntmps81;go_wp2_with (go_at_call 126;refine(zBE _ _ hs).mono ?_;rintro e w' ⟨⟨v,rfl,hv⟩,hx⟩;obtain rfl:=hx.symm;obtain rfl:v=false:=(by cases v;rfl;exact yR (hv.1 rfl) HN);clear hv);go_ret;exact⟨zF HR.symm,rfl⟩
 by_cases h6:t.size<=6;case neg=>
  have X:(6:Int)<(t.size:Int):=Jo;have HR:=zB (show zJK t = -1 by
   unfold zJK zFN
   simp[h6])
  have HN:=zB hn;have Q:=hs;unfold maxLen at Q;clear hn;go_enter func81,ntmps81;go_wp2_with (go_at_call 126;refine(zBE _ _ hs).mono ?_;rintro e w' ⟨⟨v,rfl,hv⟩,hx⟩;obtain rfl:=hx.symm;obtain rfl:v=true:=(by cases v;exact(hv.2 HN);rfl);clear hv);go_ret;exact⟨zF HR.symm,rfl⟩
 have X:(t.size:Int)<=6:=Jo;have H:∀i,i<t.size->48<=(bt t i).toNat/\(bt t i).toNat<=57:=fun i hi=>(zEa _).1 (hn.2 i hi)
 have K:∀k,k<=t.size->zAY t k<1000000:=fun k hk=>by
  have h:=zI0 t H k hk;have h2:10 ^ k<=10 ^ 6:=Nat.pow_le_pow_right Jd Jo;omega
 have HR:=zB (show zJK t=(zAY t t.size:Int) by
  unfold zJK
  rw[yQ]
  rw[zEE]
  exact⟨hn.1,h6,H⟩)
 have HD:=zB H;have HV:=zB K;have HN:=zB hn;clear hn H K;go_enter func81,ntmps81;go_wp2_with (go_at_call 126;refine(zBE _ _ hs).mono ?_;rintro e w' ⟨⟨v,rfl,hv⟩,hx⟩;obtain rfl:=hx.symm;obtain rfl:v=true:=(by cases v;exact(hv.2 HN);rfl);clear hv);go_loop [3,4] (fun x i=>∃k:Nat,k<=t.size/\i=Qi k/\x=Qi (zAY t k:Int)) (fun _ i=>t.size-(intOf i).toNat);case atStart=>exact⟨0,ym _,rfl,rfl⟩
 case round=>
  obtain⟨k,hk,rfl,rfl⟩:=hrel;by_cases q:k<t.size
  ·have y:(k:Int)<(t.size:Int):=Jo;have h1:=(zA HV) k hk;obtain⟨d1,d2⟩:=(zA HD) k q;have hb:=ZQ q;rw[<-hb] at d1 d2;have HB:=zB hb;have d1I:(48:Int)<=(t[k].toNat:Int):=Jo;have d2I:(t[k].toNat:Int)<=57:=Jo;have Y:(zAY t k:Int)<1000000:=Jo;have j:(0:Int)<=(zAY t k:Int):=Jo;clear hb;go_wp2;refine⟨⟨k+1,Jo,Jn,?_⟩,Ji⟩;simp only[zAY];rw[<-zA HB];go_num
  ·have HK:=zB (Jo:k=t.size);go_wp2;go_ret;exact⟨zF (by rw[zA HR,zA HK]),rfl⟩
def zIU(s:JZ)(k f:Nat)(us:List JZ):Prop:=
 (k<=s.size/\f<=k/\(∀j,f<=j->j<k->bt s j≠32)/\us++zCx s f=wds s)\/(k=s.size+1/\us=wds s)
theorem zIU.start(s:JZ):zIU s 0 0 []:=yS ⟨ym _,yk _,fun j h1 h2=>Jo,rfl⟩
theorem zIU.skip(h:zIU s k f us)(hk:k<s.size)(hb:bt s k≠32):zIU s (k+1) f us:=by
 rcases h with⟨h1,h2,h3,h4⟩|⟨h1,_⟩
 ·refine yS ⟨Jo,Jo,fun j j1 j2=>?_,h4⟩;by_cases e:j=k
  ·subst e;exact hb
  ·exact h3 j j1 Jo
 ·omega
def zNI(s:JZ)(f k:Nat)(us:List JZ):List ByteArray:=us++(if f<k then[s.extract f k] else[])
theorem zR4(h:f<k):zNI s f k us=us++[s.extract f k]:=by unfold zNI;rw[yQ h]
theorem zUJ(h:¬ f<k):zNI s f k us=us:=by unfold zNI;rw[yP h];simp
theorem zIU.put(h:zIU s k f us)(hk:k<=s.size)(hb:k=s.size\/bt s k=32):zIU s (k+1) (k+1) (zNI s f k us):=by
 rcases h with⟨h1,h2,h3,h4⟩|⟨h1,_⟩
 ·have hx:nx 32 s f=k:=zHV Jo h2 h1 h3 (fun hl=>hb.elim (fun e=>Jo) (fun e=>e));rw[zCy s f Jo,hx] at h4;unfold zNI;by_cases hl:k<s.size
  ·rw[yQ hl,<-yA] at h4;exact yS ⟨Jo,yk _,fun j j1 j2=>Jo,h4⟩
  ·rw[yP hl,List.append_nil] at h4;exact yU ⟨Jo,h4⟩
 ·omega
theorem zIU.fin(h:zIU s k f us)(hk:¬ k<=s.size):us=wds s:=by
 rcases h with⟨h1,_⟩|⟨_,h⟩
 ·omega
 ·exact h
theorem zOr(w:JY):Ze (w.alloc (.cells #[] 9)) w.heap.size (Ql w.heap.size 0 0) []:=by
 have:=yG (base:=w.heap.size) (e:=9) (size:=1) w #[] 0 (yk _) (ym _) rfl;simpa[Ze,ZM] using this
def zPz(w:JY)(s:JZ)(e:Ending)(w':JY):Prop:=∃v,e=.returned v/\Ze w' w.heap.size v (wds s)/\(wds s).length<=s.size+1/\Qb w w'
theorem zNJ(s:JZ)(w:JY)(hs:s.size<=1000000):Calls prog 80 #[Qs s] w (zPz w s):=by
 obtain⟨i0,c,u,U,b⟩:=zS zEd;have HI:=zB c;have HZ:=zB (yK u (yK U b));clear c u U b;have HE:=zB (zOr w);go_enter func80,ntmps80;go_wp2;go_loopw [3,4,5] (fun D fr i wr=>∃(k f:Nat)(us:List JZ)(v:Value),k<=s.size+1/\f<=k/\i=Qi k/\fr=Qi f/\D=v/\us.length<=k/\Hid (zIU s k f us)/\Hid (Ze wr w.heap.size v us)/\Qb w wr) (fun _ _ i _=>s.size+1-(intOf i).toNat);case atStart=>exact⟨0,0,[],_,ym _,yk _,rfl,rfl,rfl,ym _,zB (zIU.start s),HE,zC _ _⟩
 case round=>
  clear HE;obtain⟨k,f,us,v,hk,hf,rfl,rfl,rfl,E,HW,HR,H⟩:=hrel;by_cases B:k<=s.size
  ·have a:(k:Int)<=(s.size:Int):=Jo;by_cases K:k=s.size\/bt s k=32
   ·have HP:=zB (HW.put B K);have y:((k:Int)==(s.size:Int))=true\/(((k:Int)==(s.size:Int))=false/\∃(h:k<s.size),((s[k].toNat:Int)==32)=true):=by
     by_cases e:k=s.size
     ·left;simp[e]
     ·right;have Q:k<s.size:=Jo;refine⟨Jq,Q,?_⟩;have hb:bt s k=32:=K.elim (fun h=>yR h e) (fun h=>h);rw[ZQ Q,hb];rfl
    clear K;by_cases V:f<k
    ·have P:(f:Int)<(k:Int):=Jo;have F:(f:Int)<=(s.size:Int):=Jo;have Y:=zB (zR4 (s:=s) (us:=us) V);rcases y with hc|⟨hc,Q,C⟩;all_goals
      try have j:(k:Int)<(s.size:Int):=Jo
      go_wp2_with (at_builtin;refine yL _ rfl (.tmp 26) (.tmp 31) 87 rfl w.heap.size 9 i0 _ 1 16 underlying87 HI HZ.1 HZ.2.1 HZ.2.2 rfl Jd _ us.length (ZM us) rfl (HR.below (zC _ _)) (Qa wr.heap.size 0) 1 1 (ZM [s.extract f k]) rfl rfl (Ju (zAz wr (s.extract f k))) (Z3 _) ?b1 ?b2 ?b3 ?next)
      case b1=>exact Jm
      case b2=>omega
      case b3=>have:=H.size;simp;omega
      case next=>
       intro v4 w4 X x J A;have HO:=zB (show Ze w4 w.heap.size v4 (zNI s f k us) by
        rw[zA Y]
        unfold Ze
        rw[Zg,yq]
        exact X)
       have d:(zNI s f k us).length<=k+1:=by rw[zA Y];simp;omega
       have p:Qb w w4:=(H.alloc H.size _).grown x (by have:=H.size;simp;omega) (fun q hq=>(HR.lt q hq).1);clear X x J A;go_wp2;exact⟨⟨k+1,k+1,_,_,Jo,yk _,Jn,Jn,rfl,d,HP,HO,p⟩,Ji⟩
    ·have P:¬ (f:Int)<(k:Int):=Jo;have Y:=zB (zUJ (s:=s) (us:=us) V);rcases y with hc|⟨hc,Q,C⟩;all_goals
      try have j:(k:Int)<(s.size:Int):=Jo
      go_wp2
      refine⟨⟨k+1,k+1,us,_,Jo,yk _,Jn,Jn,rfl,Jo,?_,HR,H⟩,Ji⟩
      have:=zA HP
      rw[zA Y] at this
      exact zB this
   ·have Q:k<s.size:=Jo;have j:(k:Int)<(s.size:Int):=Jo;have hb:bt s k≠32:=fun e=>K (yU e)
    have HP:=zB (HW.skip Q hb);have hc:((k:Int)==(s.size:Int))=false:=Jq;have C:((s[k].toNat:Int)==32)=false:=by
     rw[ZQ Q];simp only[yX,ne_eq];intro e;exact hb (UInt8.toNat_inj.1 (Ju (Jo:(bt s k).toNat=32)))
    clear hb K;go_wp2;exact⟨⟨k+1,f,us,_,Jo,Jo,Jn,rfl,rfl,Jo,HP,HR,H⟩,Ji⟩
  ·have a:¬ (k:Int)<=(s.size:Int):=Jo;have HF:=zB (HW.fin B);go_wp2;go_ret;have e:=zA HF;subst e;exact⟨_,rfl,HR,Jo,H⟩
def ZO(w:JY)(v:Value)(ws:List JZ):Prop:=∃a c,v=.slice a ws.length c/\(ws.length=0\/∃g,a=some (Qa g 0)/\g<w.heap.size/\∀(j:Nat) x,ws[j]?=some x->w.cell? (Qa g j)=some (Qs x))
theorem Ze.strs(h:Ze w B v ws):ZO w v ws:=by
 obtain⟨a,c,rfl⟩:=zR h;refine⟨a,c,rfl,?_⟩;have h':=h;obtain⟨_,⟨h1,h2⟩|⟨g,cap,H,h1,_⟩⟩:=h'
 ·exact yS h2
 ·simp only[Value.slice.injEq] at h1;obtain⟨rfl,_,rfl⟩:=h1;exact yU ⟨g,rfl,(h.lt g rfl).2,fun j x hj=>by have:=h.cells j x hj;simpa using this⟩
theorem ZO.grown(h:ZO w v ws)(hg:w.grownBy w' row)(H:∀g,v.ownBlock=some g->row≠some g):ZO w' v ws:=by
 obtain⟨a,c,rfl,h⟩:=h;refine⟨a,c,rfl,h.imp id ?_⟩;rintro⟨g,rfl,h1,h2⟩;exact⟨g,rfl,yl h1 hg.size,fun j x hj=>(zK hg h1 (H g rfl) j).trans (h2 j x hj)⟩
theorem ZO.below(h:ZO w v ws)(hb:Qb w w'):ZO w' v ws:=
 h.grown (row:=none) (zE hb none) (fun g _ e=>by cases e)
theorem ZO.lt(h:ZO w v ws)(h1:1<=ws.length):∃g c,v = Ql g ws.length c/\g<w.heap.size/\∀(j:Nat) x,ws[j]?=some x->w.cell? (Qa g j)=some (Qs x):=by
 obtain⟨a,c,rfl,h|⟨g,rfl,h2,h3⟩⟩:=h
 ·omega
 ·exact⟨g,c,rfl,h2,h3⟩
structure LnR where
 wv:Value
 f:Nat
 t:Nat
def atL(ls:List LnR)(i:Nat):LnR:=ls.getD i ⟨.slice none 0 0,0,0⟩
def zAd(zs:List LnR):List Value:=zs.flatMap fun x=>[x.wv,Qi (x.f:Int),Qi (x.t:Int)]
theorem zJL(xs ys:List LnR):zAd (xs++ys)=zAd xs++zAd ys:=by simp[zAd]
theorem zJM:∀(zs:List LnR)(i:Nat),i<zs.length->(zAd zs)[i*3]?=some (atL zs i).wv/\(zAd zs)[i*3+1]?=some (Qi ((atL zs i).f:Int))/\(zAd zs)[i*3+2]?=some (Qi ((atL zs i).t:Int))
 |[],i,h=>yR h (yx i)
 |o::r,0,_=>⟨rfl,rfl,rfl⟩
 |o::r,i+1,h=>by
  have ih:=zJM r i (Ju h);have e:∀j,(zAd (o::r))[(i+1)*3+j]?=(zAd r)[i*3+j]?:=fun j=>by
   have:(i+1)*3+j=(i*3+j)+3:=Jo;rw[this];rfl
  exact⟨(e 0).trans ih.1,(e 1).trans ih.2.1,(e 2).trans ih.2.2⟩
theorem zWE:(prog.info? 112).map (fun i=>(i.zero,i.size,i.bytes))=some (some (.agg #[.slice none 0 0,Qi 0,Qi 0]),3,40):=Jk
theorem zOs(w:JY)(x:LnR):∀j u,(zAd [x])[j]?=some u->(w.alloc (.cells #[x.wv,Qi (x.f:Int),Qi (x.t:Int)] 112)).cell? ((Qa w.heap.size 0).add j)=some u:=by
 intro j u hj;rw[Addr.add_mid];have:=yC (w:=w.alloc (.cells #[x.wv,Qi (x.f:Int),Qi (x.t:Int)] 112)) (b:=w.heap.size) (heap_alloc_new w _) 0 3;exact this j u (by simpa[zAd] using hj)
def zIV(w:JY)(B:Nat)(u:Value)(ls:List LnR):Prop:=w.ownsRow B 112 3 u ls.length (zAd ls)
theorem zIV.below{us:List LnR}(h:zIV w B u us)(hb:Qb w w'):zIV w' B u us:=
 World.ownsRow.kept h (zE hb none) (by cases u.ownBlock with
 |none=>exact yS rfl
 |some k=>exact yU Js)
theorem zIV.lt{w:JY}{B:Nat}{u:Value}{us:List LnR}(h:zIV w B u us):∀g,u.ownBlock=some g->B<=g/\g<w.heap.size:=fun g hg=>World.ownsRow.lt h g hg
def zQu(w:JY)(g:Nat)(ls:List LnR):Prop:=∀i,i<ls.length->w.cell? (Qa g (i*3))=some (atL ls i).wv/\w.cell? (Qa g (i*3+1))=some (Qi ((atL ls i).f:Int))/\w.cell? (Qa g (i*3+2))=some (Qi ((atL ls i).t:Int))
theorem zQu.below{ls:List LnR}(h:zQu w g ls)(hb:Below B w w')(hB:g<B):zQu w' g ls:=fun i hi=>by
 obtain⟨h0,h1,h2⟩:=h i hi;exact⟨Jc hb hB h0,Jc hb hB h1,Jc hb hB h2⟩
theorem zIV.ops{c:Nat}{us:List LnR}(h:zIV w B (Ql g us.length c) us):zQu w g us:=fun i hi=>by
 obtain⟨c0,c1,c2⟩:=zJM us i hi;have e:=fun j (hj:j<3)=>World.ownsRow.cellAt h (i*3+j) Jo
 exact⟨Ju ((e 0 Jo).trans c0),Ju ((e 1 Jo).trans c1),Ju ((e 2 Jo).trans c2)⟩
def zNK(w:JY)(s:JZ)(v:Value)(ls:List LnR):Prop:=∀l∈ls,ZO w l.wv (wds (s.extract l.f l.t))/\∀g,l.wv.ownBlock=some g->v.ownBlock≠some g/\g<w.heap.size
theorem zNK.step{nv:Value}{ls:List LnR}{t:Nat}(h:zNK w s v ls)(hb:Qb w w1)(hv:∀g,v.ownBlock=some g->g<w.heap.size)(hn:ZO w1 nv (wds (s.extract f t)))(H:∀g,nv.ownBlock=some g->w.heap.size<=g/\g<w1.heap.size)(hg:w1.grownBy w4 v.ownBlock)(q:v4.ownBlock=v.ownBlock\/∃k,v4.ownBlock=some k/\w1.heap.size<=k):zNK w4 s v4 (ls++[⟨nv,f,t⟩]):=by
 have K:∀g,g<w1.heap.size->v.ownBlock≠some g->v4.ownBlock≠some g:=fun g h1 h2 e=>by
  rcases q with h|⟨k,h,hk⟩
  ·exact h2 (h.symm.trans e)
  ·rw[h] at e;injection e with e;omega
 have hz:=hb.size;have Q:=hg.size;intro l hl;rcases List.mem_append.1 hl with hl|hl
 ·obtain⟨h1,h2⟩:=h l hl;refine⟨(h1.below hb).grown hg (fun g e=>(h2 g e).1),fun g e=>⟨K g ?_ (h2 g e).1,?_⟩⟩
  ·have:=(h2 g e).2;omega
  ·have:=(h2 g e).2;omega
 ·simp only[List.mem_singleton] at hl;subst hl;have hx:∀g,nv.ownBlock=some g->v.ownBlock≠some g:=fun g e e2=>by
   have:=hv g e2;have:=(H g e).1;omega
  refine⟨hn.grown hg hx,fun g e=>⟨K g (H g e).2 (hx g e),?_⟩⟩;have:=(H g e).2;omega
def zAO(n:Nat)(k t l sd:JZ):Option OpR:=
 if zFN l=true then
  (
   if k=zAl/\n=3 then some ⟨t,1,(zAY l l.size:Int),0⟩
   else if k=Z9/\n=3 then some ⟨t,3,(zAY l l.size:Int),0⟩
   else if k=zBj/\n=4/\Z2 sd≠0 then some ⟨t,2,(zAY l l.size:Int),Z2 sd⟩ else none)
 else none
theorem zJN(t:JZ):Z2 t=0\/Z2 t=1\/Z2 t=2\/Z2 t=3:=by
 unfold Z2;split
 ·exact yU (yS rfl)
 ·split
  ·exact yU (yU (yS rfl))
  ·split
   ·exact yU (yU (yU rfl))
   ·exact yS rfl
theorem zNL(h:3<=ws.length):∃k t l r,ws=k::t::l::r:=by
 match ws,h with
 |k::t::l::r,_=>exact⟨k,t,l,r,rfl⟩
theorem zR5{k:JZ}{r:List JZ}(hr:r=[]\/∃r',r=sd::r'):(∀o,zAO (r.length+3) k t l sd=some o->OpW (k::t::l::r) o)/\(zAO (r.length+3) k t l sd=none->∀o,¬ OpW (k::t::l::r) o):=by
 unfold zAO;constructor
 ·intro o h;split at h
  ·rename_i hl;have hL:=(zEE l).1 hl;split at h
   ·rename_i hk;injection h with h;have:r=[]:=jd.1 Jo;subst this;exact⟨k,t,l,hL,yS ⟨rfl,yS ⟨hk.1,h.symm⟩⟩⟩
   ·split at h
    ·rename_i hk;injection h with h;have:r=[]:=jd.1 Jo;subst this;exact⟨k,t,l,hL,yS ⟨rfl,yU ⟨hk.1,h.symm⟩⟩⟩
    ·split at h
     ·rename_i hk;injection h with h;rcases hr with rfl|⟨r',rfl⟩
      ·simp at hk
      ·have:r'=[]:=jd.1 (by have h9:=hk.2.1;simp only[yy] at h9;omega);subst this;exact⟨k,t,l,hL,yU ⟨sd,rfl,hk.1,hk.2.2,h.symm⟩⟩
     ·cases h
  ·cases h
 ·rintro h o ⟨k',t',l',hL,h2⟩;have H:=fun(e:l=l')=>(zEE l).2 (e ▸ hL)
  rcases h2 with⟨e,h2⟩|⟨sd',e,h2,h3,h4⟩
  ·simp only[List.cons.injEq] at e;obtain⟨rfl,rfl,rfl,rfl⟩:=e;rw[yQ (H rfl)] at h;rcases h2 with⟨hk,_⟩|⟨hk,_⟩
   ·rw[yQ ⟨hk,rfl⟩] at h;cases h
   ·rw[yP (fun x=>by rw[hk] at x;exact yR x.1 Jd),yQ ⟨hk,rfl⟩] at h;cases h
  ·simp only[List.cons.injEq] at e;obtain⟨rfl,rfl,rfl,rfl⟩:=e;have:sd=sd':=by
    rcases hr with h|⟨r',h⟩
    ·cases h
    ·simp only[List.cons.injEq] at h;exact h.1.symm
   subst this;rw[yQ (H rfl),yP (fun x=>by rw[h2] at x;exact yR x.1 Jd),yP (fun x=>by rw[h2] at x;exact yR x.1 Jd),yQ ⟨h2,rfl,h3⟩] at h;cases h
def zEo(w:JY)(b:Nat)(o:OpR):Prop:=
 (w.cell? (Qa b 0)=some (Qs o.s)/\w.cell? (Qa b 1)=some (Qi o.k)/\w.cell? (Qa b 2)=some (Qi o.l)/\w.cell? (Qa b 3)=some (Qi o.sd)) /\
  (w.frozen? (Qa b 0)=false/\w.frozen? (Qa b 1)=false/\w.frozen? (Qa b 2)=false/\w.frozen? (Qa b 3)=false)
theorem zEo.below{b:Nat}{o:OpR}(h:zEo w b o)(hb:Below B w w')(hB:b<B):zEo w' b o:=by
 obtain⟨⟨h0,h1,h2,h3⟩,g0,g1,g2,g3⟩:=h;have e:=fun j=>hb.cell (p:=Qa b j) hB
 have f:=fun j=>hb.frozen (p:=Qa b j) hB
 exact⟨⟨(e 0).trans h0,(e 1).trans h1,(e 2).trans h2,(e 3).trans h3⟩,(f 0).trans g0,(f 1).trans g1,(f 2).trans g2,(f 3).trans g3⟩
def zLt(w:JY)(n:Nat)(k t l sd:JZ)(e:Ending)(w':JY):Prop:=
 ∃(o:OpR)(v:Bool),e=.returned (.tuple #[.agg #[Qs o.s,Qi o.k,Qi o.l,Qi o.sd],.bool v])/\((v=true/\zAO n k t l sd=some o)\/(v=false/\zAO n k t l sd=none))/\Qb w w'
theorem zNM{k:JZ}(h:zFN l=false):zAO n k t l sd=none:=by
 unfold zAO;rw[h];rfl
theorem zJO{k:JZ}(h:zFN l=true)(hk:k=zAl):zAO n k t l sd=if n=3 then some ⟨t,1,(zAY l l.size:Int),0⟩ else none:=by
 subst hk;unfold zAO;rw[yQ h];by_cases hn:n=3
 ·rw[yQ ⟨rfl,hn⟩,yQ hn]
 ·rw[yP (fun x=>hn x.2),yP (fun x=>hn x.2),yP (fun x=>yR x.1 Jd),yP hn]
theorem zH8{k:JZ}(h:zFN l=true)(hk:k=Z9):zAO n k t l sd=if n=3 then some ⟨t,3,(zAY l l.size:Int),0⟩ else none:=by
 subst hk;unfold zAO;rw[yQ h];by_cases hn:n=3
 ·rw[yP (fun x=>yR x.1 Jd),yQ ⟨rfl,hn⟩,yQ hn]
 ·rw[yP (fun x=>hn x.2),yP (fun x=>hn x.2),yP (fun x=>yR x.1 Jd),yP hn]
theorem zK2{k:JZ}(h:zFN l=true)(hk:k=zBj):zAO n k t l sd=if n=4/\Z2 sd≠0 then some ⟨t,2,(zAY l l.size:Int),Z2 sd⟩ else none:=by
 subst hk;unfold zAO;rw[yQ h,yP (fun x=>yR x.1 Jd),yP (fun x=>yR x.1 Jd)];by_cases hn:n=4/\Z2 sd≠0
 ·rw[yQ ⟨rfl,hn⟩,yQ hn]
 ·rw[yP (fun x=>hn x.2),yP hn]
theorem zK3{k:JZ}(h1:k≠zAl)(h2:k≠Z9)(h3:k≠zBj):zAO n k t l sd=none:=by
 unfold zAO;split
 ·rw[yP (fun x=>h1 x.1),yP (fun x=>h2 x.1),yP (fun x=>h3 x.1)]
 ·rfl
structure zJ(w w':JY)(g:Nat):Prop where
 os:w'.os=w.os
 tape:w'.tape=w.tape
 output:w'.output=w.output
 size:w.heap.size<=w'.heap.size
 block:∀i,i<w.heap.size->i≠g->w'.heap[i]?=w.heap[i]?
theorem zJ.refl(w:JY)(g:Nat):zJ w w g:=⟨rfl,rfl,rfl,yk _,fun _ _ _=>rfl⟩
theorem zJ.trans{w w1 w2:JY}{g:Nat}(h:zJ w w1 g)(h':zJ w1 w2 g):zJ w w2 g:=
 ⟨h'.os.trans h.os,h'.tape.trans h.tape,h'.output.trans h.output,yw h.size h'.size,fun i hi a=>(h'.block i (yl hi h.size) a).trans (h.block i hi a)⟩
theorem zJ.of_below(h:Qb w w'):zJ w w' g:=⟨h.os,h.tape,h.output,h.size,fun i hi _=>h.block i hi⟩
theorem zJ.cell{w w':JY}{g:Nat}(h:zJ w w' g){b:Nat}(hb:b<w.heap.size)(h1:b≠g)(o:Nat):w'.cell? (Qa b o)=w.cell? (Qa b o):=
 yu (w:=w) (h.block b hb h1)
theorem zJ.frozen{w w':JY}{g:Nat}(h:zJ w w' g){b:Nat}(hb:b<w.heap.size)(h1:b≠g)(o:Nat):w'.frozen? (Qa b o)=w.frozen? (Qa b o):=
 yD (w:=w) (h.block b hb h1)
theorem zJ.below(h:zJ w w' g)(hB:B<=w.heap.size)(h1:B<=g):Below B w w':=
 ⟨h.os,h.tape,h.output,h.size,fun i hi=>h.block i Jo Jo⟩
theorem zBH{g:Nat}:∀(vs:List Value)(o:Nat)(w:JY),zJ w (w.setCells g o vs) g
 |[],_,w=>zJ.refl w g
 |v::r,o,w=>(show zJ w (w.setCell (Qa g o) v) g from⟨rfl,rfl,rfl,Jt,fun _ _ hi=>je _ _ _ _ hi⟩).trans (zBH r (o+1) _)
theorem zv(h:zJ w w' g):w.grownBy w' (some g):=⟨h.os,h.tape,h.output,h.size,fun i hi e=>h.block i hi (fun x=>e (by rw[x]))⟩
def zAo(w:JY)(B:Nat)(v:Value)(os:List OpR):Prop:=w.ownsRow B 33 4 v os.length (zl os)
theorem zAo.grown{us:List OpR}(h:zAo w B u us)(hg:w.grownBy w' row)(H:∀k,u.ownBlock=some k->row≠some k):zAo w' B u us:=
 World.ownsRow.kept h hg (by
  cases e:u.ownBlock with
  |none=>exact yS rfl
  |some k=>exact yU (fun x=>H k e x.symm))
theorem zAo.below{us:List OpR}(h:zAo w B u us)(hb:Qb w w'):zAo w' B u us:=
 h.grown (row:=none) (zE hb none) (fun k _ e=>by cases e)
theorem zAo.lt{w:JY}{B:Nat}{u:Value}{us:List OpR}(h:zAo w B u us):∀g,u.ownBlock=some g->B<=g/\g<w.heap.size:=fun g hg=>World.ownsRow.lt h g hg
structure UnM(w:JY)(B U:Nat)(vu vo:Value)(us:List JZ)(os:List OpR)(b:JZ):Prop where
 c0:w.cell? (Qa U 0)=some vu
 c1:w.cell? (Qa U 1)=some vo
 c2:w.cell? (Qa U 2)=some (Qs b)
 fz:∀o,w.frozen? (Qa U o)=false
 hB:B<=U
 ru:Ze w B vu us
 ro:zAo w B vo os
 nu:vu.ownBlock≠some U
 no:vo.ownBlock≠some U
 ne:∀g,vu.ownBlock=some g->vo.ownBlock≠some g
theorem UnM.lt(h:UnM w B U vu vo us os b):U<w.heap.size:=World.block_lt_of_cell? _ _ h.c0
theorem UnM.below{w w':JY}{B U:Nat}{vu vo:Value}{us:List JZ}{os:List OpR}{b:JZ}(h:UnM w B U vu vo us os b)(hb:Qb w w'):UnM w' B U vu vo us os b:=
 ⟨Jc hb h.lt h.c0,Jc hb h.lt h.c1,Jc hb h.lt h.c2,fun o=>(hb.frozen (p:=Qa U o) h.lt).trans (h.fz o),h.hB,h.ru.below hb,h.ro.below hb,h.nu,h.no,h.ne⟩
theorem ZW(h:w.grownBy w' row){b:Nat}(hb:b<w.heap.size)(H:row≠some b)(o:Nat):w'.frozen? (Qa b o)=w.frozen? (Qa b o):=
 yD (w:=w) (h.block b hb (fun e=>H e.symm))
theorem ZJ(W:JY)(p o:Nat)(V:Value):W.grownBy (W.setCell (Qa p o) V) (some p):=
 ⟨rfl,rfl,rfl,Jt,fun i _ hi=>je _ _ _ _ (fun e=>hi (by rw[e]))⟩
theorem UnM.keep(h:UnM w B U vu vo us os b)(hb:Qb w w1)(hv:v=vu\/v=vo)(hg:w1.grownBy w4 v.ownBlock):(∀o,w4.cell? (Qa U o)=w.cell? (Qa U o))/\(∀o,w4.frozen? (Qa U o)=false):=by
 have hl:=h.lt;have H:v.ownBlock≠some U:=by
  rcases hv with rfl|rfl
  ·exact h.nu
  ·exact h.no
 have k:U<w1.heap.size:=yl hl hb.size;exact⟨fun o=>(zK hg k H o).trans (hb.cell (p:=Qa U o) hl),fun o=>(ZW hg k H o).trans ((hb.frozen (p:=Qa U o) hl).trans (h.fz o))⟩
theorem zR6{H:Nat}(h:v4.ownBlock=v.ownBlock\/∃k,v4.ownBlock=some k/\H<=k)(hv:v.ownBlock≠some U)(hU:U<H):v4.ownBlock≠some U:=fun e=>by
 rcases h with h|⟨k,hk,K⟩
 ·exact hv (h.symm.trans e)
 ·rw[hk] at e;injection e with e;omega
theorem UnM.putU{us':List JZ}(h:UnM w B U vu vo us os b)(hb:Qb w w1)(hg:w1.grownBy w4 vu.ownBlock)(hr:Ze w4 B v4 us')(H:v4.ownBlock=vu.ownBlock\/∃k,v4.ownBlock=some k/\w1.heap.size<=k):UnM (w4.setCell ⟨U,0,none⟩ v4) B U v4 vo us' os b/\Below B w (w4.setCell ⟨U,0,none⟩ v4):=by
 obtain⟨kc,kf⟩:=h.keep hb (yS rfl) hg;have hl:=h.lt;have hz:=hb.size;have K:=h.hB;have X:=fun k e=>(h.ru.lt k e)
 have Q:=fun k e=>(h.ro.lt k e)
 have h4:=zR6 H h.nu Jo;have q:zAo w4 B vo os:=(h.ro.below hb).grown hg (fun k e1 e2=>h.ne k e2 e1);have y:Below B w w4:=(hb.mono Jo).grown hg Jo (fun k e=>(X k e).1);refine⟨⟨yt _ _ _ ((kc 0).trans h.c0),(yj _ _ _ _ Js).trans ((kc 1).trans h.c1),(yj _ _ _ _ Js).trans ((kc 2).trans h.c2),fun o=>(yv _ _ _ _).trans (kf o),K,hr.grown (ZJ _ U 0 _) (fun k e x=>h4 (e.trans x.symm)),q.grown (ZJ _ U 0 _) (fun k e x=>h.no (e.trans x.symm)),h4,h.no,fun g e e2=>?_⟩,y.setCell (p:=⟨U,0,none⟩) K _⟩;rcases H with H|⟨k,hk,Y⟩
 ·exact h.ne g (H.symm.trans e) e2
 ·rw[hk] at e;injection e with e;have:=(Q g e2).2;omega
theorem UnM.putO{os':List OpR}(h:UnM w B U vu vo us os b)(hb:Qb w w1)(hg:w1.grownBy w4 vo.ownBlock)(hr:zAo w4 B v4 os')(H:v4.ownBlock=vo.ownBlock\/∃k,v4.ownBlock=some k/\w1.heap.size<=k):UnM (w4.setCell ⟨U,1,none⟩ v4) B U vu v4 us os' b/\Below B w (w4.setCell ⟨U,1,none⟩ v4):=by
 obtain⟨kc,kf⟩:=h.keep hb (yU rfl) hg;have hl:=h.lt;have hz:=hb.size;have K:=h.hB;have X:=fun k e=>(h.ru.lt k e)
 have Q:=fun k e=>(h.ro.lt k e)
 have h4:=zR6 H h.no Jo;have q:Ze w4 B vu us:=(h.ru.below hb).grown hg (fun k e1 e2=>h.ne k e1 e2);have y:Below B w w4:=(hb.mono Jo).grown hg Jo (fun k e=>(Q k e).1);refine⟨⟨(yj _ _ _ _ Js).trans ((kc 0).trans h.c0),yt _ _ _ ((kc 1).trans h.c1),(yj _ _ _ _ Js).trans ((kc 2).trans h.c2),fun o=>(yv _ _ _ _).trans (kf o),K,q.grown (ZJ _ U 1 _) (fun k e x=>h.nu (e.trans x.symm)),hr.grown (ZJ _ U 1 _) (fun k e x=>h4 (e.trans x.symm)),h.nu,h4,fun g e e2=>?_⟩,y.setCell (p:=⟨U,1,none⟩) K _⟩;rcases H with H|⟨k,hk,Y⟩
 ·exact h.ne g e (H.symm.trans e2)
 ·rw[hk] at e2;injection e2 with e2;have:=(X g e).2;omega
def zOt(w:JY)(ws:List JZ)(e:Ending)(w':JY):Prop:=
 ∃(o:OpR)(v:Bool),e=.returned (.tuple #[.agg #[Qs o.s,Qi o.k,Qi o.l,Qi o.sd],.bool v])/\((v=true/\OpW ws o)\/(v=false/\∀o',¬ OpW ws o'))/\Qb w w'
theorem zP0(F:FuncId)(v:Value)(ws:List JZ)(w:JY)(hs:ZO w v ws)(hz:∀x∈ws,x.size<=maxLen)(few:∀(a:Option Addr)(c n:Nat)(w:JY),n<3->Calls prog F #[.slice a n c] w fun e w'=>(∃o:OpR,e=.returned (.tuple #[.agg #[Qs o.s,Qi o.k,Qi o.l,Qi o.sd],.bool false]))/\Qb w w')(core:∀(g c n:Nat)(k t l sd:JZ)(w:JY),3<=n->l.size<=maxLen->w.cell? (Qa g 0)=some (Qs k)->w.cell? (Qa g 1)=some (Qs t)->w.cell? (Qa g 2)=some (Qs l)->(4<=n->w.cell? (Qa g 3)=some (Qs sd))->Calls prog F #[Ql g n c] w (zLt w n k t l sd)):Calls prog F #[v] w (zOt w ws):=by
 by_cases h3:ws.length<3
 ·obtain⟨a,c,rfl,_⟩:=hs;go_call few a c ws.length w h3 as e w' ⟨⟨o,rfl⟩,hb⟩;exact⟨o,false,rfl,yU ⟨rfl,fun o' ho=>Jy ho.len⟩,hb⟩
 ·obtain⟨g,c,rfl,hg,hc⟩:=hs.lt Jo;obtain⟨k,t,l,r,rfl⟩:=zNL (Jo:3<=ws.length);obtain⟨sd,H⟩:∃sd,r=[]\/∃r',r=sd::r':=by
   cases r with
   |nil=>exact⟨ByteArray.empty,yS rfl⟩
   |cons x r'=>exact⟨x,yU ⟨r',rfl⟩⟩
  have K:(k::t::l::r).length=r.length+3:=rfl;obtain⟨a1,a2⟩:=zR5 (k:=k) (t:=t) (l:=l) H;rw[K];refine(core g c (r.length+3) k t l sd w Jo (hz l Js) (hc 0 k rfl) (hc 1 t rfl) (hc 2 l rfl) (fun h4=>hc 3 sd ?_)).mono ?_
  ·rcases H with rfl|⟨r',rfl⟩
   ·simp at h4
   ·rfl
  ·rintro e w' ⟨o,v,rfl,h,hb⟩;refine⟨o,v,rfl,?_,hb⟩;rcases h with⟨rfl,h⟩|⟨rfl,h⟩
   ·exact yS ⟨rfl,a1 o h⟩
   ·exact yU ⟨rfl,a2 h⟩
def plc(ls:List LnR):List (Nat×Nat):=ls.map fun l=>(l.f,l.t)
theorem zOu(a b:List LnR):plc (a++b)=plc a++plc b:=by simp[plc]
def zIW(s:JZ)(k f:Nat)(ps:List (Nat×Nat)):Prop:=
 (k<=s.size/\f<=k/\(∀j,f<=j->j<k->bt s j≠10)/\ps++pcs 10 s f=pcs 10 s 0)\/(k=s.size+1/\ps=pcs 10 s 0)
theorem zIW.start(s:JZ):zIW s 0 0 []:=yS ⟨ym _,yk _,fun j h1 h2=>Jo,rfl⟩
theorem zIW.skip{us:List (Nat×Nat)}(h:zIW s k f us)(hk:k<s.size)(hb:bt s k≠10):zIW s (k+1) f us:=by
 rcases h with⟨h1,h2,h3,h4⟩|⟨h1,_⟩
 ·refine yS ⟨Jo,Jo,fun j j1 j2=>?_,h4⟩;by_cases e:j=k
  ·subst e;exact hb
  ·exact h3 j j1 Jo
 ·omega
theorem zIW.put{us:List (Nat×Nat)}(h:zIW s k f us)(hk:k<=s.size)(hb:k=s.size\/bt s k=10):f<=k/\zIW s (k+1) (k+1) (us++[(f,k)]):=by
 rcases h with⟨h1,h2,h3,h4⟩|⟨h1,_⟩
 ·refine⟨h2,?_⟩;have hx:nx 10 s f=k:=zHV Jo h2 h1 h3 (fun hl=>hb.elim (fun e=>Jo) (fun e=>e));rw[zAw 10 s f Jo,hx] at h4;by_cases hl:k<s.size
  ·rw[yQ hl] at h4;exact yS ⟨Jo,yk _,fun j j1 j2=>Jo,Ju h4⟩
  ·rw[yP hl] at h4;exact yU ⟨Jo,h4⟩
 ·omega
theorem zIW.fin{us:List (Nat×Nat)}(h:zIW s k f us)(hk:¬ k<=s.size):us=pcs 10 s 0:=by
 rcases h with⟨h1,_⟩|⟨_,h⟩
 ·omega
 ·exact h
theorem zOv(w:JY):zIV (w.alloc (.cells #[] 112)) w.heap.size (Ql w.heap.size 0 0) []:=by
 have:=yG (base:=w.heap.size) (e:=112) (size:=3) w #[] 0 (yk _) (ym _) rfl;simpa[zIV,zAd] using this
def zUK(w:JY)(s:JZ)(e:Ending)(w':JY):Prop:=∃(g c:Nat)(ls:List LnR),e=.returned (Ql g ls.length c)/\w.heap.size<=g/\g<w'.heap.size/\Hid (zQu w' g ls)/\Hid (∀l∈ls,ZO w' l.wv (wds (s.extract l.f l.t)))/\Hid (plc ls=pcs 10 s 0)/\ls.length<=s.size+1/\Qb w w'
theorem zH9(s:JZ)(w:JY)(hs:s.size<=1000000):Calls prog 47 #[Qs s] w (zUK w s):=by
 obtain⟨i0,d,U,a,B⟩:=zS zWE;have HI:=zB d;have HZ:=zB (yK U (yK a B));clear d U a B;have HE:=zB (zOv w);go_enter func47,ntmps47;go_wp2;go_loopw [3,4,5] (fun G fr i wr=>∃(k f g c:Nat)(ls:List LnR),k<=s.size+1/\f<=k/\i=Qi k/\fr=Qi f/\G = Ql g ls.length c/\ls.length<=k/\Hid (zIW s k f (plc ls))/\Hid (zIV wr w.heap.size (Ql g ls.length c) ls)/\Hid (zNK wr s (Ql g ls.length c) ls)/\Qb w wr) (fun _ _ i _=>s.size+1-(intOf i).toNat);case atStart=>exact⟨0,0,w.heap.size,0,[],ym _,yk _,rfl,rfl,rfl,ym _,zB (zIW.start s),HE,zB (fun l hl=>by cases hl),zC _ _⟩
 case round=>
  clear HE;obtain⟨k,f,g,c,ls,hk,hf,rfl,rfl,rfl,L,HW,HR,HL,H⟩:=hrel;by_cases C:k<=s.size
  ·have A:(k:Int)<=(s.size:Int):=Jo;by_cases Q:k=s.size\/bt s k=10
   ·obtain⟨I,hp⟩:=HW.put C Q;have HP:=zB hp;have J:((k:Int)==(s.size:Int))=true\/(((k:Int)==(s.size:Int))=false/\∃(h:k<s.size),((s[k].toNat:Int)==10)=true):=by
     by_cases e:k=s.size
     ·left;simp[e]
     ·right;have x:k<s.size:=Jo;refine⟨Jq,x,?_⟩;have hb:bt s k=10:=Q.elim (fun h=>yR h e) (fun h=>h);rw[ZQ x,hb];rfl
    clear Q hp;have M:(f:Int)<=(k:Int):=Jo;have E:(s.extract f k).size<=1000000:=by rw[Za];omega
    have hg:=(HR.lt g rfl).2;rcases J with hc|⟨hc,x,F⟩;all_goals
     try have D:(k:Int)<(s.size:Int):=Jo
     go_wp2_with fail
     go_call zNJ (s.extract f k) _ E as e w1 ⟨nv,rfl,hr1,hl1,hb1⟩
     obtain⟨a1,c1,rfl⟩:=zR hr1
     have HN:=zB hr1.strs
     have b:=zB (fun q e=>hr1.lt q e)
     have y:=zB hb1
     have z1:=hb1.size
     clear hr1 hb1
     go_wp2_with (at_builtin;refine yL _ rfl (.tmp 23) (.tmp 32) 107 rfl w.heap.size 112 i0 _ 3 40 underlying107 HI HZ.1 HZ.2.1 HZ.2.2 rfl Jd _ ls.length (zAd ls) rfl ((HR.below y).below (zC _ _)) (Qa w1.heap.size 0) 1 1 (zAd [⟨.slice a1 (wds (s.extract f k)).length c1,f,k⟩]) rfl rfl (Ju (zOs w1 ⟨.slice a1 (wds (s.extract f k)).length c1,f,k⟩)) (fun u hu=>by simp[zAd] at hu;rcases hu with rfl|rfl|rfl<;>rfl) ?b1 ?b2 ?b3 ?next)
     case b1=>exact Jm
     case b2=>omega
     case b3=>have:=H.size;simp;omega
     case next=>
      intro v4 w4 X K p Y;have HO:=zB (show zIV w4 w.heap.size v4 (ls++[⟨.slice a1 (wds (s.extract f k)).length c1,f,k⟩]) by
       unfold zIV
       rw[zJL,yq]
       exact X)
      have V:=zB (zNK.step HL (y.alloc z1 _) (fun q e=>by have e':g=q:=(by simpa[Value.ownBlock] using e);omega) (HN.below (zC _ _)) (fun q e=>by have:=(zA b) q e;simp;omega) K (Y.imp id (fun h=>⟨_,h,Js⟩)));have P:Qb w w4:=((H.trans (y.mono H.size)).alloc (Jy H.size) _).grown K (by have:=H.size;simp;omega) (fun q hq=>(HR.lt q hq).1);obtain⟨g4,c4,rfl⟩:∃g4 c4,v4 = Ql g4 (ls++[(⟨.slice a1 (wds (s.extract f k)).length c1,f,k⟩:LnR)]).length c4:=by
       have h:=zA HO;obtain⟨_,⟨_,h2⟩|⟨g',cap,m,h1,_⟩⟩:=h
       ·simp at h2
       ·exact⟨g',cap,h1⟩
      obtain⟨v,j⟩:∃v,Hid (v=ls++[(⟨.slice a1 (wds (s.extract f k)).length c1,f,k⟩:LnR)]):=⟨_,zB rfl⟩;have e4:=zA j;rw[<-e4] at HO V;rw[<-e4];clear e4 X K p Y HN b y HR HL;go_wp2;refine⟨⟨k+1,k+1,g4,c4,v,Jo,yk _,Jn,Jn,rfl,?_,?_,HO,V,P⟩,Ji⟩
      ·rw[zA j];simp;omega
      ·have:=zA HP;rw[zA j,zOu];exact zB this
   ·have x:k<s.size:=Jo;have D:(k:Int)<(s.size:Int):=Jo;have hb:bt s k≠10:=fun e=>Q (yU e)
    have HP:=zB (HW.skip x hb);have hc:((k:Int)==(s.size:Int))=false:=Jq;have F:((s[k].toNat:Int)==10)=false:=by
     rw[ZQ x];simp only[yX,ne_eq];intro e;exact hb (UInt8.toNat_inj.1 (Ju (Jo:(bt s k).toNat=10)))
    clear hb Q;go_wp2;exact⟨⟨k+1,f,g,c,ls,Jo,Jo,Jn,rfl,rfl,Jo,HP,HR,HL,H⟩,Ji⟩
  ·have A:¬ (k:Int)<=(s.size:Int):=Jo;have HF:=zB (HW.fin C);go_wp2;go_ret;have hg:=HR.lt g rfl;exact⟨g,c,ls,rfl,hg.1,hg.2,zB HR.ops,zB (fun l hl=>(HL l hl).1),HF,Jo,H⟩
theorem zB8(c:UInt8)(w:JY):Calls prog 70 #[.int .u8 (c.toNat:Int)] w fun e w'=>e=.returned (.bool (decide (cls c=3)))/\w'=w:=by
 go_enter func70,ntmps70;go_wp2;all_goals(go_ret;refine⟨zi ?_,rfl⟩;go_light;rw[Bool.eq_iff_iff];simp[zT7]<;>omega)
theorem zEp(s:JZ)(w:JY)(hs:s.size<=maxLen):Calls prog 39 #[Qs s] w fun e w'=>zBD e (zBr s)/\w'=w:=by
 unfold maxLen at hs;go_enter func39,ntmps39;go_wp2;go_loop [3] (fun i=>∃k:Nat,k<=s.size/\i=Qi k/\Hid (∀j,j<k->(cls (bt s j)=3\/(j≠0/\cls (bt s j)=2)))) (fun i=>s.size-(intOf i).toNat);case atStart=>exact⟨0,ym _,rfl,zB (fun j h=>Jo)⟩
 case round=>
  obtain⟨k,hk,rfl,hn⟩:=hrel;by_cases H:k<s.size
  ·have y:=zB (ZQ H);have no:(¬ cls (bt s k)=3)->(k=0\/¬ cls (bt s k)=2)->∀v,v=false->zE9 v (zBr s):=fun h1 h2 v hv=>by
    subst hv;refine⟨fun h=>(by cases h),fun h=>?_⟩;have:=h.2 k H;omega
   have NO:=zB no;clear no;cases hb:decide (cls s[k]=3)
   ·have K:=zB (by rw[ZQ H] at hb;simpa using hb:¬ cls (bt s k)=3);by_cases Q:k=0
    ·subst Q;go_wp2_with (go_at_call 70;refine(zB8 _ _).mono ?_;rintro e w' ⟨rfl,rfl⟩);go_ret;exact⟨⟨_,rfl,NO K (yS trivial) _ rfl⟩,rfl⟩
    ·have x:((k:Int)==0)=false:=Jq;cases hd:decide (cls s[k]=2)
     ·have q:=zB (by rw[ZQ H] at hd;simpa using hd:¬ cls (bt s k)=2);go_wp2_with (first|(go_at_call 70;refine(zB8 _ _).mono ?_;rintro e w' ⟨rfl,rfl⟩)|(go_at_call 71;refine(zCb _ _).mono ?_;rintro e w' ⟨rfl,rfl⟩));go_ret;exact⟨⟨_,rfl,NO K (yU q) _ rfl⟩,rfl⟩
     ·have q:=zB (by rw[ZQ H] at hd;simpa using hd:cls (bt s k)=2);go_wp2_with (first|(go_at_call 70;refine(zB8 _ _).mono ?_;rintro e w' ⟨rfl,rfl⟩)|(go_at_call 71;refine(zCb _ _).mono ?_;rintro e w' ⟨rfl,rfl⟩));refine⟨⟨k+1,Jo,Jn,zB (fun j hj=>?_)⟩,Ji⟩;by_cases e:j=k
      ·subst e;exact yU ⟨Q,q⟩
      ·exact hn j Jo
   ·have K:=zB (by rw[ZQ H] at hb;simpa using hb:cls (bt s k)=3);go_wp2_with (go_at_call 70;refine(zB8 _ _).mono ?_;rintro e w' ⟨rfl,rfl⟩);refine⟨⟨k+1,Jo,Jn,zB (fun j hj=>?_)⟩,Ji⟩;by_cases e:j=k
    ·subst e;exact yS K
    ·exact hn j Jo
  ·by_cases h1:1<=s.size
   ·have X:(1:Int)<=(s.size:Int):=Jo;go_wp2;go_ret;exact⟨⟨_,rfl,⟨fun _=>⟨h1,fun j hj=>hn j Jo⟩,fun _=>Jq⟩⟩,rfl⟩
   ·go_wp2;go_ret;exact⟨⟨decide (0<s.size),rfl,⟨fun h=>yR (of_decide_eq_true h) Jo,fun h=>yR h.1 h1⟩⟩,rfl⟩
theorem zIA(c:UInt8)(w:JY):Calls prog 112 #[.int .u8 (c.toNat:Int)] w fun e w'=>e=.returned (.bool (decide (cls c=1)))/\w'=w:=by
 go_enter func112,ntmps112;go_wp2;all_goals(go_ret;refine⟨zi ?_,rfl⟩;go_light;(try simp only[beq_iff_eq,yX,ne_eq] at *);rw[Bool.eq_iff_iff];simp[zQm]<;>omega)
theorem zBm(b H cap:Nat)(xs:List OpR)(t:JZ)(kd:Int)(w:JY)(hm:xs.length<=1048576)(hw:Ops w b H xs)(hB:b<w.heap.size):Calls prog 121 #[.agg #[.slice (some (Qa b H)) xs.length cap],Qs t,Qi kd] w fun e w'=>(∃r:Int,e=.returned (Qi r)/\(0<=r↔∃j,j<xs.length/\(atO xs j).s=t/\(atO xs j).k=kd))/\Qb w w':=by
 go_enter func121,ntmps121;go_wp2;have K:Ops (w.alloc (.cells #[.slice (some (Qa b H)) xs.length cap] 63)) b H xs:=hw.below (zC _ _) hB;have HO:=zB K;clear K hw;go_loop [7] (fun i=>∃k:Nat,k<=xs.length/\i=Qi k/\Hid (∀j,j<k->¬ ((atO xs j).s=t/\(atO xs j).k=kd))) (fun i=>xs.length-(intOf i).toNat);case atStart=>exact⟨0,ym _,rfl,zB (fun j h=>Jo)⟩
 case round=>
  obtain⟨k,hk,rfl,hn⟩:=hrel;by_cases Q:k<xs.length
  ·obtain⟨a0,a1,a2,a3⟩:=(zA HO) k Q;have q:=zB (show ∀(_:¬ ((atO xs k).s=t/\(atO xs k).k=kd)),∀j,j<k+1->¬ ((atO xs j).s=t/\(atO xs j).k=kd) from fun x j hj=>by
    by_cases e:j=k
    ·subst e;exact x
    ·exact hn j Jo)
   go_wp2
   ·rename_i X y _;go_ret;exact⟨⟨(k:Int),rfl,⟨fun _=>⟨k,Q,zEA X,Ju y⟩,fun _=>Jo⟩⟩,zC _ _⟩
   ·refine⟨⟨k+1,Jo,Jn,zB (q ?_)⟩,Ji⟩;rintro⟨_,h⟩;simp_all
   ·refine⟨⟨k+1,Jo,Jn,zB (q ?_)⟩,Ji⟩;rintro⟨h,_⟩;simp_all
  ·go_wp2;go_ret;refine⟨⟨-1,rfl,⟨fun h=>yR h Jd,fun⟨j,hj,h⟩=>yR h (hn j Jo)⟩⟩,zC _ _⟩
theorem zFP(a b c:JZ):a++b++c=a++(b++c):=by
 apply ByteArray.ext;simp[ByteArray.data_append,Array.append_assoc]
theorem zA7(a b:JZ):(a++b).size=a.size+b.size:=Js
def one(c:UInt8):ByteArray:=⟨#[c]⟩
theorem zEF(c:UInt8):(one c).size=1:=rfl
def NoB(c:UInt8)(l:JZ):Prop:=∀i,i<l.size->bt l i≠c
def Wrd(x:JZ):Prop:=1<=x.size/\NoB 32 x/\NoB 10 x
def zA8:List ByteArray->ByteArray
 |[]=>ByteArray.empty
 |[x]=>x
 |x::y::r=>x++(one 32++zA8 (y::r))
theorem zP1(c:UInt8)(s:JZ):∀(n a:Nat),a<=s.size->∀p∈pcF c s n a,p.1<=p.2/\p.2<=s.size/\∀k,p.1<=k->k<p.2->bt s k≠c
 |0,a,_,p,hp=>by simp[pcF] at hp
 |n+1,a,ha,p,hp=>by
  obtain⟨g1,g2,g3,_⟩:=zAc c s a ha;simp only[pcF,List.mem_cons] at hp;rcases hp with rfl|hp
  ·exact⟨g1,g2,g3⟩
  ·by_cases h:nx c s a<s.size
   ·rw[yQ h] at hp;exact zP1 c s n _ Jo p hp
   ·rw[yP h] at hp;cases hp
def OpT(o:OpR):Prop:=Wrd o.s/\(∃n:Nat,o.l=(n:Int)/\n<1000000)/\((o.k=1/\o.sd=0)\/(o.k=3/\o.sd=0)\/(o.k=2/\(o.sd=1\/o.sd=2\/o.sd=3)))
def zCH:Nat->Nat->ByteArray
 |0,_=>ByteArray.empty
 |f+1,n=>if n<10 then one (UInt8.ofNat (48+n)) else zCH f (n/10)++one (UInt8.ofNat (48+n%10))
def sdW(sd:Int):ByteArray:=if sd=1 then zFE else if sd=2 then zDC else zFF
def dW(o:OpR):List ByteArray:=
 if o.k=1 then[zAl,o.s,zCH 7 o.l.toNat] else if o.k=3 then[Z9,o.s,zCH 7 o.l.toNat] else[zBj,o.s,zCH 7 o.l.toNat,sdW o.sd]
def zJP(xs:List OpR):Prop:=∀j,j<xs.length->((atO xs j).k=1\/(atO xs j).k=2\/(atO xs j).k=3)
theorem zNN{xs:List OpR}(h:zBi xs xs.length):zJP xs:=fun j hj=>by
 obtain⟨_,h⟩:=zB1 _ _ _ _ (h j hj);omega
theorem zK4{xs:List OpR}(h:zJP xs):opT xs t↔((∃j,j<xs.length/\(atO xs j).s=t/\(atO xs j).k=1)\/(∃j,j<xs.length/\(atO xs j).s=t/\(atO xs j).k=2)\/(∃j,j<xs.length/\(atO xs j).s=t/\(atO xs j).k=3)):=by
 constructor
 ·rintro⟨j,hj,e⟩;rcases h j hj with k|k|k
  ·exact yS ⟨j,hj,e,k⟩
  ·exact yU (yS ⟨j,hj,e,k⟩)
  ·exact yU (yU ⟨j,hj,e,k⟩)
 ·rintro(⟨j,hj,e,_⟩|⟨j,hj,e,_⟩|⟨j,hj,e,_⟩)
  ·exact⟨j,hj,e⟩
  ·exact⟨j,hj,e⟩
  ·exact⟨j,hj,e⟩
theorem zOw(b H cap:Nat)(xs:List OpR)(t:JZ)(w:JY)(hm:xs.length<=1048576)(hw:Ops w b H xs)(hB:b<w.heap.size)(hk:zJP xs):Calls prog 166 #[.agg #[.slice (some (Qa b H)) xs.length cap],Qs t] w fun e w'=>zBD e (opT xs t)/\Qb w w':=by
 have HK:=zB (zK4 (t:=t) hk);have HW:=zB hw;clear hk hw;go_enter func166,ntmps166;go_wp2_with fail;go_call zBm b H cap xs t 1 _ hm (HW.below (zC _ _) hB) Jq as e w1 ⟨⟨r1,rfl,hr1⟩,hb1⟩;have z1:w.heap.size<w1.heap.size:=Jz hb1.size
 have c1:w1.cell? (Qa w.heap.size 0)=some (.slice (some (Qa b H)) xs.length cap):=by rw[hb1.cell (p:=Qa w.heap.size 0) Js];simp[go_sem]
 have k:Qb w w1:=(zC _ _).trans (hb1.mono Js);have H1:=zB hr1;clear hr1 hb1;by_cases p1:0<=r1
 ·go_wp2_with fail;go_ret;exact⟨⟨true,rfl,⟨fun _=>HK.2 (yS (H1.1 p1)),fun _=>rfl⟩⟩,k⟩
 go_wp2_with fail;go_call zBm b H cap xs t 2 _ hm (HW.below k hB) Jo as e w2 ⟨⟨r2,rfl,hr2⟩,hb2⟩;have c2:w2.cell? (Qa w.heap.size 0)=some (.slice (some (Qa b H)) xs.length cap):=Jc hb2 z1 c1;have h:=k.trans (hb2.mono k.size);have H2:=zB hr2;clear hr2 hb2 c1;by_cases p2:0<=r2
 ·go_wp2_with fail;go_ret;exact⟨⟨true,rfl,⟨fun _=>HK.2 (yU (yS (H2.1 p2))),fun _=>rfl⟩⟩,h⟩
 go_wp2_with fail;go_call zBm b H cap xs t 3 _ hm (HW.below h hB) (Jy h.size) as e w3 ⟨⟨r3,rfl,hr3⟩,hb3⟩;have K:=h.trans (hb3.mono h.size);have H3:=zB hr3;clear hr3 hb3;go_wp2_with fail;go_ret;refine⟨⟨decide (0<=r1)||decide (0<=r2)||decide (0<=r3),rfl,?_⟩,K⟩;unfold zE9;rw[zA HK,<-zA H1,<-zA H2,<-zA H3];simp[or_assoc]
theorem zJQ(b k cap:Nat)(xs:List OpR)(t:JZ)(w:JY)(hm:xs.length<=1048576)(hw:Ops w b k xs)(hB:b<w.heap.size)(hk:zJP xs)(hs:t.size<=maxLen):Calls prog 114 #[.agg #[.slice (some (Qa b k)) xs.length cap],Qs t] w fun e w'=>e=.returned (Qi (Zp xs t:Int))/\Qb w w':=by
 have HK:=zB hk;have HW:=zB hw;clear hk hw;go_enter func114,ntmps114;go_wp2_with fail;go_call zBE t _ hs as e w1 ⟨⟨v1,rfl,hv1⟩,rfl⟩;have V1:=zB hv1;clear hv1;cases v1
 case true=>
  go_wp2_with fail;go_ret;exact⟨zF (by have:=V1.1 rfl;simp[Zp,Z8,this]),by first|exact zC _ _|exact yJ _ _⟩
 have n1:Hid (¬ zGI t):=fun h=>Bool.false_ne_true (V1.2 h)
 clear V1;go_wp2_with fail;go_call zEp t _ hs as e w1 ⟨⟨v2,rfl,hv2⟩,rfl⟩;have V2:=zB hv2;clear hv2;cases v2
 case true=>
  go_wp2_with fail;go_ret;exact⟨zF (by have:=V2.1 rfl;have:=zA n1;simp[Zp,Z8,zAL, *]),by first|exact zC _ _|exact yJ _ _⟩
 have n2:Hid (¬ zBr t):=fun h=>Bool.false_ne_true (V2.2 h)
 clear V2;by_cases e4:t=⟨#[40]⟩
 ·subst e4;go_wp2_with fail;go_ret;exact⟨zF (by have:=zA n1;have:=zA n2;simp[Zp,Z8,zAL, *]),by first|exact zC _ _|exact yJ _ _⟩
 by_cases e5:t=⟨#[41]⟩
 ·subst e5;go_wp2_with fail;go_ret;exact⟨zF (by have:=zA n1;have:=zA n2;simp[Zp,Z8,zAL, *]),by first|exact zC _ _|exact yJ _ _⟩
 have q4:(t.toList==[40])=false:=by
  rw[yX];exact fun h=>e4 (zEA (h.trans (by rw[yF])))
 have q5:(t.toList==[41])=false:=by
  rw[yX];exact fun h=>e5 (zEA (h.trans (by rw[yF])))
 have E4:=zB e4;have E5:=zB e5;clear e4 e5;go_wp2_with fail;go_call zOw b k cap xs t _ hm (HW.below (zC _ _) hB) Jq HK as e w2 ⟨⟨v3,rfl,hv3⟩,hb2⟩;have V3:=zB hv3;clear hv3;have H:Qb w w2:=(zC _ _).trans (hb2.mono Js);cases v3
 ·go_wp2_with fail;go_ret;refine⟨zF ?_,H⟩;have n3:¬ opT xs t:=fun h=>Bool.false_ne_true (V3.2 h)
  simp[Zp,Z8,zAL,zFp,zDk,zA n1,zA n2,zA E4,zA E5,n3]
 ·go_wp2_with fail;go_ret;refine⟨zF ?_,H⟩;have n3:opT xs t:=V3.1 rfl;simp[Zp,Z8,zAL,zFp,zDk,zA n1,zA n2,zA E4,zA E5,n3]
theorem zNO(s:JZ)(i:Nat)(w:JY)(hs:s.size<=1048576)(hi:i<s.size):Calls prog 165 #[Qs s,Qi i] w fun e w'=>(∃r:Nat,e=.returned (Qi r)/\Reach s i r)/\w'=w:=by
 have X:=zB (ZQ hi);cases hsg:sgB s[i]
 ·go_enter func165,ntmps165;go_wp2_with (go_at_call 73;refine(zB4 _ _).mono ?_;rintro e w' ⟨rfl,rfl⟩);have H:=zB (show cls (bt s i)≠6 from fun h=>by
   rw[ZQ hi,zLk,yW] at hsg
   exact hsg h)
  go_loop [5] (fun n=>∃k:Nat,1<=k/\i+k<=s.size/\n=Qi k/\Hid (k=1\/((cls (bt s i)=2\/cls (bt s i)=3)/\∀j,j<k->(cls (bt s (i+j))=2\/cls (bt s (i+j))=3)))) (fun n=>s.size-(intOf n).toNat);case atStart=>exact⟨1,yk _,Jo,rfl,zB (yS rfl)⟩
  case round=>
   obtain⟨k,q,hk,rfl,hn⟩:=hrel;by_cases K:i+k<s.size
   ·have GO:=zB (show ∀(_:cls s[i]=2\/cls s[i]=3)(_:cls s[i+k]=2\/cls s[i+k]=3),(k+1=1\/((cls (bt s i)=2\/cls (bt s i)=3)/\∀j,j<k+1->(cls (bt s (i+j))=2\/cls (bt s (i+j))=3))) from fun h1 h2=>by
     rw[ZQ hi] at h1
     rw[ZQ K] at h2
     refine yU ⟨h1,fun j hj=>?_⟩
     by_cases e:j=k
     ·subst e;exact h2
     ·rcases zA hn with x|x
      ·have:j=0:=Jo
       subst this
       exact h1
      ·exact x.2 j Jo)
    have STOP:=zB (show ∀(_:¬ ((cls s[i]=2\/cls s[i]=3)/\(cls s[i+k]=2\/cls s[i+k]=3))),Reach s i k from fun h=>by
     rw[ZQ hi,ZQ K] at h
     have h6:=zA H
     refine⟨q,hk,yU ?_⟩
     by_cases ha:cls (bt s i)=2\/cls (bt s i)=3
     ·refine yS ⟨ha,fun j hj=>?_,fun _ hx=>h ⟨ha,hx⟩⟩
      rcases zA hn with x|x
      ·have:j=0:=Jo
       subst this
       exact ha
      ·exact x.2 j hj
     ·refine yU ⟨⟨h6,Jo,Jo⟩,?_⟩
      rcases zA hn with x|x
      ·exact x
      ·exact yR x.1 ha)
    clear hn;go_wp2_with (first|(go_at_call 70;refine(zB8 _ _).mono ?_;rintro e w' ⟨rfl,rfl⟩)|(go_at_call 71;refine(zCb _ _).mono ?_;rintro e w' ⟨rfl,rfl⟩));all_goals
     first
      |(
        refine⟨⟨k+1,?_,?_,?_,zB (GO ?_ ?_)⟩,?_⟩
        ·omega
        ·omega
        ·go_num
        ·simp[*]
        ·simp[*]
        ·simp[intOf];omega)
      |(
        go_ret
        refine⟨⟨k,rfl,STOP ?_⟩,rfl⟩
        simp[*])
   ·have STOP:=zB (show Reach s i k from by
     have h6:=zA H
     refine⟨q,hk,yU ?_⟩
     by_cases ha:cls (bt s i)=2\/cls (bt s i)=3
     ·refine yS ⟨ha,fun j hj=>?_,fun hx=>yR hx K⟩
      rcases zA hn with x|x
      ·have:j=0:=Jo
       subst this
       exact ha
      ·exact x.2 j hj
     ·refine yU ⟨⟨h6,Jo,Jo⟩,?_⟩
      rcases zA hn with x|x
      ·exact x
      ·exact yR x.1 ha)
    go_wp2;go_ret;exact⟨⟨k,rfl,STOP⟩,rfl⟩
 ·have H:=zB (show cls (bt s i)=6 by
   rw[ZQ hi,zLk] at hsg
   simpa using hsg)
  by_cases Q:s.size-i<16
  ·go_enter func165,ntmps165;go_wp2_with (go_at_call 73;refine(zB4 _ _).mono ?_;rintro e w' ⟨rfl,rfl⟩);go_ret;exact⟨⟨s.size-i,zF Jo,⟨Jo,Jo,yS ⟨H,Jo,yU Jo⟩⟩⟩,rfl⟩
  ·go_enter func165,ntmps165;go_wp2_with (go_at_call 73;refine(zB4 _ _).mono ?_;rintro e w' ⟨rfl,rfl⟩);go_ret;exact⟨⟨16,rfl,⟨Jo,Jo,yS ⟨H,Jo,yS rfl⟩⟩⟩,rfl⟩
theorem zKU(b H cap:Nat)(xs:List OpR)(s:JZ)(i:Nat)(w:JY)(hm:xs.length<=1048576)(hw:Ops w b H xs)(hB:b<w.heap.size)(hk:zJP xs)(hs:s.size<=1048576)(hi:i<s.size):Calls prog 113 #[.agg #[.slice (some (Qa b H)) xs.length cap],Qs s,Qi i] w fun e w'=>(∃r:Nat,e=.returned (Qi r)/\zPp xs s i r)/\Qb w w':=by
 have HK:=zB hk;have HW:=zB hw;clear hk hw;go_enter func113,ntmps113;go_wp2_with fail;go_call zNO s i _ hs hi as e w1 ⟨⟨m,rfl,hm1⟩,rfl⟩;have HR:=zB hm1;have B:i+m<=s.size:=hm1.2.1;have Y:1<=m:=hm1.1;clear hm1;go_wp2_with fail;go_loopw [7] (fun n wr=>∃k:Nat,1<=k/\k<=m/\n=Qi k/\Hid (∀q,k<q->q<=m->Zp xs (sub s i q)=6)/\Below (w.heap.size+1) (w.alloc (.cells #[.slice (some (Qa b H)) xs.length cap] 63)) wr) (fun n _=>(intOf n).toNat);case atStart=>exact⟨m,Y,yk _,rfl,zB (fun q h1 h2=>Jo),yJ _ _⟩
 case round=>
  obtain⟨k,P,Q,rfl,hn,h⟩:=hrel;have x:Qb w wr:=(zC _ _).trans (h.mono Jo);have zw:w.heap.size<wr.heap.size:=Jz h.size
  have c0:wr.cell? (Qa w.heap.size 0)=some (.slice (some (Qa b H)) xs.length cap):=by
   rw[h.cell (p:=Qa w.heap.size 0) (show w.heap.size<_ by omega)];simp[go_sem]
  have zb:b<wr.heap.size:=Jo;by_cases c:1<k
  ·have v:(1:Int)<(k:Int):=Jo;have J:i+k<=s.size:=Jo;have V:IntKind.i64.wrap ((i:Int)+(k:Int))=(i:Int)+(k:Int):=by rw[IntKind.wrap_i64];omega
   have A:(i:Int)<=(i:Int)+(k:Int):=Jo;have u:(i:Int)+(k:Int)<=(s.size:Int):=Jo;have a:(0:Int)<=(i:Int)+(k:Int):=Jo;have U:((i:Int)+(k:Int)).toNat=i+k:=Jo;go_wp2_with fail;go_region_held (fun w'=>w'.cell? (Qa w.heap.size 0)=some (.slice (some (Qa b H)) xs.length cap)) (go_keep)
    (first|(go_at_call 114;refine(zJQ b H cap xs (sub s i k) _ hm (HW.below x.drew hB) zb HK (by rw[zBc J];unfold maxLen;omega)).mono ?_;rintro e w2 ⟨rfl,hb2⟩;have c2:=(hb2.cell (p:=Qa w.heap.size 0) zw).trans (show wr.drew.cell? (Qa w.heap.size 0)=_ from c0)))
   have K:=h.drew.trans (hb2.mono zw);have y:Qb w w2:=(zC _ _).trans (K.mono Jo);by_cases h6:Zp xs (sub s i k)=6
   ·have j:((Zp xs (sub s i k):Int)!=6)=false:=by simp[h6]
    have H6:=zB h6;clear h6;go_wp2;refine⟨⟨k-1,Jo,Jo,?_,zB (fun q h1 h2=>?_),K⟩,?_⟩
    ·first|(go_num;done)|(congr 1;omega)
    ·by_cases e:q=k
     ·subst e;exact H6
     ·exact hn q Jo h2
    ·simp[intOf];omega
   ·have j:((Zp xs (sub s i k):Int)!=6)=true:=Jq;have H6:=zB h6;clear h6;go_wp2;go_ret;exact⟨⟨k,rfl,⟨P,yU H6,m,HR,Q,hn⟩⟩,y⟩
  ·have X:k=1:=Jo;subst X;go_wp2;go_ret;exact⟨⟨1,rfl,⟨yk _,yS rfl,m,HR,Q,hn⟩⟩,x⟩
theorem tkH{P:Program}{md:Region.Mode}{ops:Array Oper}{Q:Exit->Act->World->Prop}{S:World->Prop}(i:Nat){oi:Oper}{fuel:Nat}{l':Array Bool}{a a':Act}{w:JY}(hS:S w)(h:wpAnyH P md ops Q S fuel l' a' w)(hi:ops[i]?=some oi:=by rfl)(hs:Region.noSelect ops=true:=by kernel_rfl)(hf:Region.free md ops listed i=true:=by kernel_rfl)(hr:(Region.ready md ops listed).contains i=true:=by kernel_rfl)(hQ:∀c a w,Q (.panic c) (a.put oi.dst v) w->Q (.panic c) a w:=by exact fun _ _ _ h=>h)(hy:YieldsIf P ops S oi v a:=by exact yS ⟨by rfl,by intro W hW;(try dsimp only at hW);simp only[yc,ya,yb];go_simp;first|done|(with_reducible rfl)⟩)(hl:listed.setIfInBounds i true=l':=by conv=>lhs;simp only[ye,yg,yh])(ha:a.put oi.dst v=a':=by conv=>lhs;simp only[yc,ya,yb,Act.put,ye,yg,yh]):wpAnyH P md ops Q S (fuel+1) listed a w:=wpAnyH_take hi hs hf hr hQ hy hS (by rw[hl,ha];exact h)
theorem tkU{P:Program}{md:Region.Mode}{ops:Array Oper}{Q:Exit->Act->World->Prop}{S:World->Prop}(i:Nat){oi:Oper}{fuel:Nat}{l':Array Bool}{a a':Act}{w:JY}(hS:S w)(h:wpAnyH P md ops Q S fuel l' a' w)(hi:ops[i]?=some oi:=by rfl)(hs:Region.noSelect ops=true:=by kernel_rfl)(hf:Region.free md ops listed i=true:=by kernel_rfl)(hr:(Region.ready md ops listed).contains i=true:=by kernel_rfl)(hQ:∀c a w,Q (.panic c) (a.put oi.dst undef) w->Q (.panic c) a w:=by exact fun _ _ _ h=>h)(hy:Region.wanted oi (yielded ops a.tmps)=false:=by rfl)(hl:listed.setIfInBounds i true=l':=by conv=>lhs;simp only[ye,yg,yh])(ha:a.put oi.dst undef=a':=by conv=>lhs;simp only[yc,ya,yb,Act.put,ye,yg,yh]):wpAnyH P md ops Q S (fuel+1) listed a w:=wpAnyH_take hi hs hf hr hQ (yU ⟨hy,rfl⟩) hS (by rw[hl,ha];exact h)
end Go.Proofs.YtadiaghhackbjaaGreatDoor
