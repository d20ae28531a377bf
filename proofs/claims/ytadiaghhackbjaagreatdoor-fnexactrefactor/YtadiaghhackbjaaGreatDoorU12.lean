import Derived.Deep.RegionHeld3
import Derived.Deep.RegionLaw
import Derived.Test.YtadiaghhackbjaaGreatDoorU03
namespace Go.Proofs.YtadiaghhackbjaaGreatDoor
set_option linter.all false
set_option maxHeartbeats 0
set_option maxRecDepth 100000
open Proofs.Tryz RowKit
variable{B b o:Nat}{ks:List OpR}{kv kv1:Value}{pv pv1:Option Nat}{w w1:World}
theorem zXL(W:JY)(c:Int):(convert 102 9 (Ql W.heap.size 1 1)).run prog (W.alloc (.cells #[.int .u8 c] 5))=.ok (Qs ⟨#[UInt8.ofNat c.toNat]⟩) (W.alloc (.cells #[.int .u8 c] 5)):=by
 rw[run_convert_bytes_string _ 102 9 5 _ _ _ underlying102 underlying5 underlying9];have hl:(loadCells (Qa W.heap.size 0) 1).run prog (W.alloc (.cells #[.int .u8 c] 5))=.ok ([c].map (Value.int .u8)).toArray (W.alloc (.cells #[.int .u8 c] 5)):=
  run_loadCells_list (P:=prog) _ (Qa W.heap.size 0) [.int .u8 c] (fun j v hv=>by
   match j,hv with
   |0,hv=>simp at hv;subst hv;simp[Addr.add,go_sem])
 rw[run_bytesToString _ (Qa W.heap.size 0) 1 1 [c] hl];rfl
theorem zIv:∀(f n:Nat),(zCH f n).size<=f
 |0,n=>by simp[zCH]
 |f+1,n=>by
  simp only[zCH];split
  ·rw[zEF];omega
  ·rw[zA7,zEF];have:=zIv f (n/10);omega
theorem zLM(n:Nat)(w:JY)(h:n<10):Calls prog 83 #[Qi n] w fun e w'=>e=.returned (Qs (one (UInt8.ofNat (48+n))))/\Qb w w':=by
 have hI:(n:Int)<10:=Jo;have H:=fun W c=>zXL W c
 go_enter func83,ntmps83;go_wp2;go_ret;exact⟨rfl,zC _ _⟩
theorem zLN:∀(f n:Nat)(w:JY),n<10 ^ f->1<=f->f<=20->n<100000000 ->
  Calls prog 83 #[Qi n] w fun e w'=>e=.returned (Qs (zCH f n))/\Qb w w'
 |0,n,w,_,h,_,_=>Jo
 |f+1,n,w,hf,_,h20,h8=>by
  by_cases h:n<10
  ·have e:zCH (f+1) n=one (UInt8.ofNat (48+n)):=by simp only[zCH,yQ h]
   rw[e];exact zLM n w h
  ·have hI:¬ (n:Int)<10:=Jo;have hp:(10:Nat) ^ (f+1)=10 ^ f*10:=Nat.pow_succ ..;have k:1<=f:=by
    rcases Nat.eq_zero_or_pos f with rfl|x
    ·simp at hf;omega
    ·exact x
   have e:zCH (f+1) n=zCH f (n/10)++one (UInt8.ofNat (48+n%10)):=by simp only[zCH,yP h]
   rw[e];have HA:=zB (fun W=>zLN f (n/10) W Jo k Jo Jo);have HB:=zB (fun W=>zLM (n%10) W (Nat.mod_lt _ Jd));have K:=zIv f (n/10);have q:=zEF (UInt8.ofNat (48+n%10));obtain⟨D,hD⟩:=Jx (zCH f (n/10));obtain⟨O,hO⟩:=Jx (one (UInt8.ofNat (48+n%10)));rw[<-hD] at HA K ⊢;rw[<-hO] at HB q ⊢;have e10:((n/10:Nat):Int)=(n:Int)/10:=Jo;have e11:((n%10:Nat):Int)=(n:Int)%10:=Jo;rw[e10] at HA;rw[e11] at HB;clear hf hp e hD hO e10 e11;go_enter func83,ntmps83;go_wp2_with fail;go_call (zA HA) w as e w1 ⟨rfl,hb1⟩;have H:=zB hb1;clear hb1 HA;go_wp2_with fail;go_call (zA HB) w1 as e w2 ⟨rfl,hb2⟩;have Q:=zB (H.trans (hb2.mono H.size));clear hb2 HB;go_wp2_with fail;go_ret;exact⟨rfl,Q⟩
def zWV:ByteArray:=⟨#[112,114,101,102,105,120,32]⟩
def zSp:ByteArray:=⟨#[112,111,115,116,102,105,120,32]⟩
def zUr:ByteArray:=⟨#[105,110,102,105,120,32]⟩
theorem zSq{o:OpR}(h:o.k=1):zA8 (dW o)=zWV++(o.s++one 32++zCH 7 o.l.toNat):=by
 unfold dW;rw[yQ h];simp only[zA8];have e:zWV=zAl++one 32:=by apply ByteArray.ext;rfl
 rw[e,zFP,zFP]
theorem zQR{o:OpR}(h:o.k=3):zA8 (dW o)=zSp++(o.s++one 32++zCH 7 o.l.toNat):=by
 unfold dW;rw[yP Jo,yQ h];simp only[zA8];have e:zSp=Z9++one 32:=by apply ByteArray.ext;rfl
 rw[e,zFP,zFP]
theorem zSr{o:OpR}(h:o.k≠1)(h':o.k≠3):zA8 (dW o)=zUr++(o.s++one 32++zCH 7 o.l.toNat)++(one 32++sdW o.sd):=by
 unfold dW;rw[yP h,yP h'];simp only[zA8];have e:zUr=zBj++one 32:=by apply ByteArray.ext;rfl
 rw[e];simp only[zFP]
theorem zWW{o:OpR}(h:o.k=2):zA8 (dW o)=zUr++(o.s++one 32++zCH 7 o.l.toNat)++(one 32++sdW o.sd):=zSr Jo Jo
theorem zQ5(o:OpR)(w:JY)(h:∃n:Nat,o.l=(n:Int)/\n<1000000)(h3:(o.k=1/\o.sd=0)\/(o.k=3/\o.sd=0)\/(o.k=2/\(o.sd=1\/o.sd=2\/o.sd=3))\/(o.k=0/\o.sd=0))(hs:o.s.size<=1048576):Calls prog 50 #[.agg #[Qs o.s,Qi o.k,Qi o.l,Qi o.sd]] w fun e w'=>e=.returned (Qs (zA8 (dW o)))/\Qb w w':=by
 obtain⟨n,hn,x⟩:=h;have hd:=zSq (o:=o);have H:=zQR (o:=o);have K:=zSr (o:=o);obtain⟨J,hJ⟩:=Jx (zA8 (dW o));rw[<-hJ] at hd H K ⊢;obtain⟨s,k,l,sd⟩:=o;simp only at hn h3 hs hd H K ⊢;subst hn;have e:((n:Nat):Int).toNat=n:=rfl;rw[e] at hd H K;have HA:=zB (fun W=>zLN 7 n W Jo Jd Jd Jo);have Q:=zIv 7 n;obtain⟨D,hD⟩:=Jx (zCH 7 n);rw[<-hD] at HA Q hd H K;clear hJ hD e;have HX:=zB (HA (w.alloc (.cells #[Qs s,Qi k,Qi n,Qi sd] 33)).drew);have q1:s.size+(⟨#[32]⟩:JZ).size<=9223372036854775807:=by show s.size+1<=_;omega
 have q2:(s++⟨#[32]⟩:JZ).size+D.size<=9223372036854775807:=by rw[zA7];show s.size+1+D.size<=_;omega
 have r1:=fun W:World=>run_string_add_sum (P:=prog) (w:=W) s ⟨#[32]⟩ q1
 have r2:=fun W:World=>run_string_add_sum (P:=prog) (w:=W) (s++⟨#[32]⟩) D q2
 have l0:w.heap.size<(w.alloc (.cells #[Qs s,Qi k,Qi n,Qi sd] 33)).drew.heap.size:=Js;have HC:=zB (show(w.alloc (.cells #[Qs s,Qi k,Qi n,Qi sd] 33)).drew.cell? (Qa w.heap.size 0)=some (Qs s)/\(w.alloc (.cells #[Qs s,Qi k,Qi n,Qi sd] 33)).drew.cell? (Qa w.heap.size 1)=some (Qi k)/\(w.alloc (.cells #[Qs s,Qi k,Qi n,Qi sd] 33)).drew.cell? (Qa w.heap.size 2)=some (Qi n)/\(w.alloc (.cells #[Qs s,Qi k,Qi n,Qi sd] 33)).drew.cell? (Qa w.heap.size 3)=some (Qi sd) from⟨Jg,Jg,Jg,Jg⟩);clear HA;go_enter func50,ntmps50;go_wp2_with fail;go_region_held3 (fun W=>W.cell? (Qa w.heap.size 0)=some (Qs s)/\W.cell? (Qa w.heap.size 2)=some (Qi n)) (go_keep) (first|(go_at_call 83;(with_reducible refine(zA HX).mono ?_);rintro e w1 ⟨rfl,hb1⟩;have j0:=Jc hb1 l0 HC.1;have j1:=Jc hb1 l0 HC.2.1;have j2:=Jc hb1 l0 HC.2.2.1;have j3:=Jc hb1 l0 HC.2.2.2;have q:Hid (Qb w w1):=(zC _ _).drew.trans (hb1.mono Js);clear hb1));all_goals
  rcases h3 with⟨rfl,rfl⟩|⟨rfl,rfl⟩|⟨rfl,h3⟩|⟨rfl,rfl⟩
  ·have e:=hd rfl
   clear hd K H
   go_wp2_with fail
   go_ret
   exact⟨by rw[e];rfl,q⟩
  ·have e:=H rfl
   clear hd K H
   go_wp2_with fail
   go_ret
   exact⟨by rw[e];rfl,q⟩
  all_goals
   have e:=K Jd Jd
   clear hd K H
   try rcases h3 with rfl|rfl|rfl
   all_goals
    go_wp2_with fail
    go_ret
    exact⟨by rw[e];first|rfl|(apply yV;apply yV;apply ByteArray.ext;simp[ByteArray.data_append,sdW,one,zFE,zDC,zFF];done),q⟩
theorem zPD(o:OpR)(w:JY)(h:OpT o)(hs:o.s.size<=1048576):Calls prog 50 #[.agg #[Qs o.s,Qi o.k,Qi o.l,Qi o.sd]] w fun e w'=>e=.returned (Qs (zA8 (dW o)))/\Qb w w':=zQ5 o w h.2.1 (by rcases h.2.2 with h|h|h;exact yS h;exact yU (yS h);exact yU (yU (yS h))) hs
open Go.Maps
def zCR(k:Int):Int:=if 3<=k/\k<=5 then k-2 else 0
theorem zQS{k:Int}(h:3<=k/\k<=5):zCR k=k-2:=yQ h
theorem zCS(k:Int)(w:JY):Calls prog 164 #[Qi k] w fun e w'=>e=.returned (Qi (zCR k))/\w'=w:=by
 by_cases h3:k=3
 ·subst h3;go_enter func164,ntmps164;go_wp2;go_ret;exact⟨zF (by simp[zCR]),rfl⟩
 by_cases h4:k=4
 ·subst h4;go_enter func164,ntmps164;go_wp2;go_ret;exact⟨zF (by simp[zCR]),rfl⟩
 by_cases h5:k=5
 ·subst h5;go_enter func164,ntmps164;go_wp2;go_ret;exact⟨zF (by simp[zCR]),rfl⟩
 have e3:(k==3)=false:=Ju h3
 have e4:(k==4)=false:=Ju h4
 have e5:(k==5)=false:=Ju h5
 have HK:=zB (by unfold zCR;rw[yP];omega:zCR k=0);clear h3 h4 h5;go_enter func164,ntmps164;go_wp2;go_ret;exact⟨zF HK.symm,rfl⟩
theorem zSs{bo bs:Nat}{xs:List OpR}(hi:Idx w bo bs xs xs.length)(hc:zO xs 0)(q:zBi xs xs.length)(o:zD)(ht:o.t.size<=maxLen):∃D:DataW Unit,w.ownsMap prog 210 zAU bo xs.length D /\
   (
    (∃j,Zh o/\fnd xs o.t (o.k-2)=some j/\Maps.has D (klO o.t (zCR o.k))=true/\D.atKey (klO o.t (zCR o.k)) (zA9 ⟨#[]⟩ 0 0 0)=zA9 (atO xs j).s (atO xs j).k (atO xs j).l (atO xs j).sd) \/
    ((Zh o->fnd xs o.t (o.k-2)=none)/\Maps.has D (klO o.t (zCR o.k))=false)):=by
 obtain⟨⟨D,K,hD⟩,_,_⟩:=hi;have hw:(Lit.int .i64 (zCR o.k)).wf=true:=by
  unfold zCR;split
  ·rename_i h;rcases(Jo:o.k=3\/o.k=4\/o.k=5) with e|e|e<;>rw[e]<;>decide
  ·decide
 obtain⟨h1,h2⟩:=hD o.t (zCR o.k) ht hw;refine⟨D,K,?_⟩;cases hh:Maps.has D (klO o.t (zCR o.k)) with
 |true=>
  obtain⟨j,hj,e1,e2,e3⟩:=h2 hh;have H:Zh o:=by
   unfold Zh;have hk:=zIo (q j hj);unfold zCR at e2;split at e2
   ·assumption
   ·omega
  have e2':(atO xs j).k=o.k-2:=by
   rw[e2];exact zQS H
  exact yS ⟨j,H,zPv hc hj ⟨e1,e2'⟩,rfl,e3⟩
 |false=>
  refine yU ⟨fun H=>zPu (fun j hj h=>?_),rfl⟩;have:Maps.has D (klO o.t (zCR o.k))=true:=h1.2 ⟨j,hj,h.1,by rw[h.2];exact(zQS H).symm⟩;rw[hh] at this;cases this
def zME(xs:List OpR)(o:zD)(p:OpR)(found:Bool):Prop:=
 (∃j,Zh o/\fnd xs o.t (o.k-2)=some j/\found=true/\p=atO xs j)\/((Zh o->fnd xs o.t (o.k-2)=none)/\found=false)
theorem zHE(bo bs:Nat)(xs:List OpR)(o:zD)(w:JY)(hi:Idx w bo bs xs xs.length)(hc:zO xs 0)(y:zBi xs xs.length)(ht:o.t.size<=maxLen):Calls prog 241 #[.agg #[.map (some bo),.map (some bs)],.agg #[.int .i64 o.k,.string o.t,.int .i64 o.a,.int .i64 o.b]] w fun e w'=>(∃(p:OpR)(v:Bool),e=.returned (.tuple #[.agg #[.string p.s,.int .i64 p.k,.int .i64 p.l,.int .i64 p.sd],.bool v])/\zME xs o p v)/\Below w.heap.size w w':=by
 obtain⟨D,q,K⟩:=zSs hi hc y o ht;have hw:(Lit.int .i64 (zCR o.k)).wf=true:=by
  unfold zCR;split
  ·rename_i h;rcases(Jo:o.k=3\/o.k=4\/o.k=5) with e|e|e<;>rw[e]<;>decide
  ·decide
 have J:=zB (zLu ht hw);have Q:=zB q;have V:=zB K;have U:Hid (∀o1 o2 o3:Obj,Below w.heap.size w ((w.alloc o1).alloc o2 |>.alloc o3)):=fun o1 o2 o3=>((zC w o1).alloc Js o2).alloc Jq o3
 clear q K hi hc y;go_enter func241,ntmps241;go_wp2_with fail;have H:∀W:JY,W.ownsMap prog 210 zAU bo xs.length D->∃p v,(Instr.lookup 158 (.map (some bo)) (.agg #[.string o.t,.int .i64 (zCR o.k)]) true).run prog W=.ok (.tuple #[.agg #[.string p.s,.int .i64 p.k,.int .i64 p.l,.int .i64 p.sd],.bool v]) W/\zME xs o p v:=fun W hW=>by
  obtain⟨v,ps,hr,hv⟩:=hW.look_ok zKV underlying158 (zSF _) (zEI _ _ _ _) J;rcases zA V with⟨j,h1,h2,h3,h4⟩|⟨h1,h2⟩
  ·rw[h4] at hv;have e:=zOx hv;subst e;rw[h3] at hr;exact⟨atO xs j,true,hr,yS ⟨j,h1,h2,rfl,rfl⟩⟩
  ·obtain⟨s,k,l,sd,rfl⟩:=zEr hv;rw[h2] at hr;exact⟨⟨s,k,l,sd⟩,false,hr,yU ⟨h1,rfl⟩⟩
 obtain⟨p1,v1,u,x⟩:=H (((w.alloc (.cells #[.map (some bo),.map (some bs)] 161)).alloc (.cells #[.int .i64 o.k,.string o.t,.int .i64 o.a,.int .i64 o.b] 106)).alloc (.cells #[.string ⟨#[]⟩,.int .i64 0,.int .i64 0,.int .i64 0] 33)).drew (((Q.alloc _).alloc _).alloc _).drew;obtain⟨p2,v2,A,X⟩:=H ((((w.alloc (.cells #[.map (some bo),.map (some bs)] 161)).alloc (.cells #[.int .i64 o.k,.string o.t,.int .i64 o.a,.int .i64 o.b] 106)).alloc (.cells #[.string ⟨#[]⟩,.int .i64 0,.int .i64 0,.int .i64 0] 33)).alloc (.cells #[.string ⟨#[]⟩,.int .i64 0,.int .i64 0,.int .i64 0] 33)).drew ((((Q.alloc _).alloc _).alloc _).alloc _).drew;have P:=zB x;have Y:=zB X;clear x X H;go_region_held (fun w'=>w'.cell? ⟨w.heap.size,0,none⟩=some (.map (some bo))/\w'.cell? ⟨w.heap.size+1,0,none⟩=some (.int .i64 o.k)/\w'.cell? ⟨w.heap.size+1,1,none⟩=some (.string o.t)) (go_keep)
  (first|(go_at_call 164;refine(zCS _ _).mono ?_;rintro e w2 ⟨rfl,hx⟩;obtain rfl:=hx.symm))
 all_goals go_wp2
 all_goals first|(refine yN (v:=.tuple #[.agg #[.string p1.s,.int .i64 p1.k,.int .i64 p1.l,.int .i64 p1.sd],.bool v1]) ?_ rfl ⟨⟨p1,v1,rfl,P⟩,((((zC _ _).alloc Js _).alloc Jq _).alloc Jq _).drew⟩;(simp[results,results241,go_sem];done))|(refine yN (v:=.tuple #[.agg #[.string p2.s,.int .i64 p2.k,.int .i64 p2.l,.int .i64 p2.sd],.bool v2]) ?_ rfl ⟨⟨p2,v2,rfl,Y⟩,((((zC _ _).alloc Js _).alloc Jq _).alloc Jq _).drew⟩;(simp[results,results241,go_sem];done))
theorem zNt(w:JY):(zeroValue 3).run prog w=.ok (Qi 0) w:=Jk
theorem zSt(bm:Nat)(w:JY):(binOp .eql 114 (.map (some bm)) (.map none)).run prog w=.ok (.bool false) w:=Jk
theorem zUs(w:JY):(binOp .eql 114 (.map none) (.map none)).run prog w=.ok (.bool true) w:=Jk
theorem zQ6(t:JZ)(w:JY)(hs:t.size<=maxLen):(Instr.lookup 114 (.map none) (.string t) true).run prog w=.ok (.tuple #[.int .i64 0,.bool false]) w:=by
 have h:=Maps.look_nil (P:=prog) (w:=w) true (string_keyed underlying9) underlying114 (zNt w) (zSG hs);simpa using h
theorem zJq(b o B:Nat)(kv:Value)(pv:Option Nat)(ks:List JZ)(t:JZ)(w:JY)(h:zCo w b o B kv pv ks)(hs:t.size<=maxLen):Calls prog 131 #[.pointer (some (Qa b o)),Qs t] w fun e w'=>zBD e (t∈ks)/\w'=w:=by
 have c1:=h.c1;rcases h.mp with⟨rfl,rfl⟩|⟨bm,rfl,k,hm⟩
 ·have H:=zQ6 t w hs;clear h;go_enter func131,ntmps131;go_wp2;go_ret;exact⟨⟨false,rfl,zQ Js⟩,rfl⟩
 ·have H:=hm.look (ty:=114) underlying114 (zNt w) hs;have HE:=zB (show ∀v:Bool,v=(gSS ks t).isSome->zE9 v (t∈ks) from fun v hv=>by
   unfold zE9
   rw[hv]
   unfold gSS
   rw[Option.isSome_map]
   exact zK7 ks t)
  obtain⟨x,hx⟩:=Jx ((gSS ks t).getD (Qi 0));obtain⟨y,hy⟩:=Jx ((gSS ks t).isSome);rw[<-hx,<-hy] at H;have HY:=zB hy;clear h hx hy hm;go_enter func131,ntmps131;go_wp2;go_ret;exact⟨⟨y,rfl,HE y HY⟩,rfl⟩
def Z1(w:JY)(b o B:Nat)(kv:Value)(pv:Option Nat)(ks:List JZ)(w':JY):Prop:=
 ∃kv' pv',zCo w' b o B kv' pv' ks/\Eff w w' b o kv pv/\Zd w.heap.size kv.ownBlock kv'.ownBlock/\Zd w.heap.size pv pv'
theorem zWX{ks:List JZ}{t:JZ}(h:t ∉ ks)(t':JZ):(if t'.data=t.data then some (Value.int .i64 (ks.length:Int)) else gSS ks t')=gSS (ks++[t]) t':=by
 unfold gSS;rw[zNR h t'];by_cases e:t'.data=t.data
 ·have e':t'=t:=by cases t;cases t';simp at e;rw[e]
  rw[yQ e,yQ e'];rfl
 ·rw[yP e,yP (fun e2=>e (by rw[e2]))]
theorem zLO{w W w3 w4:JY}{b o B bm:Nat}{kv v4:Value}{pv:Option Nat}{ks:List JZ}{t:JZ}{ob:Obj}(h:zCo w b o B kv pv ks)(hB:B<=w.heap.size)(ht:t ∉ ks)(hW:W=w\/(pv=none/\bm=w.heap.size))(G:w.heap.size<=W.heap.size)(a:∀i,i<w.heap.size->i≠b->W.heap[i]?=w.heap[i]?)(j:W.os=w.os/\W.tape=w.tape/\W.output=w.output)(V:∀o',o'≠o+1->W.cell? ⟨b,o',none⟩=w.cell? ⟨b,o',none⟩)(Y:∀o',W.frozen? ⟨b,o',none⟩=w.frozen? ⟨b,o',none⟩)(c:W.cell? ⟨b,o+1,none⟩=some (.map (some bm)))(E:Ze W B kv ks)(u:B<=bm)(K:bm≠b)(y:kv.ownBlock≠some bm)(X:Zd w.heap.size pv (some bm))(hm:Zx w3 bm (ks.length+1) (fun t'=>if t'.data=t.data then some (Value.int .i64 (ks.length:Int)) else gSS ks t'))(hk:zJ W w3 bm)(I:bm<W.heap.size)(hg:(w3.alloc ob).grownBy w4 kv.ownBlock)(hr:Ze w4 B v4 (ks++[t]))(H:v4.ownBlock=kv.ownBlock\/v4.ownBlock=some (w3.heap.size+1)):Z1 w b o B kv pv (ks++[t]) (w4.setCell ⟨b,o,none⟩ v4):=by
 have D:=h.lt;have Q:b<W.heap.size:=Jo;have F:=hk.size;have U:=hg.size;have d:w3.heap.size+1<=w4.heap.size:=Ju U
 have J:b<w3.heap.size:=Jo;have kc:=fun q=>(zK hg (b:=b) Jq h.nk q).trans (((zC w3 ob).cell (p:=⟨b,q,none⟩) J).trans (hk.cell Q (Ne.symm K) q))
 have kf:=fun q=>(ZW hg (b:=b) Jq h.nk q).trans (((zC w3 ob).frozen (p:=⟨b,q,none⟩) J).trans (hk.frozen Q (Ne.symm K) q))
 have P:v4.ownBlock≠some b:=fun e=>by
  rcases H with H|H
  ·exact h.nk (H.symm.trans e)
  ·rw[H] at e;injection e with e;omega
 have A:v4.ownBlock≠some bm:=fun e=>by
  rcases H with H|H
  ·exact y (H.symm.trans e)
  ·rw[H] at e;injection e with e;omega
 have C:Zx (w4.setCell ⟨b,o,none⟩ v4) bm (ks++[t]).length (gSS (ks++[t])):=by
  rw[yq];refine((((hm.kept (zE (zC w3 ob) none) Js).kept hg (fun e=>y e.symm)).kept (ZJ w4 b o v4) (fun e=>K (by injection e))).congr (zWX ht))
 refine⟨v4,some bm,⟨yt _ _ _ ((kc o).trans ((V o Jo).trans h.c0)),(yj _ _ _ _ Js).trans ((kc (o+1)).trans c),(yv _ _ _ _).trans ((kf o).trans ((Y o).trans h.f0)),(yv _ _ _ _).trans ((kf (o+1)).trans ((Y (o+1)).trans h.f1)),hr.grown (ZJ w4 b o v4) (fun k e x=>P (e.trans x.symm)),yU ⟨bm,rfl,u,C⟩,P,fun e=>K (by injection e),fun g e x=>A (e.trans x.symm)⟩,?_,?_,X⟩
 ·refine⟨hg.os.trans (hk.os.trans j.1),hg.tape.trans (hk.tape.trans j.2.1),hg.output.trans (hk.output.trans j.2.2),by simp[World.setCell];omega,fun i hi h1 h2 h3=>?_,fun o' h1 h2=>⟨(yj _ _ _ _ (by first|(simp;done)|(simp;omega)|(intro x;injection x with _ x;omega))).trans ((kc o').trans (V o' h2)),(yv _ _ _ _).trans ((kf o').trans (Y o'))⟩⟩;rw[je _ _ _ _ (Ju h1)];have v:i≠bm:=fun e=>by
   rcases X with x|⟨k,x,f⟩
   ·exact h3 (by rw[<-x,e])
   ·injection x with x;omega
  exact(hg.block i Jq (fun e=>h2 e.symm)).trans (((zC w3 ob).block i Jo).trans ((hk.block i Jo v).trans (a i hi h1)))
 ·rcases H with H|H
  ·exact yS H
  ·exact yU ⟨_,H,Jo⟩
theorem zNu(b o B:Nat)(kv:Value)(pv:Option Nat)(ks:List JZ)(t:JZ)(w:JY)(h:zCo w b o B kv pv ks)(hs:t.size<=maxLen)(hl:ks.length<=1048576)(hB:B<=w.heap.size):Calls prog 130 #[.pointer (some (Qa b o)),Qs t] w fun e w'=>zBD e (t ∉ ks)/\Z1 w b o B kv pv (zA3 ks t) w':=by
 have HH:=zB (zJq b o B kv pv ks t w h hs);by_cases Q:t∈ks
 ·have HP:=zB (by rw[zCe Q];exact⟨kv,pv,h,Eff.refl _ _ _ _ _,yS rfl,yS rfl⟩:Z1 w b o B kv pv (zA3 ks t) w);have n:=zB Q;clear h Q;go_enter func130,ntmps130;go_wp2_with (first|(go_at_call 131;(with_reducible refine(zA HH).mono ?_);rintro e w1 ⟨⟨v,rfl,hv⟩,hx⟩;obtain rfl:=hx.symm;obtain rfl:v=true:=hv.2 n;clear hv hx));go_ret;exact⟨⟨false,rfl,zQ (fun h=>h n)⟩,HP⟩
 obtain⟨i0,s,X,M,O⟩:=zS zEd;have HI:=zB s;have HZ:=zB (yK X (yK M O));clear s X M O;have C:=zB Q;have V:=h.lt;have c0:=h.c0;have c1:=h.c1;have f0:=h.f0;have f1:=h.f1;obtain⟨ak,ck,rfl⟩:=zR h.row;rcases h.mp with⟨rfl,rfl⟩|⟨bm,rfl,Z,U⟩
 ·obtain⟨W,hW⟩:=Jx ((w.setCell (Qa b (o+1)) (.map (some w.heap.size))).alloc (.map #[] 0));have X:(w.setCell (Qa b (o+1)) (.map (some w.heap.size))).heap.size=w.heap.size:=Jt;have hh:w.heap.size+1<=W.heap.size:=by rw[hW];simp[World.setCell]
  have F:∀i,i<w.heap.size->i≠b->W.heap[i]?=w.heap[i]?:=fun i hi ha=>by
   rw[hW,(zC (w.setCell (Qa b (o+1)) (.map (some w.heap.size))) (.map #[] 0)).block i (by rw[X];exact hi)];exact je _ _ _ _ (Ju ha)
  have d:∀o',o'≠o+1->W.cell? (Qa b o')=w.cell? (Qa b o'):=fun o' ho=>by
   rw[hW,(zC (w.setCell (Qa b (o+1)) (.map (some w.heap.size))) (.map #[] 0)).cell (p:=Qa b o') (by show b<_;rw[X];exact V)];exact yj _ _ _ _ (by first|(simp;done)|(simp;omega)|(intro x;injection x with _ x;omega))
  have G:∀o',W.frozen? (Qa b o')=w.frozen? (Qa b o'):=fun o'=>by
   rw[hW,(zC (w.setCell (Qa b (o+1)) (.map (some w.heap.size))) (.map #[] 0)).frozen (p:=Qa b o') (by show b<_;rw[X];exact V)];exact yv _ _ _ _
  have hd:W.cell? (Qa b (o+1))=some (.map (some w.heap.size)):=by
   rw[hW,(zC (w.setCell (Qa b (o+1)) (.map (some w.heap.size))) (.map #[] 0)).cell (p:=(Qa b (o+1))) (by show b<_;rw[X];exact V)];exact yt _ _ _ c1
  have N:Zx W.drew w.heap.size 0 (fun _=>none):=by
   have:=Zx.made (w.setCell (Qa b (o+1)) (.map (some w.heap.size)));rw[X,<-hW] at this;exact this.kept (zE (yJ _ _).drew none) Js
  clear X;obtain⟨w3,r,a,K⟩:=N.update (ty:=114) underlying114 Jm (t:=t) hs (Qi 0);have f:Ze W B (.slice ak 0 ck) []:=by
   obtain⟨_,⟨h1,h2⟩|⟨g,cap,hb,h1,h2,h3,h4⟩⟩:=h.row
   ·exact⟨rfl,yS ⟨h1,h2⟩⟩
   ·have S:g≠b:=fun e=>h.nk (by rw[h1,e];rfl)
    refine⟨rfl,yU ⟨g,cap,hb,h1,h2,(F g ?_ S).trans h3,h4⟩⟩;exact(h.row.lt g (by rw[h1];rfl)).2
  have y:=zB (fun w4 v4 ob hg hr L=>@zLO w W w3 w4 b o B w.heap.size (.slice ak 0 ck) v4 none [] t ob h hB Q (yU ⟨rfl,rfl⟩) Jo F (by rw[hW];exact⟨rfl,rfl,rfl⟩) d G hd f hB Jo (fun e=>Jy ((h.row.lt _ e).2)) (yU ⟨_,rfl,yk _⟩) (by simpa[gSS,zGU] using a) (show zJ W w3 w.heap.size from(zJ.of_below (show Qb W W.drew from(yJ _ _).drew)).trans K) Jo hg hr L);have I:=K.size;have m:W.heap.size<=w3.heap.size:=I;have m0:w3.cell? (Qa b o)=some (.slice ak 0 ck):=(K.cell (by show b<W.heap.size;omega:b<W.drew.heap.size) Jo o).trans ((d o Jo).trans c0);have m1:w3.frozen? (Qa b o)=false:=(K.frozen (by show b<W.heap.size;omega:b<W.drew.heap.size) Jo o).trans ((G o).trans f0);have D:Ze w3 B (.slice ak 0 ck) []:=(f.below (yJ _ _).drew).grown (zv K) (fun k e x=>by injection x with x;have:=(h.row.lt k e).2;omega);have l:=zB D;have c:=zB h.nk;have he:W.cell? (Qa b o)=some (.slice ak 0 ck):=(d o Jo).trans c0;have hc:=zB hW;have u:b<w3.heap.size:=Jo;have A:=zB (zCW Q);have T:=zUs w;have hf:=@run_makeMap prog;clear a K f D N F d G h hW Q;go_enter func130,ntmps130;go_wp2_with (first|(go_at_call 131;(with_reducible refine(zA HH).mono ?_);rintro e w1 ⟨⟨v,rfl,hv⟩,hx⟩;obtain rfl:=hx.symm;obtain rfl:v=false:=(by cases v;rfl;exact yR (hv.1 rfl) C);clear hv hx));rw[<-zA hc];go_region;go_wp2_with (at_builtin;refine yL _ rfl (.tmp 31) (.tmp 33) 87 rfl B 9 i0 _ 1 16 underlying87 HI HZ.1 HZ.2.1 HZ.2.2 rfl Jd _ 0 (ZM []) rfl (l.below (zC _ _)) (Qa w3.heap.size 0) 1 1 (ZM [t]) rfl rfl (Ju (zAz w3 t)) (Z3 _) ?b1 ?b2 ?b3 ?next);case b1=>exact Jm
  case b2=>omega
  case b3=>simp;omega
  case next=>
   intro v4 w4 q H J Y;have j:Ze w4 B v4 ([]++[t]):=by
    unfold Ze;rw[Zg,yq];exact q
   have HF:=zB (y w4 v4 _ H j Y);have n0:=(zK H (b:=b) Jq c o).trans (Jc (zC w3 _) u m0);have n1:=(ZW H (b:=b) Jq c o).trans (((zC w3 _).frozen (p:=Qa b o) u).trans m1);obtain⟨a4,c4,rfl⟩:=zR j;clear q H J Y j m0 m1;go_wp2_with fail;go_ret;refine⟨⟨true,rfl,Zb C⟩,?_⟩;rw[zA A]
   first
    |exact HF
    |simpa using zA HF
 ·obtain⟨w3,r,a,K⟩:=(U.kept (zE (show Qb w w.drew from(yJ _ _).drew) none) Js).update (ty:=114) underlying114 Jm (t:=t) hs (Qi (ks.length:Int));have P:bm≠b:=fun e=>h.np (by rw[e])
  have E:(Value.slice ak ks.length ck).ownBlock≠some bm:=fun e=>h.nn bm e rfl
  have R:=U.lt;have y:=zB (fun w4 v4 ob hg hr L=>@zLO w w w3 w4 b o B bm (.slice ak ks.length ck) v4 (some bm) ks t ob h hB Q (yS rfl) (yk _) (fun _ _ _=>rfl) ⟨rfl,rfl,rfl⟩ (fun _ _=>rfl) (fun _=>rfl) c1 h.row Z P E (yS rfl) a (show zJ w w3 bm from(zJ.of_below (show Qb w w.drew from(yJ _ _).drew)).trans K) R hg hr L);have I:=K.size;have m:w.heap.size<=w3.heap.size:=I;have m0:w3.cell? (Qa b o)=some (.slice ak ks.length ck):=(K.cell (show b<w.drew.heap.size from V) (Ne.symm P) o).trans c0;have m1:w3.frozen? (Qa b o)=false:=(K.frozen (show b<w.drew.heap.size from V) (Ne.symm P) o).trans f0;have l:Hid (Ze w3 B (.slice ak ks.length ck) ks):=(h.row.below (yJ _ _).drew).grown (zv K) (fun k e x=>E (e.trans x.symm));have c:=zB h.nk;have u:b<w3.heap.size:=Jo;have A:=zB (zCW Q);have T:=zSt bm w;clear a K U h Q;go_enter func130,ntmps130;go_wp2_with (first|(go_at_call 131;(with_reducible refine(zA HH).mono ?_);rintro e w1 ⟨⟨v,rfl,hv⟩,hx⟩;obtain rfl:=hx.symm;obtain rfl:v=false:=(by cases v;rfl;exact yR (hv.1 rfl) C);clear hv hx));go_region;go_wp2_with (at_builtin;refine yL _ rfl (.tmp 31) (.tmp 33) 87 rfl B 9 i0 _ 1 16 underlying87 HI HZ.1 HZ.2.1 HZ.2.2 rfl Jd _ ks.length (ZM ks) rfl (l.below (zC _ _)) (Qa w3.heap.size 0) 1 1 (ZM [t]) rfl rfl (Ju (zAz w3 t)) (Z3 _) ?b1 ?b2 ?b3 ?next);case b1=>exact Jm
  case b2=>omega
  case b3=>simp;omega
  case next=>
   intro v4 w4 q H J Y;have j:Ze w4 B v4 (ks++[t]):=by
    unfold Ze;rw[Zg,yq];exact q
   have HF:=zB (y w4 v4 _ H j Y);have n0:=(zK H (b:=b) Jq c o).trans (Jc (zC w3 _) u m0);have n1:=(ZW H (b:=b) Jq c o).trans (((zC w3 _).frozen (p:=Qa b o) u).trans m1);obtain⟨a4,c4,rfl⟩:=zR j;clear q H J Y j m0 m1;go_wp2_with fail;go_ret;refine⟨⟨true,rfl,Zb C⟩,?_⟩;rw[zA A]
   first
    |exact HF
    |simpa using zA HF
def Apt(v:Value)(b:Nat)(kv:Value)(pv:Option Nat):Prop:=∀g,v.ownBlock=some g->g≠b/\kv.ownBlock≠some g/\pv≠some g
theorem zPE{us ks:List JZ}{k:Nat}{p:JZ}(h:us[k]?=some p):(us.take (k+1)).foldl zA3 ks=zA3 ((us.take k).foldl zA3 ks) p:=by
 rw[List.take_add_one,h];simp[List.foldl_append]
theorem Z1.step{w2:JY}{H:List JZ}(he:Eff w w1 b o kv pv)(hk:Zd w.heap.size kv.ownBlock kv1.ownBlock)(hp:Zd w.heap.size pv pv1)(h:Z1 w1 b o B kv1 pv1 H w2):Z1 w b o B kv pv H w2:=by
 obtain⟨kv2,pv2,h1,h2,h3,h4⟩:=h;exact⟨kv2,pv2,h1,he.trans h2 hk hp,hk.trans h3 he.size,hp.trans h4 he.size⟩
theorem Apt.step{v:Value}{H:Nat}(h:Apt v b kv pv)(hv:∀g,v.ownBlock=some g->g<H)(hk:Zd H kv.ownBlock kv1.ownBlock)(hp:Zd H pv pv1):Apt v b kv1 pv1:=fun g e=>
 ⟨(h g e).1,hk.ne (h g e).2.1 (hv g e),hp.ne (h g e).2.2 (hv g e)⟩
theorem zFa(b o B:Nat)(kv:Value)(pv:Option Nat)(ks:List JZ)(v:Value)(us:List JZ)(w:JY)(h:zCo w b o B kv pv ks)(hs:∀x∈us,x.size<=maxLen)(hl:ks.length+us.length<=1048576)(hB:B<=w.heap.size)(hr:ZO w v us)(ha:Apt v b kv pv):Calls prog 132 #[.pointer (some (Qa b o)),v] w fun e w'=>e=.returned (.tuple #[])/\Z1 w b o B kv pv (us.foldl zA3 ks) w':=by
 have HP:=zB (show Z1 w b o B kv pv ((us.take 0).foldl zA3 ks) w from⟨kv,pv,Ju h,Eff.refl _ _ _ _ _,yS rfl,yS rfl⟩);have HA:=zB ha;have HS:=zB hs;have HR:=zB hr;obtain⟨a,c,rfl,_⟩:=hr;clear h ha hs;go_enter func132,ntmps132;go_wp2;go_loopw [8] (fun i wr=>∃(k:Nat),k<=us.length/\i=Qi k/\Hid (Z1 w b o B kv pv ((us.take k).foldl zA3 ks) wr)) (fun i _=>us.length-(intOf i).toNat);case atStart=>exact⟨0,ym _,rfl,HP⟩
 case round=>
  obtain⟨k,hk,rfl,HQ⟩:=hrel;by_cases q:k<us.length
  ·have Y:(k:Int)<(us.length:Int):=Jo;obtain⟨p,hp⟩:∃p,us[k]?=some p:=⟨_,yr q⟩;obtain⟨kv1,pv1,h1,h2,h3,h4⟩:=zA HQ;obtain⟨g,cc,H,X,Q⟩:=HR.lt Jo;obtain⟨rfl,rfl⟩:a=some (Qa g 0)/\c=cc:=by injection H with x _ y;exact⟨x,y⟩
   obtain⟨a1,a2,a3⟩:=(zA HA) g rfl;have hc:wr.cell? (Qa g k)=some (Qs p):=(h2.cell X a1 a2 a3 k).trans (Q k p hp);have K:=zHY (us.take k) ks;rw[List.length_take] at K;have hz:=h2.size;have HX:=zB (zNu b o B kv1 pv1 _ p wr h1 (HS p (yB hp)) Jo Jo);have HF:=zB (fun w2 (hh:Z1 wr b o B kv1 pv1 (zA3 ((us.take k).foldl zA3 ks) p) w2)=>show Z1 w b o B kv pv ((us.take (k+1)).foldl zA3 ks) w2 from(by rw[zPE hp];exact Z1.step h2 h3 h4 hh));clear H h1 h2 h3 h4 K hp HQ;go_wp2_with (first|(go_at_call 130;(with_reducible refine(zA HX).mono ?_);rintro e w1 ⟨⟨y,rfl,_⟩,hpo⟩;have HN:=zB (HF w1 hpo);clear hpo));exact⟨⟨k+1,Jo,Jn,HN⟩,Ji⟩
  ·have HN:=zB (by have:=zA HQ;rwa[List.take_of_length_le Jo] at this:Z1 w b o B kv pv (us.foldl zA3 ks) wr);go_wp2;go_end0;exact⟨rfl,HN⟩
def zUt(w:JY)(us:List JZ)(e:Ending)(w':JY):Prop:=
 ∃v,e=.returned v/\Ze w' w.heap.size v (dst us)/\Qb w w'
theorem zMF(v:Value)(us:List JZ)(w:JY)(hs:∀x∈us,x.size<=maxLen)(hl:us.length<=1048576)(hr:ZO w v us)(hv:∀g,v.ownBlock=some g->g<w.heap.size):Calls prog 128 #[v] w (zUt w us):=by
 have HX:=zB (show Calls prog 132 #[Qp w.heap.size,v] (w.alloc (.cells #[.slice none 0 0,.map none] 116)) fun e w'=>e=.returned (.tuple #[])/\Z1 (w.alloc (.cells #[.slice none 0 0,.map none] 116)) w.heap.size 0 w.heap.size (.slice none 0 0) none (dst us) w' from by
  refine zFa w.heap.size 0 w.heap.size _ none [] v us _ (zCo.new w _ _) hs (Ju hl) Js (hr.below (zC _ _)) (fun g e=>?_)
  refine⟨fun e2=>?_,Jb,Js⟩
  have:=hv g e;omega)
 clear hr hv;go_enter func128,ntmps128;go_wp2_with (first|(go_at_call 132;(with_reducible refine(zA HX).mono ?_);rintro e w1 ⟨rfl,kv,pv,h1,h2,h3,h4⟩;have c0:=h1.c0;have HR:=zB h1.row;have HB:Hid (Qb w w1):=(zC _ _).trans (h2.below (B:=w.heap.size) Js (yk _) (fun g e=>by simp[Value.ownBlock] at e) (fun g e=>by simp at e));clear h1 h2 h3 h4));go_ret;exact⟨_,rfl,HR,HB⟩
def zMG:List OpR->OpR->Option Nat
 |[],_=>none
 |x::r,t=>if ZV x t=true then some 0 else(zMG r t).map (·+1)
theorem zLP:∀(ks:List OpR)(t:OpR),(zMG ks t).isSome=true↔t∈ks
 |[],t=>by simp[zMG]
 |x::r,t=>by
  unfold zMG;by_cases e:ZV x t=true
  ·rw[yQ e];simp[ZD.1 e]
  ·rw[yP e,Option.isSome_map,zLP r t];have:t≠x:=fun h=>e (ZD.2 h.symm)
   simp[List.mem_cons,this]
theorem zNv{u:OpR}(h:u ∉ ks)(t:OpR):zMG (ks++[u]) t=if ZV t u=true then some ks.length else zMG ks t:=by
 induction ks with
 |nil=>
  simp only[List.nil_append,zMG,yZ];by_cases e:ZV u t=true
  ·rw[yQ e,yQ (ZD.2 (ZD.1 e).symm)]
  ·rw[yP e,yP (fun x=>e (ZD.2 (ZD.1 x).symm))];rfl
 |cons x r ih=>
  have hx:u≠x:=fun e=>h (by simp[e])
  have hr:u ∉ r:=fun e=>h (by simp[e])
  simp only[List.cons_append,zMG,yy];by_cases e:ZV x t=true
  ·rw[yQ e,yQ e,yP (fun e2=>hx (by rw[ZD.1 e,<-ZD.1 e2]))]
  ·rw[yP e,yP e,ih hr];by_cases e2:ZV t u=true
   ·rw[yQ e2,yQ e2];rfl
   ·rw[yP e2,yP e2]
def gQ(ks:List OpR)(t:OpR):Option Value:=(zMG ks t).map fun(i:Nat)=>Value.int .i64 (i:Int)
theorem zCO.congr{n:Nat}{G G':OpR->Option Value}(h:zCO w b n G)(he:∀t,G t=G' t):zCO w b n G':=by
 have:G=G':=funext he;rw[<-this];exact h
structure zD3(w:JY)(b o B:Nat)(kv:Value)(pv:Option Nat)(ks:List OpR):Prop where
 c0:w.cell? (Qa b o)=some kv
 c1:w.cell? (Qa b (o+1))=some (.map pv)
 f0:w.frozen? (Qa b o)=false
 f1:w.frozen? (Qa b (o+1))=false
 row:zAo w B kv ks
 mp:(pv=none/\ks=[])\/∃bm,pv=some bm/\B<=bm/\zCO w bm ks.length (gQ ks)
 nk:kv.ownBlock≠some b
 np:pv≠some b
 nn:∀g,kv.ownBlock=some g->pv≠some g
theorem zD3.lt(h:zD3 w b o B kv pv ks):b<w.heap.size:=World.block_lt_of_cell? _ _ h.c0
theorem zD3.plt(h:zD3 w b o B kv pv ks):∀g,pv=some g->B<=g/\g<w.heap.size:=fun g e=>by
 rcases h.mp with⟨h1,_⟩|⟨bm,h1,h2,h3⟩
 ·rw[h1] at e;cases e
 ·rw[h1] at e;injection e with e;subst e;exact⟨h2,h3.lt⟩
theorem zD3.below{w w':JY}{b o B:Nat}{kv:Value}{pv:Option Nat}{ks:List OpR}(h:zD3 w b o B kv pv ks)(hb:Qb w w'):zD3 w' b o B kv pv ks:=
 ⟨Jc hb h.lt h.c0,(hb.cell (p:=(Qa b (o+1))) h.lt).trans h.c1,(hb.frozen (p:=Qa b o) h.lt).trans h.f0,(hb.frozen (p:=(Qa b (o+1))) h.lt).trans h.f1,h.row.below hb,h.mp.imp id (fun⟨bm,h1,h2,h3⟩=>⟨bm,h1,h2,h3.kept (zE hb none) Js⟩),h.nk,h.np,h.nn⟩
theorem zD3.new(w:JY)(t:TypeId)(B:Nat):zD3 (w.alloc (.cells #[.slice none 0 0,.map none] t)) w.heap.size 0 B (.slice none 0 0) none []:=
 ⟨Jg,Jg,Jg,Jg,World.ownsRow_nil _ _ _ _,yS ⟨rfl,rfl⟩,Jb,Js,fun g e=>by simp[Value.ownBlock] at e⟩
def ZT(w:JY)(b o B:Nat)(kv:Value)(pv:Option Nat)(ks:List OpR)(w':JY):Prop:=
 ∃kv' pv',zD3 w' b o B kv' pv' ks/\Eff w w' b o kv pv/\Zd w.heap.size kv.ownBlock kv'.ownBlock/\Zd w.heap.size pv pv'
theorem zWY{t:OpR}(h:t ∉ ks)(t':OpR):(if ZV t' t=true then some (Value.int .i64 (ks.length:Int)) else gQ ks t')=gQ (ks++[t]) t':=by
 unfold gQ;rw[zNv h t'];by_cases e:ZV t' t=true
 ·rw[yQ e,yQ e];rfl
 ·rw[yP e,yP e]
theorem zPF{W w3 w4:JY}{bm:Nat}{v4:Value}{t:OpR}{ob:Obj}(h:zD3 w b o B kv pv ks)(hB:B<=w.heap.size)(ht:t ∉ ks)(G:w.heap.size<=W.heap.size)(a:∀i,i<w.heap.size->i≠b->W.heap[i]?=w.heap[i]?)(j:W.os=w.os/\W.tape=w.tape/\W.output=w.output)(V:∀o',o'≠o+1->W.cell? ⟨b,o',none⟩=w.cell? ⟨b,o',none⟩)(Y:∀o',W.frozen? ⟨b,o',none⟩=w.frozen? ⟨b,o',none⟩)(c:W.cell? ⟨b,o+1,none⟩=some (.map (some bm)))(E:zAo W B kv ks)(u:B<=bm)(K:bm≠b)(y:kv.ownBlock≠some bm)(X:Zd w.heap.size pv (some bm))(hm:zCO w3 bm (ks.length+1) (fun t'=>if ZV t' t=true then some (Value.int .i64 (ks.length:Int)) else gQ ks t'))(hk:zJ W w3 bm)(I:bm<W.heap.size)(hg:(w3.alloc ob).grownBy w4 kv.ownBlock)(hr:zAo w4 B v4 (ks++[t]))(H:v4.ownBlock=kv.ownBlock\/v4.ownBlock=some (w3.heap.size+1)):ZT w b o B kv pv (ks++[t]) (w4.setCell ⟨b,o,none⟩ v4):=by
 have D:=h.lt;have Q:b<W.heap.size:=Jo;have F:=hk.size;have U:=hg.size;have d:w3.heap.size+1<=w4.heap.size:=Ju U
 have J:b<w3.heap.size:=Jo;have kc:=fun q=>(zK hg (b:=b) Jq h.nk q).trans (((zC w3 ob).cell (p:=⟨b,q,none⟩) J).trans (hk.cell Q (Ne.symm K) q))
 have kf:=fun q=>(ZW hg (b:=b) Jq h.nk q).trans (((zC w3 ob).frozen (p:=⟨b,q,none⟩) J).trans (hk.frozen Q (Ne.symm K) q))
 have P:v4.ownBlock≠some b:=fun e=>by
  rcases H with H|H
  ·exact h.nk (H.symm.trans e)
  ·rw[H] at e;injection e with e;omega
 have A:v4.ownBlock≠some bm:=fun e=>by
  rcases H with H|H
  ·exact y (H.symm.trans e)
  ·rw[H] at e;injection e with e;omega
 have C:zCO (w4.setCell ⟨b,o,none⟩ v4) bm (ks++[t]).length (gQ (ks++[t])):=by
  rw[yq];refine((((hm.kept (zE (zC w3 ob) none) Js).kept hg (fun e=>y e.symm)).kept (ZJ w4 b o v4) (fun e=>K (by injection e))).congr (zWY ht))
 refine⟨v4,some bm,⟨yt _ _ _ ((kc o).trans ((V o Jo).trans h.c0)),(yj _ _ _ _ Js).trans ((kc (o+1)).trans c),(yv _ _ _ _).trans ((kf o).trans ((Y o).trans h.f0)),(yv _ _ _ _).trans ((kf (o+1)).trans ((Y (o+1)).trans h.f1)),hr.grown (ZJ w4 b o v4) (fun k e x=>P (e.trans x.symm)),yU ⟨bm,rfl,u,C⟩,P,fun e=>K (by injection e),fun g e x=>A (e.trans x.symm)⟩,?_,?_,X⟩
 ·refine⟨hg.os.trans (hk.os.trans j.1),hg.tape.trans (hk.tape.trans j.2.1),hg.output.trans (hk.output.trans j.2.2),by simp[World.setCell];omega,fun i hi h1 h2 h3=>?_,fun o' h1 h2=>⟨(yj _ _ _ _ (by first|(simp;done)|(simp;omega)|(intro x;injection x with _ x;omega))).trans ((kc o').trans (V o' h2)),(yv _ _ _ _).trans ((kf o').trans (Y o'))⟩⟩;rw[je _ _ _ _ (Ju h1)];have v:i≠bm:=fun e=>by
   rcases X with x|⟨k,x,f⟩
   ·exact h3 (by rw[<-x,e])
   ·injection x with x;omega
  exact(hg.block i Jq (fun e=>h2 e.symm)).trans (((zC w3 ob).block i Jo).trans ((hk.block i Jo v).trans (a i hi h1)))
 ·rcases H with H|H
  ·exact yS H
  ·exact yU ⟨_,H,Jo⟩
theorem zSu(bm:Nat)(w:JY):(binOp .eql 171 (.map (some bm)) (.map none)).run prog w=.ok (.bool false) w:=Jk
theorem zUu(w:JY):(binOp .eql 171 (.map none) (.map none)).run prog w=.ok (.bool true) w:=Jk
theorem zQ7(t:OpR)(w:JY)(hs:zEs t):(Instr.lookup 171 (.map none) (.agg #[.string t.s,.int .i64 t.k,.int .i64 t.l,.int .i64 t.sd]) true).run prog w=.ok (.tuple #[.int .i64 0,.bool false]) w:=by
 have h:=Maps.look_nil (P:=prog) (w:=w) true zSI underlying171 (zNt w) (zQx hs);simpa using h
theorem zSv(b o B:Nat)(kv:Value)(pv:Option Nat)(ks:List OpR)(t:OpR)(w:JY)(h:zD3 w b o B kv pv ks)(hs:zEs t):Calls prog 189 #[.pointer (some (Qa b o)),.agg #[Qs t.s,Qi t.k,Qi t.l,Qi t.sd]] w fun e w'=>zBD e (t∈ks)/\Qb w w':=by
 have c1:=h.c1;have K:=h.lt;rcases h.mp with⟨rfl,rfl⟩|⟨bm,rfl,q,hm⟩
 ·have H:=fun w=>zQ7 t w hs
  obtain⟨W,hW⟩:=Jx (w.alloc (.cells #[Qs t.s,Qi t.k,Qi t.l,Qi t.sd] 33));have HB:=zB (show Qb w W from(by rw[hW];exact zC _ _));have c1':W.cell? (Qa b (o+1))=some (.map none):=(HB.cell (p:=(Qa b (o+1))) K).trans c1;have k0:W.cell? (Qa w.heap.size 0)=some (Qs t.s):=by rw[hW];simp[go_sem]
  have k1:W.cell? (Qa w.heap.size 1)=some (Qi t.k):=by rw[hW];simp[go_sem]
  have k2:W.cell? (Qa w.heap.size 2)=some (Qi t.l):=by rw[hW];simp[go_sem]
  have k3:W.cell? (Qa w.heap.size 3)=some (Qi t.sd):=by rw[hW];simp[go_sem]
  have HW:=zB hW;clear h hW;go_enter func189,ntmps189;go_wp2_with fail;rw[<-zA HW];go_region;go_wp2_with fail;go_ret;exact⟨⟨false,rfl,zQ Js⟩,HB.drew⟩
 ·have HE:=zB (show ∀v:Bool,v=(gQ ks t).isSome->zE9 v (t∈ks) from fun v hv=>by
   unfold zE9
   rw[hv]
   unfold gQ
   rw[Option.isSome_map]
   exact zLP ks t)
  obtain⟨W,hW⟩:=Jx (w.alloc (.cells #[Qs t.s,Qi t.k,Qi t.l,Qi t.sd] 33));have HB:=zB (show Qb w W from(by rw[hW];exact zC _ _));have H:=((hm.kept (zE HB none) Js).kept (zE (show Qb W W.drew from(yJ _ _).drew) none) Js).look (ty:=171) underlying171 (zNt W.drew) hs;obtain⟨x,hx⟩:=Jx ((gQ ks t).getD (Qi 0));obtain⟨y,hy⟩:=Jx ((gQ ks t).isSome);rw[<-hx,<-hy] at H;have HY:=zB hy;have c1':W.cell? (Qa b (o+1))=some (.map (some bm)):=(HB.cell (p:=(Qa b (o+1))) K).trans c1;have k0:W.cell? (Qa w.heap.size 0)=some (Qs t.s):=by rw[hW];simp[go_sem]
  have k1:W.cell? (Qa w.heap.size 1)=some (Qi t.k):=by rw[hW];simp[go_sem]
  have k2:W.cell? (Qa w.heap.size 2)=some (Qi t.l):=by rw[hW];simp[go_sem]
  have k3:W.cell? (Qa w.heap.size 3)=some (Qi t.sd):=by rw[hW];simp[go_sem]
  have HW:=zB hW;clear h hW hx hy hm;go_enter func189,ntmps189;go_wp2_with fail;rw[<-zA HW];go_region;go_wp2_with fail;go_ret;exact⟨⟨y,rfl,HE y HY⟩,HB.drew⟩
theorem Eff.of_below{w':JY}(h:Qb w w')(hb:b<w.heap.size)(o:Nat)(kv:Value)(pv:Option Nat):Eff w w' b o kv pv:=
 ⟨h.os,h.tape,h.output,h.size,fun i hi _ _ _=>h.block i hi,fun o' _ _=>⟨h.cell (p:=Qa b o') hb,h.frozen (p:=Qa b o') hb⟩⟩
theorem ZT.step{w2:JY}{H:List OpR}(he:Eff w w1 b o kv pv)(hk:Zd w.heap.size kv.ownBlock kv1.ownBlock)(hp:Zd w.heap.size pv pv1)(h:ZT w1 b o B kv1 pv1 H w2):ZT w b o B kv pv H w2:=by
 obtain⟨kv2,pv2,h1,h2,h3,h4⟩:=h;exact⟨kv2,pv2,h1,he.trans h2 hk hp,hk.trans h3 he.size,hp.trans h4 he.size⟩
theorem zNw{W:JY}{bm X:Nat}{t:OpR}(h:zD3 w1 b o B kv pv ks)(hB:B<=w1.heap.size)(ht:t ∉ ks)(hs:zEs t)(hl:ks.length<=1048576)(f:w1.heap.size<=W.heap.size)(q:∀i,i<w1.heap.size->i≠b->W.heap[i]?=w1.heap[i]?)(F:W.os=w1.os/\W.tape=w1.tape/\W.output=w1.output)(v:∀o',o'≠o+1->W.cell? (Qa b o')=w1.cell? (Qa b o'))(P:∀o',W.frozen? (Qa b o')=w1.frozen? (Qa b o'))(G:W.cell? (Qa b (o+1))=some (.map (some bm)))(V:B<=bm)(H:bm≠b)(K:kv.ownBlock≠some bm)(J:Zd w1.heap.size pv (some bm))(hm:zCO W bm ks.length (gQ ks))(hX:X<w1.heap.size)(C:X≠b)(d:bm≠X):∃w3,(Instr.mapUpdate 171 (.map (some bm)) (.agg #[Qs t.s,Qi t.k,Qi t.l,Qi t.sd]) (Qi (ks.length:Int))).run prog W.drew=.ok () w3/\W.heap.size<=w3.heap.size/\W.cell? (Qa b o)=some kv/\w3.cell? (Qa b o)=some kv/\w3.frozen? (Qa b o)=false/\(∀j,W.cell? (Qa X j)=w1.cell? (Qa X j)/\w3.cell? (Qa X j)=w1.cell? (Qa X j))/\zAo w3 B kv ks /\
   ∀(w4:JY)(g4 c4:Nat)(ob:Obj),w4.ownsRow B 33 4 (Ql g4 (ks.length+1) c4) (ks.length+1) (zl ks++zl [t])->(w3.alloc ob).drew.grownBy w4 kv.ownBlock->(kv.ownBlock=some g4\/g4=w3.heap.size+1)->ZT w1 b o B kv pv (ks++[t]) (w4.setCell (Qa b o) (Ql g4 (ks.length+1) c4)):=by
 have u:=hm.lt;have I:=h.lt;obtain⟨w3,p,A,c⟩:=(hm.kept (zE (show Qb W W.drew from(yJ _ _).drew) none) Js).update (ty:=171) underlying171 Jm (t:=t) hs (Qi (ks.length:Int));have hk:zJ W w3 bm:=(zJ.of_below (show Qb W W.drew from(yJ _ _).drew)).trans c;have Q:zAo W B kv ks:=by
  obtain⟨a,⟨h1,h2⟩|⟨g,cap,D,h1,h2,h3,h4⟩⟩:=h.row
  ·exact⟨a,yS ⟨h1,h2⟩⟩
  ·have U:g≠b:=fun e=>h.nk (by rw[h1,e];rfl)
   refine⟨a,yU ⟨g,cap,D,h1,h2,(q g ?_ U).trans h3,h4⟩⟩;exact(h.row.lt g (by rw[h1];rfl)).2
 have c0:W.cell? (Qa b o)=some kv:=(v o Jo).trans h.c0;have Y:∀j,W.cell? (Qa X j)=w1.cell? (Qa X j):=fun j=>yu (q X hX C)
 refine⟨w3,p,hk.size,c0,(hk.cell Jo (Ne.symm H) o).trans c0,(hk.frozen Jo (Ne.symm H) o).trans ((P o).trans h.f0),fun j=>⟨Y j,(hk.cell Jo (Ne.symm d) j).trans (Y j)⟩,Q.grown (zv hk) (fun k e x=>K (e.trans x.symm)),fun w4 g4 c4 ob y hg E=>?_⟩;have hr:zAo w4 B (Ql g4 (ks.length+1) c4) (ks++[t]):=by
  unfold zAo;rw[zAS,yq];exact y
 exact zPF h hB ht f q F v P G Q V H K J A hk u (ob:=ob) ⟨hg.os,hg.tape,hg.output,hg.size,hg.block⟩ hr (E.imp (fun e=>e.symm) (fun e=>by rw[e];rfl))
theorem zSw(b o B:Nat)(kv:Value)(pv:Option Nat)(ks:List OpR)(t:OpR)(w:JY)(h:zD3 w b o B kv pv ks)(hs:zEs t)(hl:ks.length<=1048576)(hB:B<=w.heap.size):Calls prog 146 #[.pointer (some (Qa b o)),.agg #[Qs t.s,Qi t.k,Qi t.l,Qi t.sd]] w fun e w'=>zBD e (t ∉ ks)/\ZT w b o B kv pv (zDz ks t) w':=by
 have O:=h.lt;obtain⟨W0,Y⟩:=Jx (w.alloc (.cells #[Qs t.s,Qi t.k,Qi t.l,Qi t.sd] 33));have r:Below w.heap.size w W0:=by rw[Y];exact zC _ _
 have ha:W0.heap.size=w.heap.size+1:=by rw[Y];simp
 have HH:=zB (zSv b o B kv pv ks t W0 (h.below r) hs);have k0:W0.cell? (Qa w.heap.size 0)=some (Qs t.s):=by rw[Y];simp[go_sem]
 have k1:W0.cell? (Qa w.heap.size 1)=some (Qi t.k):=by rw[Y];simp[go_sem]
 have k2:W0.cell? (Qa w.heap.size 2)=some (Qi t.l):=by rw[Y];simp[go_sem]
 have k3:W0.cell? (Qa w.heap.size 3)=some (Qi t.sd):=by rw[Y];simp[go_sem]
 have R:=zB Y;have S:=zB r;have J:=zB ha;clear Y r ha;by_cases C:t∈ks
 ·have HP:=zB (fun w' (hb:Below w.heap.size w w')=>show ZT w b o B kv pv (zDz ks t) w' from(by rw[zDI C];exact⟨kv,pv,h.below hb,Eff.of_below hb O _ _ _,yS rfl,yS rfl⟩));have hc:=zB C;clear h C;go_enter func146,ntmps146;go_wp2_with (first|(go_at_call 189;rw[<-zA R];(with_reducible refine(zA HH).mono ?_);rintro e w1 ⟨⟨v,rfl,hv⟩,hx⟩;have Q:=zB hx;obtain rfl:v=true:=hv.2 hc;clear hv hx));go_ret;exact⟨⟨false,rfl,zQ (fun h=>h hc)⟩,HP _ (S.trans (Q.mono (by rw[zA J];omega)))⟩
 have A:=zB C;obtain⟨iO,he,N,n,m⟩:=zS zEb;have HI:=zB he;have HZ:=zB (yK N (yK n m));clear he N n m;have HQ:=zB h;have G:=zB (zEi C);clear h C;obtain⟨ak,ck,rfl⟩:∃a c,kv=.slice a ks.length c:=zR HQ.row;have h7:Hid ((Value.slice ak ks.length ck).ownBlock≠some w.heap.size):=fun e=>Jy ((HQ.row.lt _ e).2)
 rcases HQ.mp with⟨rfl,hq⟩|⟨bm,rfl,hw,D⟩;focus
  have hu:=fun w1=>zUu w1
  have h6:=@run_makeMap prog
  have ht:=zB hq
  clear hq
  go_enter func146,ntmps146
  go_wp2_with (first|(go_at_call 189;rw[<-zA R];(with_reducible refine(zA HH).mono ?_);rintro e w1 ⟨⟨v,rfl,hv⟩,hx⟩;have Q:=zB hx;obtain rfl:v=false:=(by cases v;rfl;exact yR (hv.1 rfl) A);clear hv hx;have hz:w.heap.size+1<=w1.heap.size:=(by have:=Q.size;rw[zA J] at this;exact this);have P:b<w1.heap.size:=Jo;have U:Hid (Below w.heap.size w w1):=S.trans (Q.mono (by rw[zA J];omega));have h1:=HQ.below U;have H:∀j,w1.cell? (Qa w.heap.size j)=W0.cell? (Qa w.heap.size j):=(fun j=>Q.cell (p:=Qa w.heap.size j) (by show w.heap.size<W0.heap.size;rw[zA J];omega));have j0:=(H 0).trans k0;have j1:=(H 1).trans k1;have j2:=(H 2).trans k2;have j3:=(H 3).trans k3;clear H k0 k1 k2 k3 HH;have c0:=h1.c0;have c1:=h1.c1;have f0:=h1.f0;have f1:=h1.f1;have F:=zB h1;clear h1))
  obtain⟨W,hW⟩:=Jx ((w1.setCell (Qa b (o+1)) (.map (some w1.heap.size))).alloc (.map #[] 0))
  have V:(w1.setCell (Qa b (o+1)) (.map (some w1.heap.size))).heap.size=w1.heap.size:=Jt
  have h8:w1.heap.size+1<=W.heap.size:=by rw[hW];simp[World.setCell]
  have hd:∀i,i<w1.heap.size->i≠b->W.heap[i]?=w1.heap[i]?:=fun i hi hy=>by
   rw[hW,(zC (w1.setCell (Qa b (o+1)) (.map (some w1.heap.size))) (.map #[] 0)).block i (by rw[V];exact hi)];exact je _ _ _ _ (Ju hy)
  have hm:∀o',o'≠o+1->W.cell? (Qa b o')=w1.cell? (Qa b o'):=fun o' ho=>by
   rw[hW,(zC (w1.setCell (Qa b (o+1)) (.map (some w1.heap.size))) (.map #[] 0)).cell (p:=Qa b o') (by show b<_;rw[V];exact P)];exact yj _ _ _ _ (by first|(simp;done)|(simp;omega)|(intro x;injection x with _ x;omega))
  have hg:∀o',W.frozen? (Qa b o')=w1.frozen? (Qa b o'):=fun o'=>by
   rw[hW,(zC (w1.setCell (Qa b (o+1)) (.map (some w1.heap.size))) (.map #[] 0)).frozen (p:=Qa b o') (by show b<_;rw[V];exact P)];exact yv _ _ _ _
  have h4:W.cell? (Qa b (o+1))=some (.map (some w1.heap.size)):=by
   rw[hW,(zC (w1.setCell (Qa b (o+1)) (.map (some w1.heap.size))) (.map #[] 0)).cell (p:=(Qa b (o+1))) (by show b<_;rw[V];exact P)];exact yt _ _ _ c1
  have E:zCO W w1.heap.size ks.length (gQ ks):=by
   have:=zCO.made (w1.setCell (Qa b (o+1)) (.map (some w1.heap.size)));rw[V,<-hW] at this;rw[zA ht];exact this.congr (fun t=>rfl)
  obtain⟨w3,M,h2,c0',m0,m1,K,f,y⟩:=zNw (X:=w.heap.size) F Jo A hs hl Jo hd (by rw[hW];exact⟨rfl,rfl,rfl⟩) hm hg h4 Jo Jo (fun e=>Jy ((F.row.lt _ e).2)) (yU ⟨_,rfl,yk _⟩) E Jo Jo Jo
  have h0:=zB hW
  clear E hW hd hm hg V
  have x0:=(K 0).1.trans j0
  have x1:=(K 1).1.trans j1
  have x2:=(K 2).1.trans j2
  have x3:=(K 3).1.trans j3
  have y0:=(K 0).2.trans j0
  have y1:=(K 1).2.trans j1
  have y2:=(K 2).2.trans j2
  have y3:=(K 3).2.trans j3
  have hn:=zB f
  have I:=zB y
  clear K f y j0 j1 j2 j3
  rw[<-zA h0]
  go_region
  go_wp2_with fail
  have hr:=zB (fun w' (hh:ZT w1 b o B (.slice ak ks.length ck) none (ks++[t]) w')=>show zBD (.returned (.bool true)) (t ∉ ks)/\ZT w b o B (.slice ak ks.length ck) none (zDz ks t) w' from⟨⟨true,rfl,Zb A⟩,by rw[zA G];exact ZT.step (Eff.of_below U O _ _ _) (yS rfl) (yS rfl) hh⟩)
 rotate_left
 focus
  have hu:=fun w1=>zSu bm w1
  have T:bm≠b:=fun e=>HQ.np (by rw[e])
  have hp:(Value.slice ak ks.length ck).ownBlock≠some bm:=fun e=>HQ.nn bm e rfl
  have h5:=D.lt
  have Z:=zB D
  clear D
  go_enter func146,ntmps146
  go_wp2_with (first|(go_at_call 189;rw[<-zA R];(with_reducible refine(zA HH).mono ?_);rintro e w1 ⟨⟨v,rfl,hv⟩,hx⟩;have Q:=zB hx;obtain rfl:v=false:=(by cases v;rfl;exact yR (hv.1 rfl) A);clear hv hx;have hz:w.heap.size+1<=w1.heap.size:=(by have:=Q.size;rw[zA J] at this;exact this);have P:b<w1.heap.size:=Jo;have U:Hid (Below w.heap.size w w1):=S.trans (Q.mono (by rw[zA J];omega));have h1:=HQ.below U;have H:∀j,w1.cell? (Qa w.heap.size j)=W0.cell? (Qa w.heap.size j):=(fun j=>Q.cell (p:=Qa w.heap.size j) (by show w.heap.size<W0.heap.size;rw[zA J];omega));have j0:=(H 0).trans k0;have j1:=(H 1).trans k1;have j2:=(H 2).trans k2;have j3:=(H 3).trans k3;clear H k0 k1 k2 k3 HH;have c0:=h1.c0;have c1:=h1.c1;have f0:=h1.f0;have f1:=h1.f1;have F:=zB h1;clear h1))
  have E:zCO w1 bm ks.length (gQ ks):=Z.kept (zE U none) Js
  obtain⟨w3,M,h2,c0',m0,m1,K,f,y⟩:=zNw (X:=w.heap.size) F Jo A hs hl (yk _) (fun _ _ _=>rfl) ⟨rfl,rfl,rfl⟩ (fun _ _=>rfl) (fun _=>rfl) c1 hw T hp (yS rfl) E Jo Jo Jo
  clear E
  have x0:=(K 0).1.trans j0
  have x1:=(K 1).1.trans j1
  have x2:=(K 2).1.trans j2
  have x3:=(K 3).1.trans j3
  have y0:=(K 0).2.trans j0
  have y1:=(K 1).2.trans j1
  have y2:=(K 2).2.trans j2
  have y3:=(K 3).2.trans j3
  have hn:=zB f
  have I:=zB y
  clear K f y j0 j1 j2 j3
  go_region
  go_wp2_with fail
  have hr:=zB (fun w' (hh:ZT w1 b o B (.slice ak ks.length ck) (some bm) (ks++[t]) w')=>show zBD (.returned (.bool true)) (t ∉ ks)/\ZT w b o B (.slice ak ks.length ck) (some bm) (zDz ks t) w' from⟨⟨true,rfl,Zb A⟩,by rw[zA G];exact ZT.step (Eff.of_below U O _ _ _) (yS rfl) (yS rfl) hh⟩)
 all_goals
  have g:b<w3.heap.size:=Jo
  have hf:=zB HQ.nk
  have k6:∀o',(w3.alloc o').drew.cell? (Qa b o)=some (.slice ak ks.length ck):=fun o'=>((zC w3 o').cell (p:=Qa b o) g).trans m0
  clear M x0 x1 x2 x3
  go_region_law (refine step_append_lies _ (by rfl) (.tmp 31) (.tmp 33) 61 (by rfl) B 33 iO _ 4 40 underlying61 HI HZ.1 HZ.2.1 HZ.2.2 rfl Jd _ ks.length (zl ks) (by rfl) (hn.below ((zC _ _).drew)) (Qa w3.heap.size 0) 1 1 (zl [t]) (by rfl) rfl (fun j u hj=>(Ju (zD9 w3 t j u hj))) (zAi _) Jd Jm Jo Jq _ rfl ?_;intro g4 c4 w4 d q L hk;have m2:=(zK q (b:=b) Jq hf o).trans (k6 _);have m3:=(ZW q (b:=b) Jq hf o).trans (((zC w3 _).frozen (p:=Qa b o) g).trans m1);have h3:=zB (hr _ (I _ _ _ _ d q (L.imp id (fun e=>e.trans Js))));clear d q L hk)
  all_goals(go_wp2_with fail;go_ret;exact h3)
end Go.Proofs.YtadiaghhackbjaaGreatDoor
