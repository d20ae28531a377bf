import Derived.Test.YtadiaghhackbjaaGreatDoorU06
import Derived.Test.YtadiaghhackbjaaGreatDoorU10
import Derived.Test.YtadiaghhackbjaaGreatDoorU11
import Derived.Test.YtadiaghhackbjaaGreatDoorU12
namespace Go.Proofs.YtadiaghhackbjaaGreatDoor
set_option linter.all false
set_option maxHeartbeats 0
set_option maxRecDepth 100000
open Proofs.Tryz RowKit
variable{ls:List LnR}{s:ByteArray}
theorem zS7(l:List (Nat×Nat)):∀n:Nat,(∀p∈l,wds (s.extract p.1 p.2)≠[zAK])->bgN s l n=0:=by
 induction l with
 |nil=>intro n _;rfl
 |cons p r ih=>
  intro n h;simp only[bgN];rw[yP (h p Js)];exact ih _ fun q hq=>h q (by simp[hq])
theorem zS8(l:List (Nat×Nat)):∀n i:Nat,i<l.length->wds (s.extract (l.getD i (0,0)).1 (l.getD i (0,0)).2)=[zAK]->(∀j,j<i->wds (s.extract (l.getD j (0,0)).1 (l.getD j (0,0)).2)≠[zAK])->bgN s l n=n+i+1:=by
 induction l with
 |nil=>intro n i h _ _;simp at h
 |cons p r ih=>
  intro n i hi h hj;cases i with
  |zero=>
   have e:(p::r).getD 0 (0,0)=p:=rfl;rw[e] at h;simp only[bgN];rw[yQ h,Nat.add_zero]
  |succ i=>
   have e0:(p::r).getD 0 (0,0)=p:=rfl;have e:∀k,(p::r).getD (k+1) (0,0)=r.getD k (0,0):=fun k=>rfl
   have h0:=hj 0 Jo;rw[e0] at h0;rw[e] at h;simp only[bgN];rw[yP h0,ih (n+1) i (Ju hi) h (fun j H=>by have:=hj (j+1) Jo;rwa[e] at this)];omega
theorem zQV{i:Nat}(h:i<ls.length):(plc ls).getD i (0,0)=((atL ls i).f,(atL ls i).t):=by
 simp[plc,atL,yn,h]
theorem zU2{r:Int}(hp:plc ls=pcs 10 s 0)(h:zSB s ls r):r+1=(bgN s (pcs 10 s 0) 0:Int)/\bgN s (pcs 10 s 0) 0<=ls.length:=by
 have hw:∀i,i<ls.length->wds (s.extract ((pcs 10 s 0).getD i (0,0)).1 ((pcs 10 s 0).getD i (0,0)).2)=wsL s ls i:=fun i hi=>by rw[<-hp,zQV hi];rfl
 have hl:(pcs 10 s 0).length=ls.length:=by rw[<-hp];simp[plc]
 rcases h with⟨rfl,h⟩|⟨i,hi,rfl,h1,h2⟩
 ·rw[zS7 _ _ (fun p k=>?_)]
  ·exact⟨Jo,ym _⟩
  ·obtain⟨i,hi,e⟩:=List.mem_iff_getElem.1 k;have H:i<ls.length:=Jo;have e2:(pcs 10 s 0).getD i (0,0)=p:=by rw[yn,yr hi,<-e];rfl
   have:=h i H;rw[<-hw i H,e2] at this;exact this
 ·rw[zS8 _ _ i (by omega) (by rw[hw i hi];exact h1) (fun j hj=>by rw[hw j (by omega)];exact h2 j hj)];exact⟨Jo,Jo⟩
theorem zU3{i:Nat}(hp:plc ls=pcs 10 s 0)(hi:i<ls.length):(atL ls i).f<=(atL ls i).t/\(atL ls i).t<=s.size:=by
 have hm:((atL ls i).f,(atL ls i).t)∈plc ls:=by
  unfold plc;exact List.mem_map_of_mem (f:=fun l:LnR=>(l.f,l.t)) (zFv hi)
 rw[hp] at hm;unfold pcs at hm;obtain⟨h1,h2,_⟩:=zP1 10 s (s.size-0+1) 0 (ym _) ((atL ls i).f,(atL ls i).t) hm;exact⟨h1,h2⟩
theorem zMM(s:JZ)(o b:OpR)(w:JY)(hs:s.size<=900000)(hb:∀ws,OpW ws o->OpT b)(hd:b.s.size<=16):Calls prog 27 #[Qs s,.agg #[Qs o.s,Qi o.k,Qi o.l,Qi o.sd],.agg #[Qs b.s,Qi b.k,Qi b.l,Qi b.sd]] w fun e w'=>(∃t:JZ,e=.returned (Qs t)/\t.size<=1000000000000/\Hid (zSn s o b t))/\Qb w w':=by
 obtain⟨W0,q⟩:=Jx ((w.alloc (.cells #[Qs o.s,Qi o.k,Qi o.l,Qi o.sd] 33)).alloc (.cells #[Qs b.s,Qi b.k,Qi b.l,Qi b.sd] 33));have ho:=zB q;have I:Qb w W0:=by rw[q];exact(zC _ _).alloc Js _
 have z0:w.heap.size+1<W0.heap.size:=by rw[q];simp
 have L:=zB (by rw[q];exact⟨Jg,Jg,Jg,Jg⟩:zBO W0 w.heap.size o);have ha:=zB (by rw[q];exact⟨Jg,Jg,Jg,Jg⟩:zBO W0 (w.heap.size+1) b);have E:=zB I;have HB:=zB hb;have F:=zB (zH9 s W0 Jo);have hj:=zLK hd;clear q I hb;go_enter func27,ntmps27;go_wp2_with fail;rw[<-zA ho];go_call zA F as e w1 ⟨g,c,ls,rfl,hg,hgl,HOL,HST,HPL,hll,hb1⟩;have z1:=hb1.size;have he:=zB (L.below hb1);have hc:=zB (ha.below hb1);have T:=zB (E.trans (hb1.mono E.size));clear hb1 F L ha E;go_wp2_with fail;obtain⟨n,hn⟩:=Jx (bgN s (pcs 10 s 0) 0);have HN:=zB hn;clear hn;go_loopw [8,9] (fun ov iv wr=>∃(i:Nat)(t:JZ),i<=n/\iv=Qi i/\ov=Qs t/\t.size<=1000000*i/\Hid (HdI s o b (pcs 10 s 0) i t)/\Hid (Qb w1 wr)) (fun _ iv _=>n-(intOf iv).toNat);case atStart=>exact⟨0,_,ym _,rfl,rfl,yk _,zB rfl,zB (yJ _ _)⟩
 case round=>
  obtain⟨i,t,hi,rfl,rfl,hw,HE,a⟩:=hrel;have Q:=zA a;have zw:=Q.size;have U:=zB (fun l hl=>(HST l hl).below Q);have y:=zB (HOL.below Q hgl);have ht:=zB (he.below Q);have hm:=zB (hc.below Q);have S:=zB (zIC s g c ls wr Jo y U);clear Q;go_wp2_with fail;go_call zA S as e w2 ⟨r,rfl,hbeg,hw2⟩;have M:=hw2.symm;subst M;obtain⟨hr,N⟩:=zU2 HPL hbeg;rw[<-zA HN] at hr N;clear hw2 hbeg S;by_cases hy:i<n
  ·have Z:(i:Int)<=r:=Jo;have Y:i<ls.length:=Jo;obtain⟨o0,o1,o2⟩:=(zA y) i Y;have j:=zQV Y;rw[zA HPL] at j;obtain⟨m1,m2⟩:=zU3 HPL Y;have H:=(zA U) _ (zFv Y);obtain⟨wv,G⟩:=Jx ((atL ls i).wv);obtain⟨f,hf⟩:=Jx ((atL ls i).f);obtain⟨z,hz⟩:=Jx ((atL ls i).t);rw[<-G] at o0 H;rw[<-hf] at o1 m1 j H;rw[<-hz] at o2 m1 m2 j H;have D:=zB j;obtain⟨ws,V⟩:=Jx (wds (s.extract f z));rw[<-V] at H;have O:=zB V;have h3:(s.extract f z).size<=900000:=by rw[Za];omega
   have m:=zB (zJa wv ws wr H (fun x hx=>by
    have h1:x.size<=(s.extract f z).size:=zGz (by rw[<-V];exact hx)
    unfold maxLen;omega))
   obtain⟨av,cv,rfl,_⟩:=H;clear j G hf hz V N hr;go_wp2_with fail;go_call zA m as e w3 ⟨d,v,rfl,hv,hb3⟩;have z3:=hb3.size;obtain⟨W4,u⟩:=Jx (w3.alloc (.cells #[Qs d.s,Qi d.k,Qi d.l,Qi d.sd] 33));have X:Qb wr W4:=by rw[u];exact hb3.alloc z3 _
   have A:=zB (a.trans (X.mono zw));obtain⟨a0,a1,a2,a3⟩:=ht.below X;obtain⟨d0,d1,d2,d3⟩:=hm.below X;obtain⟨x0,x1,x2,x3⟩:zBO W4 w3.heap.size d:=by rw[u];exact⟨Jg,Jg,Jg,Jg⟩
   obtain⟨_,_,_⟩:=(zA y) i Y;have p1:=(X.cell (p:=(Qa g (i*3+1))) (Jo:g<wr.heap.size)).trans o1;have p2:=(X.cell (p:=(Qa g (i*3+2))) (Jo:g<wr.heap.size)).trans o2;have hp:=zB u;clear hb3 X m u;have HQ:=zB (fun W=>zBs d o W);have hu:=zDm;have h2:(f:Int)<=(z:Int):=Jo;have h4:(z:Int)<=(s.size:Int):=Jo;have h0:(f:Int)<=(s.size:Int):=Jo;go_upto_region 7 with fail
   rw[<-zA hp];have key:(v=true/\ZV d o=true/\OpW ws o)\/((v=false\/ZV d o=false)/\¬ OpW ws o):=by
    rcases hv with⟨rfl,h⟩|⟨rfl,h⟩
    ·by_cases e:d=o
     ·subst e;exact yS ⟨rfl,ZD.2 rfl,h⟩
     ·refine yU ⟨yU ?_,fun h'=>e (h.one h')⟩;cases hx:ZV d o with
      |false=>rfl
      |true=>exact yR (ZD.1 hx) e
    ·exact yU ⟨yS rfl,h o⟩
   clear hv;rcases key with⟨rfl,P,K⟩|⟨R,K⟩
   ·have hq:=zA HQ;simp only[P] at hq;clear P HQ;have C:=zB (zPD b W4 (HB _ K) Jo);obtain⟨J,hJ⟩:=Jx (zA8 (dW b));have B:=zB (show HdI s o b (pcs 10 s 0) (i+1) (t++J++⟨#[10]⟩) from⟨t,HE,yS ⟨by rw[zA D,<-zA O];exact K,by rw[hJ]⟩⟩);rw[<-hJ] at C hj;clear K hJ;go_wp2_with fail;go_call zA C as e w5 ⟨rfl,hb5⟩;have hh:=zB (A.trans (hb5.mono A.size));clear hb5 C;go_wp2_with fail;refine⟨⟨i+1,_,Jo,Jn,rfl,?_,B,hh⟩,Ji⟩;rw[zA7,zA7];show _+_+1<=_;omega
   ·have B:=zB (show HdI s o b (pcs 10 s 0) (i+1) (t++s.extract f z++⟨#[10]⟩) from⟨t,HE,yU ⟨by rw[zA D,<-zA O];exact K,by rw[zA D]⟩⟩);clear K;have hk:v=false\/(v=true/\ZV d o=false):=by
     cases v with
     |false=>exact yS rfl
     |true=>exact yU ⟨rfl,R.resolve_left Js⟩
    clear R;rcases hk with rfl|⟨rfl,P⟩;rotate_left
    have hq:=zA HQ;simp only[P] at hq;clear P;rotate_left
    all_goals
     clear HQ
     go_wp2_with fail
     go_quiet (fail)
     go_wp2_with fail
     refine⟨⟨i+1,_,Jo,Jn,rfl,?_,B,zB (A.trans ⟨rfl,rfl,rfl,yk _,fun _ _=>rfl⟩)⟩,Ji⟩
     rw[zA7,zA7];show _+_+1<=_;omega
  ·obtain rfl:i=n:=Jo;have Z:¬ (i:Int)<=r:=Jo;have HF:=zB (by unfold zSn;rw[<-zA HN];exact zA HE:zSn s o b t);go_wp2_with fail;go_ret;exact⟨⟨t,rfl,Jo,HF⟩,T.trans (a.mono T.size)⟩
theorem zWc(b J cap bz offz cz j ja jb jj:Nat)(ns:List OpR)(zs:List zD)(o:zD)(d:Int)(B:Nat)(u:Value)(us H K vs:List zD)(w:JY)(hm:ns.length<=1048576)(He:ZA ns)(hw:Ops w b J ns)(hb:b<B)(h8:Zv w bz offz zs)(Hi:bz<B)(hB:B<=w.heap.size)(c:ZK w B u us)(hj:j<zs.length)(Hr:zs.length<=20000)(ho:atN zs j=⟨o.k,o.t,(ja:Int),(jb:Int)⟩)(hd:Zh o)(hk:zY o.k=2)(hf:fnd ns o.t (o.k-2)=some jj)(hF:K.length<=90000){U U2:List zD}(hZ:H=us++U)(h9:K=H++U2)(hH:vs=us++zDh ns o d us.length ((U++U2)++[⟨o.k,o.t,(H.length:Int)-1,(K.length:Int)-1⟩]))(hc:∀W,Ops W b J ns->Zv W bz offz zs->B<=W.heap.size->ZK W B u us->Calls prog 77 #[.agg #[.slice (some (Qa b J)) ns.length cap],.slice (some (Qa bz offz)) zs.length cz,Qi ja,Qi (ZU (atO ns jj).s (atO ns jj).k (atO ns jj).l (atO ns jj).sd false),u] W (zAQ W B u H))(hK:∀u' W,Ops W b J ns->Zv W bz offz zs->B<=W.heap.size->ZK W B u' H->Calls prog 77 #[.agg #[.slice (some (Qa b J)) ns.length cap],.slice (some (Qa bz offz)) zs.length cz,Qi jb,Qi (ZU (atO ns jj).s (atO ns jj).k (atO ns jj).l (atO ns jj).sd true),u'] W (zAQ W B u' K)):Calls prog 77 #[.agg #[.slice (some (Qa b J)) ns.length cap],.slice (some (Qa bz offz)) zs.length cz,Qi j,Qi d,u] w (zAQ w B u vs):=by
 obtain⟨A,r⟩:∃A,Hid (A=us++((U++U2)++[⟨o.k,o.t,(H.length:Int)-1,(K.length:Int)-1⟩])):=⟨_,zB rfl⟩;have hA:=r;have m:A=K++[⟨o.k,o.t,(H.length:Int)-1,(K.length:Int)-1⟩]:=by
  rw[zA r,<-yA,<-yA,<-hZ,<-h9]
 have Hp:A.length<=90001:=by rw[m,yq];simp;omega
 have Ho:H.length<=90000:=by rw[h9,yq] at hF;omega
 obtain⟨i0,hJ,hU,hV,hY⟩:=zS zDK;have HI:=zB hJ;have HZ:=zB (yK hU (yK hV hY));clear hJ hU hV hY;have Hq:(j:Int)<(zs.length:Int):=Jo;have Hd:bz<w.heap.size:=Jo;have hP:b<w.heap.size:=Jo;obtain⟨h0,h1,h2,h3⟩:=h8 j hj;rw[ho] at h0 h1 h2 h3;simp only at h0 h1 h2 h3;have HD:=zB (by rw[eq_comm,decide_eq_true_iff];exact hd:true=decide (3<=o.k/\o.k<=5));have Hj:=hd.1;have Hf:=hd.2;have HF:=zB hf;have Hm:=(zAg hf).1;have Hb:=zB (He jj Hm);have Hn:Hid (3<=o.k->o.k<=5->fnd ns o.t (o.k-2)≠none):=fun _ _=>by rw[hf];simp
 have hh:=zB (zJp hH hA);have ha:=zB c.base;have hn:∀x,w.heap.size<=x->u.ownBlock≠some x:=fun x hx e=>Jy (c.lt _ e)
 obtain⟨a0,c0,rfl⟩:=ZE c;obtain⟨u,hu⟩:=Jx (Value.slice a0 us.length c0);have F:=zB hn;have HW:=zB hw;have h5:=zB h8;have I:=zB c;have hQ:Hid (∀o1 o2 o3:Obj,Qb w (((w.alloc o1).alloc o2).alloc o3)):=fun o1 o2 o3=>((zC w o1).alloc Js o2).alloc Jq o3
 have hI:=zB (by rw[hu]:zAQ w B (Value.slice a0 us.length c0) vs=zAQ w B u vs);rw[zA hI];have hR:=zB hu;rw[<-hu] at ha;have HC:=zB hc;have Hk:=zB hk;have hO:=zB hK;replace hA:=zB m;clear hk hZ h9 r m hK;clear hw h8 c ho hH hn hu hI hc hd hf;go_enter func77,ntmps77;go_wp2_with fail;go_call zAp ⟨o.k,o.t,(ja:Int),(jb:Int)⟩ _ true HD as e w1 ⟨rfl,hb1⟩;have D:Qb w w1:=((hQ) _ _ _).trans (hb1.mono Jq);have t1:w1.cell? (Qa w.heap.size 0)=some (.slice (some (Qa b J)) ns.length cap):=Jc hb1 Jh Jg;have h7:Hid (Zj w1 (w.heap.size+1) ⟨o.k,o.t,(ja:Int),(jb:Int)⟩):=Zj.below ⟨Jg,Jg,Jg,Jg,Jg,Jg⟩ hb1;have hE:Hid (Zj w1 (w.heap.size+1+1) ⟨o.k,o.t,0,0⟩):=Zj.below ⟨Jg,Jg,Jg,Jg,Jg,Jg⟩ hb1;have z1:w.heap.size+3<=w1.heap.size:=Jz hb1.size
 obtain⟨n0,n1,n2,n3,_,_⟩:=zA h7;simp only at n0 n1 n2 n3;clear hb1 hQ;go_wp2_with fail;go_call zEv b J cap ns ⟨o.k,o.t,(ja:Int),(jb:Int)⟩ jj _ hm (HW.below D hP) Jo Hj Hf HF as e w2 ⟨rfl,hb2⟩;have O:=D.trans (hb2.mono D.size);have z2:w.heap.size+3<=w2.heap.size:=yw z1 hb2.size;have L:Qb w2 (w2.alloc (.cells #[Qs (atO ns jj).s,Qi (atO ns jj).k,Qi (atO ns jj).l,Qi (atO ns jj).sd] 33)).drew:=(zC _ _).drew;have q:Hid ((w2.alloc (.cells #[Qs (atO ns jj).s,Qi (atO ns jj).k,Qi (atO ns jj).l,Qi (atO ns jj).sd] 33)).drew.cell? (Qa w.heap.size 0)=some (.slice (some (Qa b J)) ns.length cap)):=(L.cell (p:=Qa w.heap.size 0) (show w.heap.size<w2.heap.size by omega)).trans ((hb2.cell (p:=Qa w.heap.size 0) (show w.heap.size<w1.heap.size by omega)).trans t1);have X:=zB ((h7.below hb2).below L);have y:=zB ((hE.below hb2).below L);have Q:Hid (zBO (w2.alloc (.cells #[Qs (atO ns jj).s,Qi (atO ns jj).k,Qi (atO ns jj).l,Qi (atO ns jj).sd] 33)).drew w2.heap.size (atO ns jj)):=zBO.below (w:=w2.alloc (.cells #[Qs (atO ns jj).s,Qi (atO ns jj).k,Qi (atO ns jj).l,Qi (atO ns jj).sd] 33)) ⟨Jg,Jg,Jg,Jg⟩ (yJ _ _).drew;have a:=zB (O.trans (L.mono O.size));replace I:=zB (I.below a);have hy:=zB (Js:w2.heap.size+1<=(w2.alloc (.cells #[Qs (atO ns jj).s,Qi (atO ns jj).k,Qi (atO ns jj).l,Qi (atO ns jj).sd] 33)).drew.heap.size);clear hb2 L t1 h7 hE n0 n1 n2 n3 D O;go_wp2_with fail;go_region_held (fun w'=>w'.cell? (Qa w.heap.size 0)=some (.slice (some (Qa b J)) ns.length cap)/\w'.cell? (Qa (w.heap.size+1) 2)=some (Qi ja)/\w'.cell? (Qa w2.heap.size 0)=some (Qs (atO ns jj).s)/\w'.cell? (Qa w2.heap.size 1)=some (Qi (atO ns jj).k)/\w'.cell? (Qa w2.heap.size 2)=some (Qi (atO ns jj).l)/\w'.cell? (Qa w2.heap.size 3)=some (Qi (atO ns jj).sd)) (first|(go_keep;done)|exact⟨q,X.2.2.1,Q.1,Q.2.1,Q.2.2.1,Q.2.2.2⟩)
  (first|(go_at_call 124;refine(zBS (atO ns jj).s (atO ns jj).k (atO ns jj).l (atO ns jj).sd false _ Hb).mono ?_;rintro e w3 ⟨rfl,hb3⟩;have R:=hb3;replace q:=zB (Jc hb3 (block_lt_of_cell q) q);replace X:=zB (X.below hb3);replace y:=zB (y.below hb3);replace Q:=zB (Q.below hb3);replace I:=zB (I.below hb3);replace a:=zB (a.trans (R.mono a.size));replace hy:=zB (yw hy hb3.size);clear hb3 R)|(go_at_call 77;refine(HC _ (HW.below a hP) (h5.below a Hd) (yw hB a.size) I).mono ?_;rintro x w5 ⟨u1,rfl,hr5,hg5,ho5⟩;replace q:=zB ((zK hg5 (b:=w.heap.size) (block_lt_of_cell q) (F _ Jo) 0).trans q);replace X:=zB (X.grown hg5 (F _ Jo));replace y:=zB (y.grown hg5 (F _ Jo));replace Q:=zB (Q.grown hg5 (F _ Jo));have Y:=zB (zV a hg5);have hg:=zB (ho5.imp id (fun⟨k,h1,h2⟩=>⟨k,h1,yw hy h2⟩):u1.ownBlock=(Value.slice a0 us.length c0).ownBlock\/∃k,u1.ownBlock=some k/\w2.heap.size+1<=k);obtain⟨a1,c1,rfl⟩:=ZE hr5;have v:=hr5;clear hg5 ho5 hr5 I a))
 rw[<-zA hR] at Y hg;have V:=zB (show ∀x,w.heap.size<=x->x<w2.heap.size+1->(Value.slice a1 H.length c1).ownBlock≠some x from fun x hx ht e=>by
  rcases zA hg with h|⟨k,h1,h2⟩
  ·exact F x hx (by rw[<-zA hR,<-h];exact e)
  ·rw[h1] at e;injection e with e;omega)
 have P:Hid (∀x,w.heap.size<=x->x<w.heap.size+3->(Value.slice a1 H.length c1).ownBlock≠some x):=fun x hx ht=>V x hx Jo
 have C:Hid ((Value.slice a1 H.length c1).ownBlock=u.ownBlock\/∃k,(Value.slice a1 H.length c1).ownBlock=some k/\w.heap.size<=k):=hg.imp id (fun⟨k,h1,h2⟩=>⟨k,h1,Jo⟩);have mc:=zA y;obtain⟨mm0,mm1,mm2,mm3,mm4,mm5⟩:=mc;simp only at mm0 mm1 mm2 mm3;have nc:=zA X;obtain⟨nn0,nn1,nn2,nn3,_,_⟩:=nc;simp only at nn0 nn1 nn2 nn3;have n0':(w5.setCell (Qa (w.heap.size+1+1) 2) (Qi ((H.length:Int)-1))).cell? (Qa (w.heap.size+1) 0)=some (Qi o.k):=(yj _ _ _ _ (fun x=>by injection x with x1;omega)).trans nn0;replace y:=zB (y.set2 ((H.length:Int)-1));replace X:=zB (X.other (g:=w.heap.size+1+1) (j:=2) (Qi ((H.length:Int)-1)) Jo);replace q:=zB ((yj w5 (Qa (w.heap.size+1+1) 2) (Qa w.heap.size 0) (Qi ((H.length:Int)-1)) (fun x=>by injection x with x1;omega)).trans q);replace v:=zB (v.other (g:=w.heap.size+1+1) (j:=2) (Qi ((H.length:Int)-1)) (P _ Jo Jo));replace Y:=zB (zX Y (⟨rfl,rfl,rfl,Jt,fun i _ hi=>je _ _ _ _ (fun e=>hi (by rw[e]))⟩:w5.grownBy (w5.setCell (Qa (w.heap.size+1+1) 2) (Qi ((H.length:Int)-1))) (some (w.heap.size+1+1))) (yU ⟨_,rfl,Jo⟩));replace Q:=zB (Q.other (g:=w.heap.size+1+1) (j:=2) (Qi ((H.length:Int)-1)) Jo);have G:Hid (w2.heap.size+1<=w5.heap.size):=yl (by have:=block_lt_of_cell Q.1;simpa[World.setCell] using this) (yk _);clear nn0 nn1 nn2 nn3 mm0 mm1 mm3 mm5 HC n0';replace q:=zB ((show Below (w5.setCell (Qa (w.heap.size+1+1) 2) (Qi ((H.length:Int)-1))).heap.size (w5.setCell (Qa (w.heap.size+1+1) 2) (Qi ((H.length:Int)-1))) (w5.setCell (Qa (w.heap.size+1+1) 2) (Qi ((H.length:Int)-1))).drew from(yJ _ _).drew).cell (p:=Qa w.heap.size 0) (block_lt_of_cell q) |>.trans q);replace X:=zB (X.below (yJ _ _).drew);replace y:=zB (y.below (yJ _ _).drew);replace Q:=zB (Q.below (yJ _ _).drew);replace v:=zB (v.below (yJ _ _).drew);replace Y:=zB (zX Y (zE ((yJ _ _).drew) u.ownBlock) (yS rfl));replace G:=zB (by have:=zA G;simpa[World.setCell] using this:w2.heap.size+1<=(w5.setCell (Qa (w.heap.size+1+1) 2) (Qi ((H.length:Int)-1))).drew.heap.size);have n0':(w5.setCell (Qa (w.heap.size+1+1) 2) (Qi ((H.length:Int)-1))).cell? (Qa (w.heap.size+1) 0)=some (Qi o.k):=X.1;go_wp2_with (go_at_call 79;refine(zf Hk 2 rfl _).mono ?_;rintro e w' ⟨rfl,rfl⟩);clear n0' mm2 mm4;go_region_held (fun w'=>w'.cell? (Qa w.heap.size 0)=some (.slice (some (Qa b J)) ns.length cap)/\w'.cell? (Qa (w.heap.size+1) 3)=some (Qi jb)/\w'.cell? (Qa w2.heap.size 0)=some (Qs (atO ns jj).s)/\w'.cell? (Qa w2.heap.size 1)=some (Qi (atO ns jj).k)/\w'.cell? (Qa w2.heap.size 2)=some (Qi (atO ns jj).l)/\w'.cell? (Qa w2.heap.size 3)=some (Qi (atO ns jj).sd)) (first|(go_keep;done)|exact⟨q,X.2.2.2.1,Q.1,Q.2.1,Q.2.2.1,Q.2.2.2⟩)
  (first|(go_at_call 124;refine(zBS (atO ns jj).s (atO ns jj).k (atO ns jj).l (atO ns jj).sd true _ Hb).mono ?_;rintro e w6 ⟨rfl,hb3⟩;have R:=hb3;replace q:=zB (Jc hb3 (block_lt_of_cell q) q);replace X:=zB (X.below hb3);replace y:=zB (y.below hb3);replace Q:=zB (Q.below hb3);replace v:=zB (v.below hb3);replace Y:=zB (zX Y (zE hb3 u.ownBlock) (yS rfl));replace G:=zB (yw G hb3.size);clear hb3 R)|(go_at_call 77;refine(hO _ _ (zER HW Y hb hB ha) (zPC h5 Y Hi hB ha) (yw hB Y.size) v).mono ?_;rintro x w7 ⟨u2,rfl,hr7,hg7,ho7⟩;replace q:=zB ((zK hg7 (b:=w.heap.size) (block_lt_of_cell q) (V _ Jo Jo) 0).trans q);replace X:=zB (X.grown hg7 (V _ Jo Jo));replace y:=zB (y.grown hg7 (V _ Jo Jo));replace Q:=zB (Q.grown hg7 (V _ Jo Jo));replace Y:=zB (zX Y hg7 C);have hs:=zB (ho7.imp id (fun⟨k,h1,h2⟩=>⟨k,h1,yw G h2⟩):u2.ownBlock=(Value.slice a1 H.length c1).ownBlock\/∃k,u2.ownBlock=some k/\w2.heap.size+1<=k);obtain⟨a2,c2,rfl⟩:=ZE hr7;replace v:=hr7;clear hg7 ho7 hr7))
 have M:=zB (show ∀x,w.heap.size<=x->x<w.heap.size+3->(Value.slice a2 K.length c2).ownBlock≠some x from fun x hx ht e=>by
  rcases zA hs with h|⟨k,h1,h2⟩
  ·exact P x hx ht (by rw[<-h];exact e)
  ·rw[h1] at e;injection e with e;omega)
 have hq:=zB (show(Value.slice a2 K.length c2).ownBlock=u.ownBlock\/∃k,(Value.slice a2 K.length c2).ownBlock=some k/\w.heap.size<=k by
  rcases zA hs with h|⟨k,h1,h2⟩
  ·rw[h];exact C
  ·exact yU ⟨k,h1,Jo⟩)
 clear P C V hg hs;have P:=M;have C:=hq;clear M hq;obtain⟨mm0,mm1,mm2,mm3,mm4,mm5⟩:=zA y;simp only at mm0 mm1 mm2 mm3;replace y:=zB (y.set3 ((K.length:Int)-1));replace X:=zB (X.other (g:=w.heap.size+1+1) (j:=3) (Qi ((K.length:Int)-1)) Jo);replace q:=zB ((yj w7 (Qa (w.heap.size+1+1) 3) (Qa w.heap.size 0) (Qi ((K.length:Int)-1)) (fun x=>by injection x with x1;omega)).trans q);replace v:=zB (v.other (g:=w.heap.size+1+1) (j:=3) (Qi ((K.length:Int)-1)) (P _ Jo Jo));replace Y:=zB (zX Y (⟨rfl,rfl,rfl,Jt,fun i _ hi=>je _ _ _ _ (fun e=>hi (by rw[e]))⟩:w7.grownBy (w7.setCell (Qa (w.heap.size+1+1) 3) (Qi ((K.length:Int)-1))) (some (w.heap.size+1+1))) (yU ⟨_,rfl,Jo⟩));have hM:=y;have Ha:=X;have h6:=q;clear y X q Q G mm0 mm1 mm2 mm4 hO F h5;obtain⟨mk0,mk1,mk2,mk3,_,_⟩:=zA hM;simp only at mk0 mk1 mk2 mk3;go_wp2_with (at_builtin;refine yL _ rfl (.tmp 56) (.tmp 58) 68 rfl B 106 i0 _ 4 40 underlying68 HI HZ.1 HZ.2.1 HZ.2.2 rfl Jd _ K.length (zT K) rfl (v.below (zC _ _)) (Qa w7.heap.size 0) 1 1 (zT [⟨o.k,o.t,(H.length:Int)-1,(K.length:Int)-1⟩]) rfl rfl (Ju (zAr (w7.setCell (Qa (w.heap.size+1+1) 3) (Qi ((K.length:Int)-1))) w7.heap.size ⟨o.k,o.t,(H.length:Int)-1,(K.length:Int)-1⟩ Jt)) (zj _) ?b1 ?b2 ?b3 ?next);case b1=>exact Jm
 case b2=>omega
 case b3=>first|omega|(have:=Y.size;simp at this ⊢;omega)
 case next=>
  intro v4 w4 N f hC hr;have he:ZK w4 B v4 (K++[⟨o.k,o.t,(H.length:Int)-1,(K.length:Int)-1⟩]):=by
   unfold ZK;rw[ze,yq];exact N
  rw[<-zA hA] at he;have S:=zB (zV (zC (w7.setCell (Qa (w.heap.size+1+1) 3) (Qi ((K.length:Int)-1))) _) f);have hN:Hid (v4.ownBlock=(Value.slice a2 K.length c2).ownBlock\/∃k,v4.ownBlock=some k/\(w7.setCell (Qa (w.heap.size+1+1) 3) (Qi ((K.length:Int)-1))).heap.size<=k):=hr.imp id (fun h=>⟨_,h,by first|exact yk _|simp⟩);have T:=zB (zX Y S C);have h4:=zB (ZZ Y C v4.ownBlock hN);have hS:=zB (Ha.grown S (zA P _ Jo Jo));have t4:w4.cell? (Qa w.heap.size 0)=some (.slice (some (Qa b J)) ns.length cap):=(zK S (b:=w.heap.size) (block_lt_of_cell h6) (zA P _ Jo Jo) 0).trans h6;have Hc:=zB (zER HW T hb hB ha);have z4:=T.size;obtain⟨n0,n1,n2,n3,_,_⟩:=zA hS;simp only at n0 n1 n2 n3;obtain⟨a4,c4,rfl⟩:=ZE he;have hG:=zB he;clear N f hC hr he S hN mk0 mk1 mk2 mk3 hM Ha h6 v P Y C;go_wp2_with fail;go_call zBv b J cap ns ⟨o.k,o.t,(ja:Int),(jb:Int)⟩ _ hm Hc Jo Hn as e w5 ⟨rfl,hb5⟩;have hW:zAN ns ⟨o.k,o.t,(ja:Int),(jb:Int)⟩=zAN ns o:=rfl;rw[hW];have Z:=zB (zX T (zE hb5 u.ownBlock) (yS rfl));have hv:=zB (hG.below hb5);have z5:w.heap.size<=w5.heap.size:=yw z4 hb5.size;clear hW hb5 T hG hS Hc t4 n0 n1 n2 n3 z4;by_cases hl:zAN ns o<d
  ·have hz:=zB (hh.1 Jo);clear hh;go_wp2_with (at_builtin;refine yL _ rfl (.tmp 65) (.tmp 70) 68 rfl B 106 i0 _ 4 40 underlying68 HI HZ.1 HZ.2.1 HZ.2.2 rfl Jd _ A.length (zT A) rfl (hv.below (zC _ _)) (Qa w5.heap.size 0) 1 1 (zT [⟨6,⟨#[]⟩,(A.length:Int)-1,0⟩]) rfl rfl (Ju (Zr w5 ⟨6,⟨#[]⟩,(A.length:Int)-1,0⟩)) (zj _) ?b4 ?b5 ?b6 ?next2);case b4=>exact Jm
   case b5=>omega
   case b6=>first|omega|(simp;omega)
   case next2=>
    intro v6 w6 n E hD hp;have Hg:=zB (show ZK w6 B v6 vs by
     rw[zA hz]
     unfold ZK
     rw[ze,yq]
     exact n)
    have hX:=zB (zV (zC w5 _) E);have Hl:=zB (zX Z hX h4);have Hh:=zB (ZZ Z h4 v6.ownBlock (hp.imp id (fun h=>⟨_,h,by first|exact yk _|simp⟩)));clear n E hD hp hX Z hv;go_wp2_with fail;go_ret;exact⟨v6,rfl,Hg,Hl,Hh⟩
  ·have hz:=zB (hh.2 Jo);clear hh;go_wp2_with fail;go_ret;exact⟨_,rfl,by rw[zA hz];exact hv,Z,h4⟩
theorem zIw{xs:List zD}(h:Zk xs){i:Nat}(hi:1<=i):1<=cnt xs i:=by
 have:=zNC xs 1 i hi;rw[zQr h] at this;exact this
theorem zBd(b Q cap bz offz cz:Nat)(ns:List OpR)(xs zs:List zD)(hm:ns.length<=1048576)(P:ZA ns)(K:Zk xs)(d:zCt ns xs)(y:zs=er xs xs.length):∀n i f,i<n->i<xs.length->frS xs i=some f->∀(j:Nat)(H:Int)(B:Nat)(u:Value)(us vs:List zD)(w:JY),j+1=cnt xs (i+1)->Ops w b Q ns->b<B->Zv w bz offz zs->bz<B->B<=w.heap.size->ZK w B u us->us.length+2*(i+1-f)<=80000->vs=us++gS ns xs i H us.length ->
  Calls prog 77 #[.agg #[.slice (some (Qa b Q)) ns.length cap],.slice (some (Qa bz offz)) zs.length cz,Qi j,Qi H,u] w (zAQ w B u vs)
 |0,_,_,h,_,_=>yR h (yx _)
 |n+1,i,f,h,hi,hf=>by
  intro j H B u us vs w hj hw hb D Y hB J Z E;have G:zs.length<=20000:=by
   rw[y,zCk];have:=zGP xs xs.length;have:=K.2.1;omega
  have o:Zh (atN xs i)->∃j,fnd ns (atN xs i).t ((atN xs i).k-2)=some j:=fun ho=>by
   cases e:fnd ns (atN xs i).t ((atN xs i).k-2) with
   |none=>exact yR e (d i hi ho)
   |some j=>exact⟨j,rfl⟩
  rcases zBG hf with⟨hk,ha,I,he⟩|⟨hk,v,ha,I,q⟩|⟨hk,v,I,f2,g,N,ha,q⟩
  ·have h6:(atN xs i).k≠6:=fun e=>by rw[e] at hk;simp[zY] at hk
   obtain⟨x,X⟩:=zSo (m:=xs.length) hi h6;rw[zHo h6] at hj;have ej:j=cnt xs i:=Jo;subst ej;rw[<-y] at x X;refine zUq b Q cap bz offz cz _ ns zs (atN xs i) H B u us vs w hm hw hb D Y hB J x G ?_ hk Jo ?_
   ·rw[X];simp[erN,hk]
   ·rw[E,zEm hk]
  ·have S:=zAD q;have r:=zIw K v;have F:i-1+1=i:=Jo;have O:=zCl ns xs i (i-1) f Jo q;by_cases h6:(atN xs i).k=6
   ·refine zBd b Q cap bz offz cz ns xs zs hm P K d y n (i-1) f Jo Jo q j H B u us vs w ?_ hw hb D Y hB J Jo ?_
    ·rw[hj,zQ4 h6,F]
    ·rw[E,zEC h6 v q]
   ·obtain⟨x,X⟩:=zSo (m:=xs.length) hi h6;rw[zHo h6] at hj;have ej:j=cnt xs i:=Jo;subst ej;rw[<-y] at x X;have a:Zh (atN xs i):=by
     unfold zY at hk;unfold Zh;split at hk
     ·omega
     ·split at hk<;>omega
    obtain⟨jj,c⟩:=o a;have p:∀bb,zh ns (atN xs i) bb=ZU (atO ns jj).s (atO ns jj).k (atO ns jj).l (atO ns jj).sd bb:=fun bb=>by
     unfold zh;rw[c];rfl
    obtain⟨U,hU⟩:=Jx (gS ns xs (i-1) (zh ns (atN xs i) false) us.length);have M:=(O (zh ns (atN xs i) false) us.length).2;rw[<-hU] at M;refine zWU b Q cap bz offz cz _ (cnt xs i-1) jj ns zs (atN xs i) H B u us (us++U) vs w hm P hw hb D Y hB J x G ?_ a hk c (by rw[yq];omega) rfl ?_ ?_
    ·rw[X];have e1:((i:Int)-1).toNat+1=i:=Jo;unfold erN mvd;rw[hk,ha,e1,yP Jd,yP Jd];congr 1;omega
    ·rw[E,zGQ hk h6 v q H us.length hU,yq]
    ·intro W hW V C A;rw[<-p false];exact zBd b Q cap bz offz cz ns xs zs hm P K d y n (i-1) f Jo Jo q (cnt xs i-1) _ B u us _ W (by rw[F];omega) hW hb V Y C A Jo (by rw[hU])
  ·have S:=zAD g;have hc:=zAD q;have r:=zIw K v;have hd:=zIw K N;have F:i-1+1=i:=Jo;have R:f2-1+1=f2:=Jo;have h6:(atN xs i).k≠6:=fun e=>by rw[e] at hk;simp[zY] at hk
   obtain⟨x,X⟩:=zSo (m:=xs.length) hi h6;rw[zHo h6] at hj;have ej:j=cnt xs i:=Jo;subst ej;rw[<-y] at x X;have a:Zh (atN xs i):=by
    unfold zY at hk;unfold Zh;split at hk
    ·omega
    ·split at hk<;>omega
   obtain⟨jj,c⟩:=o a;have p:∀bb,zh ns (atN xs i) bb=ZU (atO ns jj).s (atO ns jj).k (atO ns jj).l (atO ns jj).sd bb:=fun bb=>by
    unfold zh;rw[c];rfl
   obtain⟨U,hU⟩:=Jx (gS ns xs (f2-1) (zh ns (atN xs i) false) us.length);obtain⟨U2,L⟩:=Jx (gS ns xs (i-1) (zh ns (atN xs i) true) (us.length+U.length));have M:=(zCl ns xs i (f2-1) f Jo q (zh ns (atN xs i) false) us.length).2;have T:=(zCl ns xs i (i-1) f2 Jo g (zh ns (atN xs i) true) (us.length+U.length)).2;rw[<-hU] at M;rw[<-L] at T;refine zWc b Q cap bz offz cz _ (cnt xs f2-1) (cnt xs i-1) jj ns zs (atN xs i) H B u us (us++U) (us++U++U2) vs w hm P hw hb D Y hB J x G ?_ a hk c (by rw[yq,yq];omega) rfl rfl ?_ ?_ ?_
   ·rw[X];have e1:((i:Int)-1).toNat+1=i:=Jo;have e2:((f2:Int)-1).toNat+1=f2:=Jo;unfold erN mvd;rw[hk,ha,I,e1,e2,yP Jd,yQ rfl];congr 1<;>omega
   ·rw[E,zHb hk v g N ha q H us.length hU L];simp only[yq]
   ·intro W hW V C A;rw[<-p false];exact zBd b Q cap bz offz cz ns xs zs hm P K d y n (f2-1) f Jo Jo q (cnt xs f2-1) _ B u us _ W (by rw[R];omega) hW hb V Y C A Jo (by rw[hU])
   ·intro u' W hW V C A;rw[<-p true];exact zBd b Q cap bz offz cz ns xs zs hm P K d y n (i-1) f2 Jo Jo g (cnt xs i-1) _ B u' (us++U) _ W (by rw[F];omega) hW hb V Y C A (by rw[yq];omega) (by rw[L,yq])
theorem zHp(b H cap bn q cn:Nat)(xs:List OpR)(ns:List zD)(w:JY)(hm:xs.length<=1048576)(hw:Ops w b H xs)(k:ZA xs)(hB:b<w.heap.size)(hc:¬ zO xs 0):Calls prog 75 #[.agg #[.slice (some (Qa b H)) xs.length cap],.agg #[.slice (some (Qa bn q)) ns.length cn]] w fun e w'=>e=.returned (.bool false)/\Qb w w':=by
 have HW:=zB hw;have HZ:=zB k;have HC:=zB hc;clear hw k hc;go_enter func75,ntmps75;go_wp2_with fail;go_call zAM b H cap xs _ hm (HW.below ((zC _ _).alloc Js _) hB) HZ Jq as e w1 ⟨⟨c,rfl,h⟩,hb1⟩;have Q:(c != 0)=true:=by
  rw[bne_iff_ne];intro e;exact(zA HC) (e ▸ h)
 have K:Qb w w1:=((zC _ _).alloc Js _).trans (hb1.mono Jq);clear h hb1;go_wp2_with fail;go_ret;exact⟨rfl,K⟩
theorem zHq(b k cap bn H cn:Nat)(xs:List OpR)(ns:List zD)(w:JY)(hm:xs.length<=1048576)(x:ns.length<=1048576)(hw:Ops w b k xs)(K:ZA xs)(hB:b<w.heap.size)(q:Zv w bn H ns)(Q:zBb ns)(X:bn<w.heap.size):Calls prog 75 #[.agg #[.slice (some (Qa b k)) xs.length cap],.agg #[.slice (some (Qa bn H)) ns.length cn]] w fun e w'=>zBD e (zO xs 0/\Zk ns/\zCt xs ns)/\Qb w w':=by
 by_cases hc:zO xs 0
 ·go_call zHn b k cap bn H cn xs ns w hm x hw K hB q Q X hc as e w' ⟨⟨v,rfl,hv⟩,hb⟩;exact⟨⟨v,rfl,⟨fun h=>⟨hc,hv.1 h⟩,fun h=>hv.2 h.2⟩⟩,hb⟩
 ·go_call zHp b k cap bn H cn xs ns w hm hw K hB hc as e w' ⟨rfl,hb⟩;exact⟨⟨false,rfl,zQ (fun h=>hc h.1)⟩,hb⟩
theorem zKb(b q cap bn k cn:Nat)(ns:List OpR)(xs:List zD)(w:JY)(hm:ns.length<=1048576)(E:xs.length<=1048576)(hw:Ops w b q ns)(d:ZA ns)(hB:b<w.heap.size)(L:Zv w bn k xs)(m:zBb xs)(B:bn<w.heap.size):Calls prog 45 #[.agg #[.slice (some (Qa b q)) ns.length cap],.agg #[.slice (some (Qa bn k)) xs.length cn]] w fun e w'=>(∃(a:Option Addr)(c:Nat)(us:List zD)(v:Bool),e=.returned (.tuple #[.agg #[.slice a us.length c],.bool v])/\Hid (Zi w' w.heap.size a us)/\Hid (zUF ns xs us v))/\Below w.heap.size w w':=by
 have HW:=zB hw;have I:=zB L;have HZ:=zB d;have G:=zB m;have u:Hid (∀o1 o2 o3:Obj,Below w.heap.size w (((w.alloc o1).alloc o2).alloc o3)):=fun o1 o2 o3=>((zC w o1).alloc Js o2).alloc Jq o3
 clear hw L d m;go_enter func45,ntmps45;go_wp2_with fail;go_call zHq b q cap bn k cn ns xs _ hm E (HW.below (u _ _ _) hB) HZ Jq (I.below (u _ _ _) B) G Jq as e w1 ⟨⟨v,rfl,hv⟩,hb1⟩;have HV:=zB hv;have H:Below w.heap.size w w1:=((u) _ _ _).trans (hb1.mono Jq);have z1:w.heap.size+3<=w1.heap.size:=Jz hb1.size
 have J:=zB (show Cs [(w.heap.size,0,.slice (some (Qa b q)) ns.length cap),(w.heap.size+1,0,.slice (some (Qa bn k)) xs.length cn),(w.heap.size+1+1,0,.slice none 0 0)] w1 from Cs.below (fun p hp=>by
  simp only[List.mem_cons,List.not_mem_nil,or_false] at hp
  rcases hp with rfl|rfl|rfl
  ·simp[go_sem]
  ·simp[go_sem]
  ·simp[go_sem]) hb1)
 have d1:w1.frozen? (Qa (w.heap.size+1+1) 0)=false:=(hb1.frozen (p:=(Qa (w.heap.size+1+1) 0)) Js).trans Jg;have c0:=(zA J) (w.heap.size,0,.slice (some (Qa b q)) ns.length cap) Js;have c1:=(zA J) (w.heap.size+1,0,.slice (some (Qa bn k)) xs.length cn) Js;have c2:=(zA J) (w.heap.size+1+1,0,.slice none 0 0) Js;simp only at c0 c1 c2;clear hv hb1 u;cases v
 ·have HF:Hid (∀W:JY,W=w1.setCell (Qa (w.heap.size+1+1) 0) (.slice none 0 0)->Below w.heap.size w W):=fun W hW=>by rw[hW];exact H.setCell Jq _
  go_wp2_with fail;refine yN (v:=.tuple #[.agg #[.slice none 0 0],.bool false]) ?res rfl ⟨⟨none,0,[],false,rfl,zB (yS ⟨rfl,rfl⟩),zB (yU ⟨fun h=>Bool.false_ne_true (HV.2 h.1),rfl,rfl⟩)⟩,HF _ rfl⟩;case res=>simp[results,results45,go_sem,c2]
 have HY:=zB (HV.1 rfl);clear HV;have Z:=HY.2.1.2.1;have h1:=HY.2.1.1;go_wp2_with fail;go_call zKa bn k cn xs _ E (I.below H B) G (yl B H.size) as e w2 ⟨⟨a2,k2,zs,v,rfl,hown,her⟩,hb2⟩;have r:v=true/\zs=er xs xs.length:=by
  rcases zA her with⟨_,h,h'⟩|⟨h,_⟩
  ·exact⟨h,h'⟩
  ·exact yR HY.2.1 h
 obtain⟨rfl,hz⟩:=r;have D:zs.length=cnt xs xs.length:=by rw[hz,zCk]
 have M:=zIw HY.2.1 h1;have O:=zGP xs xs.length;obtain⟨g2,rfl,ha,K⟩:∃g,a2=some (Qa g 0)/\w1.heap.size<=g/\Zn w2 g zs zs.length:=by
  rcases zA hown with⟨h,_⟩|h
  ·omega
  ·exact h
 have o:=K.1;have N:=zB (K.ops);have s:=zB hz;have X:=H.trans (hb2.mono H.size);have z2:w1.heap.size<=w2.heap.size:=hb2.size;have A:=zB (J.below hb2);have d2:w2.frozen? (Qa (w.heap.size+1+1) 0)=false:=(hb2.frozen (p:=(Qa (w.heap.size+1+1) 0)) (Jo:w.heap.size+1+1<w1.heap.size)).trans d1;have n:=zB D;have S:zs.length<=20000:=Jo;have hb:1<=zs.length:=Jo;clear hown her K hb2 J hz c0 c1 c2 d1 D M O H;obtain⟨W3,y⟩:∃W3,Hid (W3=(w2.alloc (.cells #[Ql g2 zs.length k2] 70)).alloc (.cells #[] 106)):=⟨_,zB rfl⟩;have Y:Below w2.heap.size w2 W3:=by rw[zA y];exact(zC _ _).alloc Js _
 have s3:W3.heap.size=w2.heap.size+2:=by rw[zA y];simp
 have j:=X.trans (Y.mono X.size);have l:=zB (show ZK W3 (w2.heap.size+1) (Ql (w2.heap.size+1) 0 0) [] by
  rw[zA y]
  have:=yG (base:=w2.heap.size+1) (e:=106) (size:=4) (w2.alloc (.cells #[Ql g2 zs.length k2] 70)) #[] 0 Js (ym _) rfl
  simpa[ZK,zT] using this)
 have f:=zB (A.below Y);have d3:W3.frozen? (Qa (w.heap.size+1+1) 0)=false:=(Y.frozen (p:=(Qa (w.heap.size+1+1) 0)) (Jo:w.heap.size+1+1<w2.heap.size)).trans d2;obtain⟨vs,V⟩:=Jx (gS ns xs (xs.length-1) 0 0);have P:=zCl ns xs xs.length (xs.length-1) 0 Jo HY.2.1.2.2.1 0 0;rw[<-V] at P;have ei:(zs.length:Int)-1=((zs.length-1:Nat):Int):=Jo;have Q:=zB (zBd b q cap g2 0 k2 ns xs zs hm HZ HY.2.1 HY.2.2 s xs.length (xs.length-1) 0 Jo Jo HY.2.1.2.2.1 (zs.length-1) 0 (w2.heap.size+1) (Ql (w2.heap.size+1) 0 0) [] vs W3 (by rw[Nat.sub_add_cancel h1,<-zA n];omega) (HW.below j hB) (Jy X.size) (N.below Y o) Jo Jo l (by rw[yZ];omega) (by rw[List.nil_append,yZ];exact V));rw[zA y] at Q;have C:=zB V;have T:=P.1;have t:=P.2;have c0:w2.cell? (Qa w.heap.size 0)=some (.slice (some (Qa b q)) ns.length cap):=(zA A) (w.heap.size,0,.slice (some (Qa b q)) ns.length cap) Js;have hT:w.heap.size<w2.heap.size:=Jo;clear V P l;go_wp2_with fail;refine Q.mono ?_;rw[<-zA y];rintro x w4 ⟨u',rfl,hr,hg,ho⟩;obtain⟨g4,c4,rfl,hd,K⟩:=(show ZK w4 (w2.heap.size+1) u' vs->∃g c,u' = Ql g vs.length c/\w2.heap.size+1<=g/\Zn w4 g vs vs.length from fun h=>by
  have hh:=h
  unfold ZK at hh
  obtain⟨_,⟨rfl,h0⟩|⟨g,cap,hc,rfl,_⟩⟩:=h
  ·omega
  ·have:=zBT hh
   exact⟨g,cap,rfl,this.1,this.2⟩) hr
 have e1:w4.cell? (Qa (w.heap.size+1+1) 0)=some (.slice none 0 0):=(zK hg (b:=w.heap.size+1+1) Jo (by simp[Value.ownBlock];omega) 0).trans (f (w.heap.size+1+1,0,.slice none 0 0) Js);have f1:w4.frozen? (Qa (w.heap.size+1+1) 0)=false:=(yD (w:=W3) (hg.block (w.heap.size+1+1) Jo (by simp[Value.ownBlock];omega))).trans d3;have U:Below w.heap.size w w4:=j.trans ⟨hg.os,hg.tape,hg.output,hg.size,fun i hi=>hg.block i (Jy j.size) (by simp[Value.ownBlock];have:=X.size;omega)⟩;have F:=zB K;clear hr hg ho K Q A f d2 d3 c0 Y y;by_cases hq:vs.length<=20000
 ·have R:¬ (20000:Int)<(vs.length:Int):=Jo;go_wp2_with fail;refine yN (v:=.tuple #[.agg #[Ql g4 vs.length c4],.bool true]) ?res rfl ⟨⟨some (Qa g4 0),c4,vs,true,rfl,zB (yU ⟨g4,rfl,Jo,?_⟩),zB (yS ⟨⟨HY,by rw[<-zA C];exact hq⟩,rfl,C⟩)⟩,?_⟩;case res=>simp[results,results45,go_sem,e1]
  ·exact F.setCell _ _ _ Jo
  ·exact U.setCell Jq _
 ·have R:(20000:Int)<(vs.length:Int):=Jo;go_wp2_with fail;refine yN (v:=.tuple #[.agg #[.slice none 0 0],.bool false]) ?res rfl ⟨⟨none,0,[],false,rfl,zB (yS ⟨rfl,rfl⟩),zB (yU ⟨fun h=>hq (by rw[zA C];exact h.2),rfl,rfl⟩)⟩,?_⟩;case res=>simp[results,results45,go_sem,e1]
  ·exact U.setCell Jq _
end Go.Proofs.YtadiaghhackbjaaGreatDoor
