import Derived.Test.YtadiaghhackbjaaGreatDoorU07
namespace Go.Proofs.YtadiaghhackbjaaGreatDoor
set_option linter.all false
set_option maxHeartbeats 0
set_option maxRecDepth 100000
open Proofs.Tryz RowKit Maps
variable{L bo bs gap p:Nat}{acc:List zU}{s:ByteArray}{v:Value}{w w' wr:World}{xs:List OpR}
theorem zAW(c:UInt8)(k:Int)(w:JY)(h:(cls c:Int)=k):Calls prog 173 #[.int .u8 (c.toNat:Int)] w fun e w'=>e=.returned (Qi k)/\w'=w:=by
 subst h;exact zAE c w
theorem Idx.of_blocks{n:Nat}(h:Idx w bo bs xs n)(h1:w'.heap[bo]?=w.heap[bo]?)(h2:w'.heap[bs]?=w.heap[bs]?):Idx w' bo bs xs n:=by
 obtain⟨⟨D,⟨es,clock,hb,F,hs,hD⟩,a2⟩,⟨E,⟨es',clock',K,F',k,H⟩,a4⟩,a5⟩:=h;exact⟨⟨D,⟨es,clock,h1.trans hb,F,hs,hD⟩,a2⟩,⟨E,⟨es',clock',h2.trans K,F',k,H⟩,a4⟩,a5⟩
structure zDb(w wr:JY)(p bo bs L:Nat)(xs:List OpR)(s:JZ)(gap start:Nat)(acc:List zU)(v:Value):Prop where
 sc:Sc wr p bo bs L s gap start v
 own:wr.ownsRow p 135 3 v acc.length (zu acc)
 ne:v.ownBlock≠some p
 idx:Idx wr bo bs xs xs.length
 bel:Below p w wr
 rd:zI4 xs s gap acc
 bl:zEf s gap start
 le1:gap<=start
 le2:start<=s.size
 hbo:bo<p
 hbs:bs<p
theorem zDb.lt{start:Nat}(h:zDb w wr p bo bs L xs s gap start acc v):p<wr.heap.size:=block_lt_of_cell h.sc.c0
theorem zDb.below{start:Nat}(h:zDb w wr p bo bs L xs s gap start acc v)(hb:Qb wr w'):zDb w w' p bo bs L xs s gap start acc v:=by
 have hp:=h.lt;obtain⟨⟨c0,c1,c2,c3,c4,c5,c6,fz⟩,own,ne,idx,bel,rd,bl,le1,le2,H,k⟩:=h;have e:=fun o=>hb.cell (p:=Qa p o) hp
 exact⟨⟨(e _).trans c0,(e _).trans c1,(e _).trans c2,(e _).trans c3,(e _).trans c4,(e _).trans c5,(e _).trans c6,fun o=>(hb.frozen (p:=Qa p o) hp).trans (fz o)⟩,
  own.kept (Zq hb none) (Classical.em _),ne,idx.kept hb,bel.trans (hb.mono (Nat.le_of_lt hp)),rd,bl,le1,le2,H,k⟩
theorem zDb.drew{w wr:JY}{p bo bs L gap start:Nat}{xs:List OpR}{s:JZ}{acc:List zU}{v:Value}(h:zDb w wr p bo bs L xs s gap start acc v):zDb w wr.drew p bo bs L xs s gap start acc v:=
 h.below (yJ _ _).drew
theorem zDb.blank{start:Nat}(h:zDb w wr p bo bs L xs s gap start acc v)(K:start<s.size)(hc:cls (bt s start)=1)(n:Int)(hn:n=((start+1:Nat):Int)):zDb w (wr.setCell ⟨p,5,none⟩ (Qi n)) p bo bs L xs s gap (start+1) acc v:=by
 subst hn;obtain⟨⟨c0,c1,c2,c3,c4,c5,c6,fz⟩,own,ne,idx,bel,rd,bl,le1,le2,H,k⟩:=h;have e:∀o,o≠5->(wr.setCell ⟨p,5,none⟩ (Qi ((start+1:Nat):Int))).cell? ⟨p,o,none⟩=wr.cell? ⟨p,o,none⟩:=fun o ho=>yj _ _ _ _ Js
 refine⟨⟨(e _ Jo).trans c0,(e _ Jo).trans c1,(e _ Jo).trans c2,(e _ Jo).trans c3,(e _ Jo).trans c4,yt _ _ _ c5,(e _ Jo).trans c6,fun o=>by rw[yv];exact fz o⟩,
  own.kept (zCQ _ p 5 _) (yU ne),ne,idx.set Jo Jo,bel.setCell (yk _) _,rd,fun q h1 h2=>?_,Jo,Jo,H,k⟩
 by_cases e:q=start
 ·subst e;exact hc
 ·exact bl q h1 Jo
theorem zDb.fin{start q H g cap:Nat}(h:zDb w wr p bo bs L xs s gap start acc v)(y:Sc w' p bo bs L s q q (Ql g (acc.length+1) cap))(Q:w'.ownsRow p 135 3 (Ql g (acc.length+1) cap) (acc.length+1) (zu (acc++[⟨(H:Int),s.extract gap start,s.extract start q⟩])))(hg:g≠p)(hk:zAZ wr w' p v.ownBlock)(j:start<s.size)(X:cls (bt s start)≠1)(K:zCd xs s start (q-start) H)(hq:start<=q):zDb w w' p bo bs L xs s q q (acc++[⟨(H:Int),s.extract gap start,s.extract start q⟩]) (Ql g (acc.length+1) cap):=by
 have hp:=h.lt;have k:∀b:Nat,b<p->some b≠v.ownBlock:=fun b hb e=>by
  have:=(h.own.lt b e.symm).1;omega
 have Y:start+(q-start)=q:=Jo;have x:=h.rd.step h.le1 j h.bl X K;rw[Y] at x;refine⟨y,?_,by simp[Value.ownBlock];exact hg,h.idx.of_blocks (hk.block bo (Jy h.hbo) (Jy h.hbo) (k _ h.hbo)) (hk.block bs (Jy h.hbs) (Jy h.hbs) (k _ h.hbs)),?_,x,fun q' h1 h2=>Jo,yk _,?_,h.hbo,h.hbs⟩
 ·rw[yq];exact Q
 ·exact h.bel.trans ⟨hk.os,hk.tape,hk.output,hk.size,fun i hi=>hk.block i Jo Jo (k i hi)⟩
 ·have:=K.2.1;omega
theorem zLa(p bo bs L:Nat)(xs:List OpR)(s:JZ)(gap start:Nat)(v:Value)(H q:Nat)(kz qz:Int)(acc:List zU)(w W:JY)(h:zDb w W p bo bs L xs s gap start acc v)(hs:s.size<=20000)(h2:start<=q)(hq:q<=s.size)(K:kz=(H:Int))(k:qz=(q:Int)):Calls prog 178 #[Qp p,Qi kz,Qi qz] W fun e w'=>e=.returned (.tuple #[])/\∃g cap:Nat,Hid (Sc w' p bo bs L s q q (Ql g (acc.length+1) cap))/\Hid (w'.ownsRow p 135 3 (Ql g (acc.length+1) cap) (acc.length+1) (zu (acc++[⟨(H:Int),s.extract gap start,s.extract start q⟩])))/\g≠p/\zAZ W w' p v.ownBlock:=by
 subst K k;have h1:=h.rd.1;have h3:=h.le1;have h4:=h.le2;exact zO7 p bo bs L s gap start v H q p acc W h.sc h.le1 h2 hq h.own h.ne Jo (Nat.le_of_lt h.lt)
theorem zBp(p bo bs L:Nat)(xs:List OpR)(s:JZ)(gap start:Nat)(v:Value)(H q:Nat)(kz qz:Int)(acc:List zU)(w W:JY)(h:zDb w W p bo bs L xs s gap start acc v)(hs:s.size<=20000)(h2:start<=q)(hq:q<=s.size)(y:kz=(H:Int))(x:qz=(q:Int))(X:start<s.size)(Q:cls (bt s start)≠1)(K:zCd xs s start (q-start) H):Calls prog 178 #[Qp p,Qi kz,Qi qz] W fun e w'=>e=.returned (.tuple #[])/\∃(k:List zU)(v':Value),Hid (zDb w w' p bo bs L xs s q q k v'):=by
 go_call zLa p bo bs L xs s gap start v H q kz qz acc w W h hs h2 hq y x as e w' ⟨rfl,g,cap,a,b,c,d⟩;exact⟨rfl,_,_,zB (h.fin a b c d X Q K h2)⟩
theorem zMR(s:JZ)(i:Nat):s.extract i i=⟨#[]⟩:=by
 apply ByteArray.ext;rw[ByteArray.data_extract];simp;omega
theorem zWd{i q:Nat}(h:i<=q):s.extract i q=sub s i (q-i):=by
 unfold sub;rw[(Jo:i+(q-i)=q)]
theorem zPN(w:JY):Calls prog 179 #[Qi 2] w fun e w'=>e=.returned (Qi 1)/\w'=w:=by
 go_enter func179,ntmps179;go_wp2;go_ret;exact⟨rfl,rfl⟩
theorem zPO(w:JY):Calls prog 179 #[Qi 3] w fun e w'=>e=.returned (Qi 2)/\w'=w:=by
 go_enter func179,ntmps179;go_wp2;go_ret;exact⟨rfl,rfl⟩
theorem zN3(p bo bs L:Nat)(xs:List OpR)(s:JZ)(w:JY)(h:zDb w w p bo bs L xs s 0 0 [] (.slice none 0 0))(hs:s.size<=20000)(hL:L<=16)(c:∀j,j<xs.length->(atO xs j).s.size<=L)(hv:zA0 xs)(hk:zJP xs):Calls prog 138 #[Qp p] w fun e w'=>e=.returned (.tuple #[])/\∃(g cap:Nat)(us:List zU),Hid (w'.cell? (Qa p 6)=some (Ql g us.length cap))/\(p<=g/\us.length<=cap/\cap<=maxLen)/\Hid (zIj w' g us us.length)/\Hid (zAA xs s 0 us)/\Below p w w':=by
 have HS:=zB h;have C:=zB c;have HV:=zB hv;have HK:=zB hk;clear h c hv hk;go_enter func138,ntmps138;go_wp2_with fail;go_step3;go_wp2_with fail;go_step3;go_wp2_with fail;go_loopg [2] (s.size) (fun k _ wr=>∃(gap start:Nat)(acc:List zU)(v:Value),k=s.size-start/\Hid (zDb w wr p bo bs L xs s gap start acc v));case atStart=>exact⟨0,0,[],_,Jo,HS⟩
 case round=>
  clear HS;obtain⟨gap,start,acc,v,M,H⟩:=hrel;have c3:=H.sc.c3;have c5:=H.sc.c5;have le2:=H.le2;by_cases Q:start<s.size
  ·have F:(start:Int)<(s.size:Int):=Jo;go_wp2_with fail;go_region_held (fun w'=>w'.cell? (Qa p 3)=some (Qs s)/\w'.cell? (Qa p 5)=some (Qi start)) (go_keep) (fail);go_wp2_with fail;have d:=zRl (bt s start);have hc:cls (bt s start)=1\/cls (bt s start)=2\/cls (bt s start)=3\/cls (bt s start)=6\/cls (bt s start)=4\/cls (bt s start)=5\/cls (bt s start)=0:=Jo;have O:=H.sc.fz 5;have f:(0:Int)<=(start:Int):=Jo;clear d;rcases hc with hc|hc|hc|hc|hc|hc|hc
   ·have X:(cls s[start]:Int)=1:=by rw[ZQ Q,hc];rfl
    have HC:=zB hc;clear hc;go_region_held (fun w'=>w'.cell? (Qa p 3)=some (Qs s)/\w'.cell? (Qa p 5)=some (Qi start)) (go_keep) (first|(go_at_call 173;refine(zAW _ 1 _ X).mono ?_;rintro e w2 ⟨rfl,hx⟩;obtain rfl:=hx.symm));go_wp2_with fail;go_roundg (s.size-(start+1));case measure=>omega
    case rel=>exact⟨gap,start+1,acc,v,rfl,zB (H.drew.drew.blank Q HC _ Jo)⟩
   ·have X:(cls s[start]:Int)=2:=by rw[ZQ Q,hc];rfl
    have HC:=zB hc;have K:=zB H.drew.drew;clear hc H;go_region_held (fun w'=>w'.cell? (Qa p 3)=some (Qs s)/\w'.cell? (Qa p 5)=some (Qi start)) (go_keep) (first|(go_at_call 173;refine(zAW _ 2 _ X).mono ?_;rintro e w2 ⟨rfl,hx⟩;obtain rfl:=hx.symm));go_wp2_with fail;go_loop [4] (fun ev=>∃q:Nat,start+1<=q/\q<=s.size/\ev=Qi q/\Hid (∀j,start<=j->j<q->cls (bt s j)=2)) (fun ev=>s.size-(intOf ev).toNat);case atStart=>
     refine⟨start+1,yk _,Jo,Jn,zB (fun j h1 h2=>?_)⟩;have:j=start:=Jo;subst this;exact HC
    case round=>
     obtain⟨q,U,Y,rfl,hn⟩:=hrel;go_wp2_with fail;go_call zJT p bo bs L s gap start v 2 q _ K.sc Y Jo as e w3 ⟨⟨y,rfl,hy⟩,hx⟩;obtain rfl:=hx.symm;have HY:=zB hy;clear hy;cases y
     ·have HT:=zB (show zCd xs s start (q-start) 1 by
       have no:¬ (q<s.size/\(cls (bt s q)=2\/(cls (bt s q)=3/\2=3))):=fun hh=>Bool.false_ne_true (HY.2 hh)
       have u:start+(q-start)=q:=Jo
       exact⟨Jo,Jo,yS ⟨HC,rfl,fun j hj=>hn (start+j) Jo Jo,fun hx hd=>no ⟨Jo,yS (by rw[u] at hd;exact hd)⟩⟩⟩)
      go_wp2_with (first|(go_at_call 179;refine(zPN _).mono ?_;rintro e w3 ⟨rfl,hx⟩;obtain rfl:=hx.symm));go_call zBp p bo bs L xs s gap start v 1 q _ _ acc w _ K hs Jo Y rfl rfl Q (Jy (zA HC)) HT as e w4 ⟨rfl,acc',v',hsn'⟩;go_wp2_with fail;go_roundg (s.size-q);case measure=>omega
      case rel=>exact⟨q,q,acc',v',rfl,hsn'⟩
     ·have V:=zB (show q<s.size/\∀j,start<=j->j<q+1->cls (bt s j)=2 from by
       have hy:=HY.1 rfl
       refine⟨hy.1,fun j h1 h2=>?_⟩
       by_cases e:j=q
       ·subst e
        exact hy.2.elim (fun x=>x) (fun x=>yR x.2 Jd)
       ·exact hn j h1 Jo)
      have b:=V.1;go_wp2_with fail;exact⟨⟨q+1,Jo,Jo,Jn,zB V.2⟩,Ji⟩
   ·have X:(cls s[start]:Int)=3:=by rw[ZQ Q,hc];rfl
    have HC:=zB hc;have K:=zB H.drew.drew;clear hc H;go_region_held (fun w'=>w'.cell? (Qa p 3)=some (Qs s)/\w'.cell? (Qa p 5)=some (Qi start)) (go_keep) (first|(go_at_call 173;refine(zAW _ 3 _ X).mono ?_;rintro e w2 ⟨rfl,hx⟩;obtain rfl:=hx.symm));go_wp2_with fail;go_loop [4] (fun ev=>∃q:Nat,start+1<=q/\q<=s.size/\ev=Qi q/\Hid (∀j,start<=j->j<q->(cls (bt s j)=2\/cls (bt s j)=3))) (fun ev=>s.size-(intOf ev).toNat);case atStart=>
     refine⟨start+1,yk _,Jo,Jn,zB (fun j h1 h2=>?_)⟩;have:j=start:=Jo;subst this;exact yU HC
    case round=>
     obtain⟨q,U,Y,rfl,hn⟩:=hrel;go_wp2_with fail;go_call zJT p bo bs L s gap start v 3 q _ K.sc Y Jo as e w3 ⟨⟨y,rfl,hy⟩,hx⟩;obtain rfl:=hx.symm;have HY:=zB hy;clear hy;cases y
     ·have HT:=zB (show zCd xs s start (q-start) 2 by
       have no:¬ (q<s.size/\(cls (bt s q)=2\/(cls (bt s q)=3/\3=3))):=fun hh=>Bool.false_ne_true (HY.2 hh)
       have u:start+(q-start)=q:=Jo
       exact⟨Jo,Jo,yU (yS ⟨HC,rfl,fun j hj=>hn (start+j) Jo Jo,fun hx hd=>no ⟨Jo,by rw[u] at hd;exact hd.elim yS (fun x=>yU ⟨x,rfl⟩)⟩⟩)⟩)
      go_wp2_with (first|(go_at_call 179;refine(zPO _).mono ?_;rintro e w3 ⟨rfl,hx⟩;obtain rfl:=hx.symm));go_call zBp p bo bs L xs s gap start v 2 q _ _ acc w _ K hs Jo Y rfl rfl Q (Jy (zA HC)) HT as e w4 ⟨rfl,acc',v',hsn'⟩;go_wp2_with fail;go_roundg (s.size-q);case measure=>omega
      case rel=>exact⟨q,q,acc',v',rfl,hsn'⟩
     ·have V:=zB (show q<s.size/\∀j,start<=j->j<q+1->(cls (bt s j)=2\/cls (bt s j)=3) from by
       have hy:=HY.1 rfl
       refine⟨hy.1,fun j h1 h2=>?_⟩
       by_cases e:j=q
       ·subst e
        exact hy.2.elim (fun x=>yS x) (fun x=>yU x.1)
       ·exact hn j h1 Jo)
      have b:=V.1;go_wp2_with fail;exact⟨⟨q+1,Jo,Jo,Jn,zB V.2⟩,Ji⟩
   ·have X:(cls s[start]:Int)=6:=by rw[ZQ Q,hc];rfl
    have HC:=zB hc;have K:=zB H.drew.drew;have c2:=H.sc.c2;clear hc H;go_region_held (fun w'=>w'.cell? (Qa p 3)=some (Qs s)/\w'.cell? (Qa p 5)=some (Qi start)) (go_keep) (first|(go_at_call 173;refine(zAW _ 6 _ X).mono ?_;rintro e w2 ⟨rfl,hx⟩;obtain rfl:=hx.symm));have G:IntKind.i64.wrap ((start:Int)+(L:Int))=(start:Int)+(L:Int):=by rw[IntKind.wrap_i64];omega
    have D:min ((start:Int)+(L:Int)) (s.size:Int)=((min (start+L) s.size:Nat):Int):=Jo;go_wp2_with fail;go_region_held (fun w'=>w'.cell? (Qa p 2)=some (Qi L)/\w'.cell? (Qa p 3)=some (Qs s)/\w'.cell? (Qa p 5)=some (Qi start)) (go_keep) (fail);go_wp2_with fail;have A:=zB K.drew;clear K c2;go_loopw [5] (fun ev wq=>∃q:Nat,start<=q/\q<=s.size/\ev=Qi q/\Hid (∀m,q<start+m->start+m<=s.size->¬ opT xs (sub s start m))/\Hid (zDb w wq p bo bs L xs s gap start acc v)) (fun ev _=>(intOf ev).toNat);case atStart=>
     refine⟨min (start+L) s.size,Jo,Jo,rfl,zB (fun m h1 h2 ho=>?_),A⟩;obtain⟨j,hj,e⟩:=ho;have h3:=(zA C) j hj;rw[e,zBc h2] at h3;omega
    case round=>
     clear A;obtain⟨q,U,Y,rfl,hn,H⟩:=hrel;have d0:=H.sc.c0;have d1:=H.sc.c1;have d3:=H.sc.c3;have d5:=H.sc.c5;by_cases o:start<q
     ·have B:(start:Int)<(q:Int):=Jo;have N:(start:Int)<=(q:Int):=Jo;have I:(q:Int)<=(s.size:Int):=Jo;have a:=zB (zWd (s:=s) U);have l:=H.lt;go_wp2_with fail;go_region_held (fun w'=>w'.cell? (Qa p 0)=some (.map (some bo))/\w'.cell? (Qa p 1)=some (.map (some bs))/\w'.cell? (Qa p 3)=some (Qs s)/\w'.cell? (Qa p 5)=some (Qi start)) (go_keep) (first|(go_at_call 180;refine(zNg bo bs xs.length xs (s.extract start q) _ H.drew.idx rfl HK (by rw[zA a,zBc Jo];unfold maxLen;omega)).mono ?_;rintro e w5 ⟨⟨y,rfl,hy⟩,hb5⟩;have HY:=zB hy;have J:=zB (H.drew.below hb5);have e0:=J.sc.c0;have e1:=J.sc.c1;have e3:=J.sc.c3;have e5:=J.sc.c5;clear hy hb5));cases y
      ·have HN:=zB (show ∀m,q-1<start+m->start+m<=s.size->¬ opT xs (sub s start m) from fun m h1 h2 ho=>by
        by_cases e:q<start+m
        ·exact hn m e h2 ho
        ·have e2:m=q-start:=Jo
         subst e2
         rw[<-zA a] at ho
         exact Bool.false_ne_true (HY.2 ho))
       go_wp2_with fail;exact⟨⟨q-1,Jo,Jo,by first|(go_num;done)|(congr 1;omega),HN,J⟩,Ji⟩
      ·have HT:=zB (show zCd xs s start (q-start) 3 by
        refine⟨Jo,Jo,yU (yU (yU (yU (yS ⟨HC,yS ⟨rfl,?_,fun m h1 h2=>hn m Jo h2⟩⟩))))⟩
        rw[<-zA a]
        exact HY.1 rfl)
       go_wp2_with fail;go_call zBp p bo bs L xs s gap start v 3 q _ _ acc w _ J hs Jo Y rfl rfl Q (Jy (zA HC)) HT as e w6 ⟨rfl,acc',v',hsn'⟩;go_wp2_with fail;go_roundg (s.size-q);case measure=>omega
       case rel=>exact⟨q,q,acc',v',rfl,hsn'⟩
     ·have HT:=zB (show zCd xs s start (start+1-start) 6 by
       rw[(Jo:start+1-start=1)]
       exact⟨yk _,Jo,yU (yU (yU (yU (yS ⟨HC,yU ⟨rfl,rfl,fun m h1 h2=>hn m Jo h2⟩⟩))))⟩)
      have B:¬ (start:Int)<(q:Int):=Jo;go_wp2_with fail;go_call zBp p bo bs L xs s gap start v 6 (start+1) _ _ acc w _ H hs Jo Jo rfl Jo Q (Jy (zA HC)) HT as e w6 ⟨rfl,acc',v',hsn'⟩;go_wp2_with fail;go_roundg (s.size-(start+1));case measure=>omega
      case rel=>exact⟨start+1,start+1,acc',v',rfl,hsn'⟩
   ·have X:(cls s[start]:Int)=4:=by rw[ZQ Q,hc];rfl
    have HT:=zB (by rw[(Jo:start+1-start=1)];exact⟨yk _,Jo,yU (yU (yS ⟨hc,rfl,rfl⟩))⟩:zCd xs s start (start+1-start) 4);have HC:=zB hc;have K:=zB H.drew.drew;clear hc H;go_region_held (fun w'=>w'.cell? (Qa p 3)=some (Qs s)/\w'.cell? (Qa p 5)=some (Qi start)) (go_keep) (first|(go_at_call 173;refine(zAW _ 4 _ X).mono ?_;rintro e w2 ⟨rfl,hx⟩;obtain rfl:=hx.symm));go_wp2_with fail;go_call zBp p bo bs L xs s gap start v 4 (start+1) _ _ acc w _ K hs Jo Jo rfl Jo Q (Jy (zA HC)) HT as e w4 ⟨rfl,acc',v',hsn'⟩;go_wp2_with fail;go_roundg (s.size-(start+1));case measure=>omega
    case rel=>exact⟨start+1,start+1,acc',v',rfl,hsn'⟩
   ·have X:(cls s[start]:Int)=5:=by rw[ZQ Q,hc];rfl
    have HT:=zB (by rw[(Jo:start+1-start=1)];exact⟨yk _,Jo,yU (yU (yU (yS ⟨hc,rfl,rfl⟩)))⟩:zCd xs s start (start+1-start) 5);have HC:=zB hc;have K:=zB H.drew.drew;clear hc H;go_region_held (fun w'=>w'.cell? (Qa p 3)=some (Qs s)/\w'.cell? (Qa p 5)=some (Qi start)) (go_keep) (first|(go_at_call 173;refine(zAW _ 5 _ X).mono ?_;rintro e w2 ⟨rfl,hx⟩;obtain rfl:=hx.symm));go_wp2_with fail;go_call zBp p bo bs L xs s gap start v 5 (start+1) _ _ acc w _ K hs Jo Jo rfl Jo Q (Jy (zA HC)) HT as e w4 ⟨rfl,acc',v',hsn'⟩;go_wp2_with fail;go_roundg (s.size-(start+1));case measure=>omega
    case rel=>exact⟨start+1,start+1,acc',v',rfl,hsn'⟩
   ·have X:(cls s[start]:Int)=0:=by rw[ZQ Q,hc];rfl
    have HT:=zB (by rw[(Jo:start+1-start=1)];exact⟨yk _,Jo,yU (yU (yU (yU (yU ⟨hc,rfl,rfl⟩))))⟩:zCd xs s start (start+1-start) 6);have HC:=zB hc;have K:=zB H.drew.drew;clear hc H;go_region_held (fun w'=>w'.cell? (Qa p 3)=some (Qs s)/\w'.cell? (Qa p 5)=some (Qi start)) (go_keep) (first|(go_at_call 173;refine(zAW _ 0 _ X).mono ?_;rintro e w2 ⟨rfl,hx⟩;obtain rfl:=hx.symm));go_wp2_with fail;go_call zBp p bo bs L xs s gap start v 6 (start+1) _ _ acc w _ K hs Jo Jo rfl Jo Q (Jy (zA HC)) HT as e w4 ⟨rfl,acc',v',hsn'⟩;go_wp2_with fail;go_roundg (s.size-(start+1));case measure=>omega
    case rel=>exact⟨start+1,start+1,acc',v',rfl,hsn'⟩
  ·go_wp2_with fail;go_region_held (fun w'=>w'.cell? (Qa p 3)=some (Qs s)/\w'.cell? (Qa p 5)=some (Qi start)) (go_keep) (fail);go_wp2_with fail;have K:=zB H.drew;have HE:=zB (Jo:start=s.size);clear H;go_call zLa p bo bs L xs s gap start v 7 start _ _ acc w _ K hs (yk _) le2 rfl rfl as e w4 ⟨rfl,g,cap,hsc,hown,hgp,hkp⟩;have P:=zB hkp;clear hkp;go_wp2_with fail;rw[Exit.noGoto_normal];go_end0;refine⟨rfl,g,cap,acc++[⟨7,s.extract gap start,s.extract start start⟩],zB ?_,?_,zB ?_,zB ?_,?_⟩
   ·rw[yq];exact hsc.c6
   ·refine⟨(hown.lt g rfl).1,?_⟩;rw[yq];obtain⟨_,⟨h,_⟩|⟨g',E,n,h,_,_,h1,h2,_⟩⟩:=zA hown
    ·cases h
    ·injection h with _ _ h;subst h;exact⟨h1,h2⟩
   ·have ho:w4.ownsRow p 135 3 (Ql g (acc++[(⟨7,s.extract gap start,s.extract start start⟩:zU)]).length cap) (acc++[(⟨7,s.extract gap start,s.extract start start⟩:zU)]).length (zu (acc++[(⟨7,s.extract gap start,s.extract start start⟩:zU)])):=by
     rw[yq];exact hown
    exact(zC0 ho).2
   ·have h1:=(zA K);have h2:=h1.rd.done (by have:=h1.le1;have:=h1.le2;omega) (zA HE ▸ h1.bl);rw[zMR,zA HE];exact h2
   ·have h1:=(zA K);refine h1.bel.trans ⟨P.os,P.tape,P.output,P.size,fun i hi=>P.block i (Jy h1.lt) Jo (fun e=>?_)⟩;have:=(h1.own.lt i e.symm).1;omega
end Go.Proofs.YtadiaghhackbjaaGreatDoor
