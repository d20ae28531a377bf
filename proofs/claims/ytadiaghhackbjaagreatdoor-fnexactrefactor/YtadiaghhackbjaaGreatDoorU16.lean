import Derived.Test.YtadiaghhackbjaaGreatDoorU03
namespace Go.Proofs.YtadiaghhackbjaaGreatDoor
set_option linter.all false
set_option maxHeartbeats 0
set_option maxRecDepth 100000
open Proofs.Tryz RowKit
theorem zCZ{xs:List OpR}(h:zO xs 0):zBi xs xs.length:=by
 rcases h with⟨h,_⟩|⟨_,⟨h,_⟩|⟨h,_⟩⟩
 ·exact yR h Jd
 ·exact yR h Jd
 ·exact h
theorem zRH{w:JY}{base e size g n cap:Nat}{xs:List Value}(h:w.ownsRow base e size (Ql g n cap) n xs):n<=cap/\cap<=maxLen:=by
 obtain⟨_,⟨h,_⟩|⟨g',H,k,h,_,_,h1,h2,_⟩⟩:=h
 ·cases h
 ·injection h with _ _ h;subst h;exact⟨h1,h2⟩
theorem zMP(b Q cap:Nat)(xs:List OpR)(s:JZ)(w:JY)(hm:xs.length<=1048576)(hw:Ops w b Q xs)(F:ZA xs)(hB:b<w.heap.size)(hs:s.size<=maxLen):Calls prog 65 #[.agg #[.slice (some (Qa b Q)) xs.length cap],Qs s] w fun e w'=>(∃(g c:Nat)(us:List zU)(v:Bool),e=.returned (.tuple #[Ql g us.length c,.bool v])/\(w.heap.size<=g/\us.length<=c/\c<=maxLen)/\zIj w' g us us.length/\zW7 xs (zO xs 0) s us v)/\Qb w w':=by
 unfold maxLen at hs;have HW:=zB hw;have HS:=zB F;clear hw F;go_enter func65,ntmps65;go_wp2_with fail;go_call zAM b Q cap xs _ hm (HW.below ((zC _ _).alloc Js _) hB) HS Jq as e w1 ⟨⟨c,rfl,hc⟩,hb1⟩;have HC:=zB hc;have z1:w.heap.size+2<=w1.heap.size:=Jz hb1.size
 have d:Qb w w1:=((zC _ _).alloc Js _).trans (hb1.mono Jq);have c1:w1.cell? (Qa w.heap.size 0)=some (.slice (some (Qa b Q)) xs.length cap):=by rw[hb1.cell (p:=Qa w.heap.size 0) Jq];simp[go_sem]
 have HO:=zB (show w1.ownsRow (w.heap.size+1) 135 3 (Ql (w.heap.size+1) 0 0) 0 (zu []) by
  have h0:=yG (base:=w.heap.size+1) (e:=135) (size:=3) (w.alloc (.cells #[.slice (some (Qa b Q)) xs.length cap] 63)) #[] 0 Js (ym _) rfl
  have h1:=h0.kept (Zq hb1 none) (yU Jb)
  simpa[zu] using h1)
 have bel1':Below (w.heap.size+1) (w.alloc (.cells #[.slice (some (Qa b Q)) xs.length cap] 63)) w1:=((zC _ _).mono Js).trans (hb1.mono Js);clear hb1 hc;by_cases A:c=0;case neg=>
  have T:(c != 0)=true:=Ju A
  have HN:Hid (¬ (zO xs 0/\s.size<=20000)):=fun h=>A (zAC HC h.1)
  clear A;go_wp2_with fail;go_ret2;obtain⟨hg,hf⟩:=zC0 (zs:=[]) HO;exact⟨⟨w.heap.size+1,0,[],false,rfl,⟨Jo,yk _,ym _⟩,hf,yU ⟨HN,rfl,rfl⟩⟩,d⟩
 subst A;by_cases h2:20000<s.size
 ·have HN:Hid (¬ (zO xs 0/\s.size<=20000)):=fun h=>Jo
  have he:(20000:Int)<(s.size:Int):=Jo;go_wp2_with fail;go_ret2;obtain⟨hg,hf⟩:=zC0 (zs:=[]) HO;exact⟨⟨w.heap.size+1,0,[],false,rfl,⟨Jo,yk _,ym _⟩,hf,yU ⟨HN,rfl,rfl⟩⟩,d⟩
 have HV:=zB (zB5 (zCZ HC));have HK:=zB (zNN (zCZ HC));have o:s.size<=20000:=Jo;clear hs h2;go_wp2_with fail;obtain⟨i0,hi,I,l,m⟩:=info_parts zVv;have HI:=zB hi;have HZ:=zB (yK I (yK l m));clear hi I l m c1;go_loopw [6,7] (fun S i wr=>∃(p go co:Nat)(K:List zU),p<=s.size/\i=Qi p/\S = Ql go K.length co/\Hid (zI4 xs s p K)/\Hid (wr.ownsRow (w.heap.size+1) 135 3 (Ql go K.length co) K.length (zu K))/\Below (w.heap.size+1) (w.alloc (.cells #[.slice (some (Qa b Q)) xs.length cap] 63)) wr) (fun _ i _=>s.size-(intOf i).toNat);case atStart=>exact⟨0,w.heap.size+1,0,[],ym _,rfl,rfl,zB (zI4.start xs s),HO,bel1'⟩
 case round=>
  clear HO bel1';obtain⟨p,go,co,K,hp,rfl,rfl,a,J,x⟩:=hrel;have u:Qb w wr:=(zC _ _).trans (x.mono Jo);have zw:w.heap.size<wr.heap.size:=Jz x.size
  have c0:wr.cell? (Qa w.heap.size 0)=some (.slice (some (Qa b Q)) xs.length cap):=by
   rw[x.cell (p:=Qa w.heap.size 0) (show w.heap.size<_ by omega)];simp[go_sem]
  go_wp2_with fail;go_loop [7] (fun iv=>∃j:Nat,p<=j/\j<=s.size/\iv=Qi j/\Hid (zEf s p j)) (fun iv=>s.size-(intOf iv).toNat);case atStart=>exact⟨p,yk _,hp,rfl,zB (fun q h1 h2=>Jo)⟩
  case round=>
   obtain⟨j,R,hj,rfl,D⟩:=hrel;by_cases B:j<s.size
   ·cases hb:decide (cls s[j]=1)
    ·have M:=zB (by rw[ZQ B] at hb;simpa using hb:cls (bt s j)≠1);have r:((j:Int)==(s.size:Int))=false:=Jq;have O:K.length<=20000:=Jy a.1
     go_wp2_with (go_at_call 112;refine(zIA _ _).mono ?_;rintro e w2 ⟨rfl,hx⟩;obtain rfl:=hx.symm);go_call zKU b Q cap xs s j _ hm (HW.below u hB) Jo HK Jo B as e w2 ⟨⟨n,rfl,hn⟩,hb2⟩;have P:=zM8 HV hn M;have G:j+n<=s.size:=P.2.1;have hd:1<=n:=P.1;have HT:=zB P;have X:=x.trans (hb2.mono zw);have L:Qb w w2:=(zC _ _).trans (X.mono Jo);have z2:w.heap.size<w2.heap.size:=yl zw hb2.size;have hown2:=zB (J.kept (Zq hb2 none) (yU Jb));have d0:w2.cell? (Qa w.heap.size 0)=some (.slice (some (Qa b Q)) xs.length cap):=Jc hb2 zw c0;have W:IntKind.i64.wrap ((j:Int)+(n:Int))=(j:Int)+(n:Int):=by rw[IntKind.wrap_i64];omega
     have hl:(j:Int)<=(j:Int)+(n:Int):=Jo;have Z:(j:Int)+(n:Int)<=(s.size:Int):=Jo;have hk:(0:Int)<=(j:Int)+(n:Int):=Jo;have hh:((j:Int)+(n:Int)).toNat=j+n:=Jo;have ho:(p:Int)<=(j:Int):=Jo;have ha:(j:Int)<=(s.size:Int):=Jo;have zb:b<w2.heap.size:=Jo;clear hn P hb2 J x u c0;go_wp2_with fail;go_region_held_law (fun w'=>w'.cell? (Qa w.heap.size 0)=some (.slice (some (Qa b Q)) xs.length cap)) (go_keep)
      (first|(go_at_call 114;refine(zJQ b Q cap xs (sub s j n) _ hm (HW.below L.drew hB) zb HK (by rw[zBc G];unfold maxLen;omega)).mono ?_;rintro e w3 ⟨rfl,hb3⟩;have c3:=(hb3.cell (p:=Qa w.heap.size 0) z2).trans (show w2.drew.cell? (Qa w.heap.size 0)=_ from d0);have V:=X.drew.trans (hb3.mono z2);have Y:=zB (hown2.drew.kept (Zq hb3 none) (yU Jb));have z3:=yl z2 hb3.size;have E:=zB (Y.lt go rfl))|(refine step_append_lies _ (by rfl) (.tmp 49) (.tmp 69) 131 (by rfl) (w.heap.size+1) 135 i0 _ 3 40 underlying131 HI HZ.1 HZ.2.1 HZ.2.2 rfl Jd _ K.length (zu K) (by rfl) (Y.alloc _) (Qa w3.heap.size 0) 1 1 (zu [⟨(Zp xs (sub s j n):Int),s.extract p j,s.extract j (j+n)⟩]) (by rfl) rfl (zFq w3 ⟨(Zp xs (sub s j n):Int),s.extract p j,s.extract j (j+n)⟩) (zCz _) Jd Jm Jo Jq _ rfl ?_;intro g4 c4 w4 H k _ t;have q4:=(k.cell_far (Qa w.heap.size 0) Jq (by have:=zA E;simp[Value.ownBlock];omega)).trans (Jc (zC w3 _) z3 c3);simp only[yc,ya,yb];simp only[Act.put,ye,yg,yh]))
     have y:Below (w.heap.size+1) _ w4:=(V.alloc z3 _).grown k Jq (fun q hq=>by have:=zA E;simp[Value.ownBlock] at hq;omega);rw[<-zB6] at H;have f:K.length+1=(K++[(⟨(Zp xs (sub s j n):Int),s.extract p j,s.extract j (j+n)⟩:zU)]).length:=Js;rw[f] at H ⊢;have C:=zB H;clear H k Y hown2 V X c3 q4;go_wp2;refine⟨⟨j+n,g4,c4,_,G,Jn,rfl,zB (a.step R B D M HT),C,y⟩,Ji⟩
    ·have Hb:=zB (show zEf s p (j+1) from fun q h1 h2=>by
      by_cases e:q=j
      ·subst e
       rw[ZQ B] at hb
       simpa using hb
      ·exact D q h1 Jo)
     go_wp2_with (go_at_call 112;refine(zIA _ _).mono ?_;rintro e w' ⟨rfl,rfl⟩);exact⟨⟨j+1,Jo,Jo,Jn,Hb⟩,Ji⟩
   ·have HJ:=zB (Jo:j=s.size);have r:((j:Int)==(s.size:Int))=true:=Jq;have O:K.length<=20000:=Jy a.1
    go_wp2_with (at_builtin;refine wpList_append_own _ rfl (.tmp 37) (.tmp 43) 131 rfl (w.heap.size+1) 135 i0 _ 3 40 underlying131 HI HZ.1 HZ.2.1 HZ.2.2 rfl Jd _ K.length (zu K) rfl (J.alloc _) (Qa wr.heap.size 0) 1 1 (zu [⟨7,s.extract p j,⟨#[]⟩⟩]) rfl rfl (zFq wr ⟨7,s.extract p j,⟨#[]⟩⟩) (zCz _) ?b1 ?b2 ?b3 ?next);case b1=>exact Jm
    case b2=>omega
    case b3=>have:=x.size;simp;omega
    case next=>
     intro v4 w4 H k U;have E:=J.lt go rfl;have y:Qb w w4:=(u.alloc u.size _).grown k (by have:=u.size;simp;omega) (fun q hq=>by simp[Value.ownBlock] at hq;omega);obtain⟨g4,c4,rfl⟩:=ZC H (by simp[U]);rw[<-zB6] at H;have f:K.length+1=(K++[(⟨7,s.extract p j,⟨#[]⟩⟩:zU)]).length:=Js;rw[f] at H ⊢;have C:=zB H;clear H k U;go_wp2;go_ret2;obtain⟨hg,hf⟩:=zC0 C;have N:=(zA a).done hp (zA HJ ▸ zA D);rw[<-zA HJ] at N;exact⟨⟨g4,c4,_,true,rfl,⟨Jo,zRH C⟩,hf,yS ⟨⟨HC,o⟩,rfl,N⟩⟩,y⟩
theorem zLZ(ts:List zU):∀i:Nat,-(i:Int)<=opI ts i/\opI ts i<=(i:Int)
 |0=>by simp[opI]
 |i+1=>by
  have:=zLZ ts i;simp only[opI];split<;>split<;>omega
theorem zDZ(b h cap n:Nat)(ts:List zU)(w:JY)(hm:ts.length<=1048576)(hn:n<=ts.length)(hw:zDf w b h ts):Calls prog 167 #[.slice (some (Qa b h)) ts.length cap,Qi n] w fun e w'=>e=.returned (Qi (opI ts n))/\w'=w:=by
 have HW:=zB hw;clear hw;go_enter func167,ntmps167;go_wp2;go_loop [5,6] (fun o i=>∃k:Nat,k<=n/\i=Qi k/\o=Qi (opI ts k)) (fun _ i=>n-(intOf i).toNat);case atStart=>exact⟨0,ym _,rfl,rfl⟩
 case round=>
  obtain⟨k,hk,rfl,rfl⟩:=hrel;have hr:=zLZ ts k;by_cases K:k<n
  ·obtain⟨a0,a1,a2⟩:=(zA HW) k Jo;have H:k<ts.length:=Jo;have HS:=zB (show opI ts (k+1)=opI ts k+(if(atT ts k).k=4 then 1 else 0)-(if(atT ts k).k=5 then 1 else 0) from rfl);go_wp2;all_goals
    refine⟨⟨k+1,Jo,Jn,?_⟩,Ji⟩
    rw[zA HS]
    go_light
    simp only[beq_iff_eq,yX,ne_eq] at *
    first|(congr 1;split<;>split<;>omega)|simp[*]|(simp_all;omega)
  ·have HX:=zB (Jo:k=n);go_wp2;go_ret;exact⟨zF (by rw[zA HX]),rfl⟩
def zDa(xs:List OpR)(ts:List zU)(k:Nat):List Bool:=(List.range (k+1)).map (zBJ xs ts)
def zAt(l:List Bool):List Value:=l.map fun b=>.bool b
theorem zBo(xs:List OpR)(ts:List zU)(k:Nat):zAt (zDa xs ts (k+1))=zAt (zDa xs ts k)++[.bool (zBJ xs ts (k+1))]:=by
 simp[zDa,zAt,List.range_succ (n:=k+1)]
theorem zN2(xs:List OpR)(ts:List zU)(k i:Nat)(h:i<=k):(zAt (zDa xs ts k))[i]?=some (.bool (zBJ xs ts i)):=by
 have:i<k+1:=Jo;simp[zAt,zDa,this]
theorem zTE:(prog.info? 4).map (fun i=>(i.zero,i.size,i.bytes))=some (some (.bool false),1,1):=Jk
theorem Z6(w:JY)(n:Nat):w.grownBy (w.drewN n) none:=⟨rfl,rfl,rfl,yk _,fun _ _ _=>rfl⟩
theorem zx(w:JY)(n:Nat):Qb w (w.drewN n):=⟨rfl,rfl,rfl,yk _,fun _ _=>rfl⟩
theorem zCV(w:JY)(v:Bool):∀j u,([Value.bool v])[j]?=some u->(w.alloc (.cells #[.bool v] 4)).cell? ((Qa w.heap.size 0).add j)=some u:=by
 intro j u hj;rw[Addr.add_mid];have:=yC (w:=w.alloc (.cells #[.bool v] 4)) (b:=w.heap.size) (heap_alloc_new w _) 0 1;exact this j u (Ju hj)
theorem zMQ(b j cap b' P a:Nat)(xs:List OpR)(ts:List zU)(w:JY)(l:xs.length<=1048576)(hm:ts.length<=1048576)(hw:Ops w b j xs)(hB:b<w.heap.size)(E:zDf w b' P ts)(D:b'<w.heap.size):Calls prog 116 #[.agg #[.slice (some (Qa b j)) xs.length cap],.slice (some (Qa b' P)) ts.length a] w fun e w'=>(∃g c,e=.returned (Ql g (ts.length+1) c)/\w.heap.size<=g/\g<w'.heap.size/\∀i,i<=ts.length->w'.cell? (Qa g i)=some (.bool (zBJ xs ts i)))/\Qb w w':=by
 obtain⟨i0,hi,A,C,f⟩:=info_parts zTE;have HI:=zB hi;have HZ:=zB (yK A (yK C f));have HW:=zB hw;have HT:=zB E;clear hi A C f hw E;have HO:=zB (show((w.alloc (.cells #[.slice (some (Qa b j)) xs.length cap] 63)).alloc (.cells #[.bool false] 4)).ownsRow (w.heap.size+1) 4 1 (Ql (w.heap.size+1) 1 1) 1 (zAt (zDa xs ts 0)) by
  have h0:=yG (base:=w.heap.size+1) (e:=4) (size:=1) (w.alloc (.cells #[.slice (some (Qa b j)) xs.length cap] 63)) #[.bool false] 1 Js Jd rfl
  simpa[zAt,zDa,zBJ] using h0)
 go_enter func116,ntmps116;go_wp2_with fail;go_loopw [5,6] (fun I i wr=>∃(k g c:Nat),k<=ts.length/\i=Qi k/\I = Ql g (k+1) c/\Hid (wr.ownsRow (w.heap.size+1) 4 1 (Ql g (k+1) c) (k+1) (zAt (zDa xs ts k)))/\Below (w.heap.size+1) (w.alloc (.cells #[.slice (some (Qa b j)) xs.length cap] 63)) wr) (fun _ i _=>ts.length-(intOf i).toNat);case atStart=>exact⟨0,w.heap.size+1,1,ym _,rfl,rfl,HO,(zC _ _).mono Js⟩
 case round=>
  clear HO;obtain⟨k,g,c,hk,rfl,rfl,y,x⟩:=hrel;have U:Qb w wr:=(zC _ _).trans (x.mono Jo);have zw:w.heap.size<wr.heap.size:=Jz x.size
  have c0:wr.cell? (Qa w.heap.size 0)=some (.slice (some (Qa b j)) xs.length cap):=by
   rw[x.cell (p:=Qa w.heap.size 0) (show w.heap.size<_ by omega)];simp[go_sem]
  by_cases G:k<ts.length
  ·obtain⟨a0,a1,a2⟩:=((HT) k G).below U D;have s0:wr.cell? (Qa g k)=some (.bool (zBJ xs ts k)):=(y.cellAt k Jo).trans (zN2 xs ts k k (yk _));have M:(k:Int)<(ts.length:Int):=Jo;have n:(k:Int)<((k+1:Nat):Int):=Jo;have L:(k:Int)<(k:Int)+1:=Jo;by_cases h3:(atT ts k).k=3;case pos=>
    have g1:((atT ts k).k==1)=false:=Jq;have g2:((atT ts k).k==2)=false:=Jq;have g5:((atT ts k).k==5)=false:=Jq;have g3:((atT ts k).k==3)=true:=Ju h3
    cases hst:zBJ xs ts k
    ·rw[hst] at s0;have HV:=zB (by simp[zBJ,zEq,hst,h3]:zBJ xs ts (k+1)=false);clear h3;go_wp2_with fail;go_quiet (fail);go_wp2_with (at_builtin;refine wpList_append_own _ rfl (.tmp 49) (.tmp 51) 57 rfl (w.heap.size+1) 4 i0 _ 1 1 underlying57 HI HZ.1 HZ.2.1 HZ.2.2 rfl Jd _ (k+1) (zAt (zDa xs ts k)) rfl ((y.kept (Z6 wr nq) (yU Jb)).alloc _) (Qa ((wr.drewN nq).heap.size) 0) 1 1 [.bool false] rfl rfl (zCV (wr.drewN nq) false) (by simp[Value.oneCell']) ?b1 ?b2 ?b3 ?next);case b1=>exact Jm
     case b2=>omega
     case b3=>have:=(x.trans ((zx wr nq).mono zw)).size;simp at this;simp;omega
     case next=>
      intro v4 w4 H K Q;have V:=(y.kept (Z6 wr nq) (yU Jb)).lt g rfl;have X:Below (w.heap.size+1) (w.alloc (.cells #[.slice (some (Qa b j)) xs.length cap] 63)) w4:=((x.trans ((zx wr nq).mono zw)).alloc (Jz ((x.trans ((zx wr nq).mono zw)).size)) _).grown K (by have:=(x.trans ((zx wr nq).mono zw)).size;simp at this;simp;omega) (fun q hq=>by simp[Value.ownBlock] at hq;omega);obtain⟨g4,c4,rfl⟩:=ZC H (by simp[Q]);rw[(by rw[zA HV]:[Value.bool false]=[.bool (zBJ xs ts (k+1))]),<-zBo] at H;have J:=zB H;clear H K Q;go_wp2;exact⟨⟨k+1,g4,c4,Jo,Jn,rfl,J,X⟩,Ji⟩
    ·rw[hst] at s0;have B:=zB hst;have H3:=zB h3;have zb:b<wr.heap.size:=Jo;have zg:=y.lt g rfl;clear h3;go_wp2_with fail;go_region_held (fun w'=>w'.cell? (Qa w.heap.size 0)=some (.slice (some (Qa b j)) xs.length cap)/\w'.cell? (Qa g k)=some (.bool true)/\w'.cell? (Qa b' (P+k*3+2))=some (Qs (atT ts k).t)) (go_keep) (first|(go_at_call 121;refine(zBm b j cap xs (atT ts k).t 3 _ l (HW.below U.drew hB) zb).mono ?_;rintro e w2 ⟨⟨r,rfl,hr⟩,hb2⟩;have HR:=zB hr;have d:=zB hb2;have q0:=(hb2.cell (p:=Qa w.heap.size 0) zw).trans (show wr.drew.cell? (Qa w.heap.size 0)=_ from c0);have q1:=(hb2.cell (p:=Qa g k) zg.2).trans (show wr.drew.cell? (Qa g k)=_ from s0);have q2:=(hb2.cell (p:=(Qa b' (P+k*3+2))) (yl D (Nat.le_of_lt zw))).trans (show wr.drew.cell? (Qa b' (P+k*3+2))=_ from a2);clear hr hb2));have Y:=x.drew.trans (d.mono zw);have v:=zB (y.drew.kept (Zq d none) (yU Jb));by_cases u:0<=r
     ·have HV:=zB (show zBJ xs ts (k+1)=true by
       have:=(Zl xs (atT ts k).t 3).2 (HR.1 u)
       simp[zBJ,zEq,zA B,zA H3,this])
      go_wp2_with (at_builtin;refine wpList_append_own _ rfl (.tmp 49) (.tmp 51) 57 rfl (w.heap.size+1) 4 i0 _ 1 1 underlying57 HI HZ.1 HZ.2.1 HZ.2.2 rfl Jd _ (k+1) (zAt (zDa xs ts k)) rfl (v.alloc _) (Qa ((w2).heap.size) 0) 1 1 [.bool true] rfl rfl (zCV (w2) true) (by simp[Value.oneCell']) ?b1 ?b2 ?b3 ?next);case b1=>exact Jm
      case b2=>omega
      case b3=>have:=(Y).size;simp at this;simp;omega
      case next=>
       intro v4 w4 H K Q;have V:=v.lt g rfl;have X:Below (w.heap.size+1) (w.alloc (.cells #[.slice (some (Qa b j)) xs.length cap] 63)) w4:=((Y).alloc (Jz ((Y).size)) _).grown K (by have:=(Y).size;simp at this;simp;omega) (fun q hq=>by simp[Value.ownBlock] at hq;omega);obtain⟨g4,c4,rfl⟩:=ZC H (by simp[Q]);rw[(by rw[zA HV]:[Value.bool true]=[.bool (zBJ xs ts (k+1))]),<-zBo] at H;have J:=zB H;clear H K Q;go_wp2;exact⟨⟨k+1,g4,c4,Jo,Jn,rfl,J,X⟩,Ji⟩
     ·have HV:=zB (show zBJ xs ts (k+1)=false by
       have:ZF xs (atT ts k).t 3=false:=by
        cases h:ZF xs (atT ts k).t 3
        ·rfl
        ·exact yR (HR.2 ((Zl xs (atT ts k).t 3).1 h)) u
       simp[zBJ,zEq,zA B,zA H3,this])
      have m:decide (0<=r)=false:=decide_eq_false u;go_wp2_with (at_builtin;refine wpList_append_own _ rfl (.tmp 49) (.tmp 51) 57 rfl (w.heap.size+1) 4 i0 _ 1 1 underlying57 HI HZ.1 HZ.2.1 HZ.2.2 rfl Jd _ (k+1) (zAt (zDa xs ts k)) rfl (v.alloc _) (Qa ((w2).heap.size) 0) 1 1 [.bool false] rfl rfl (zCV (w2) false) (by simp[Value.oneCell']) ?b1 ?b2 ?b3 ?next);case b1=>exact Jm
      case b2=>omega
      case b3=>have:=(Y).size;simp at this;simp;omega
      case next=>
       intro v4 w4 H K Q;have V:=v.lt g rfl;have X:Below (w.heap.size+1) (w.alloc (.cells #[.slice (some (Qa b j)) xs.length cap] 63)) w4:=((Y).alloc (Jz ((Y).size)) _).grown K (by have:=(Y).size;simp at this;simp;omega) (fun q hq=>by simp[Value.ownBlock] at hq;omega);obtain⟨g4,c4,rfl⟩:=ZC H (by simp[Q]);rw[(by rw[zA HV]:[Value.bool false]=[.bool (zBJ xs ts (k+1))]),<-zBo] at H;have J:=zB H;clear H K Q;go_wp2;exact⟨⟨k+1,g4,c4,Jo,Jn,rfl,J,X⟩,Ji⟩
   have h1:(atT ts k).k=1\/(atT ts k).k=2\/(atT ts k).k=5\/((atT ts k).k≠1/\(atT ts k).k≠2/\(atT ts k).k≠5):=Jo;rcases h1 with h1|h1|h1|h1
   ·have g1:((atT ts k).k==1)=true:=Jq;have g2:((atT ts k).k==2)=false:=Jq;have g5:((atT ts k).k==5)=false:=Jq;have g3:((atT ts k).k==3)=false:=Jq;have HV:=zB (by simp[zBJ,zEq,h3];omega:zBJ xs ts (k+1)=true);clear h3;go_wp2_with fail;go_quiet (fail);go_wp2_with (at_builtin;refine wpList_append_own _ rfl (.tmp 49) (.tmp 51) 57 rfl (w.heap.size+1) 4 i0 _ 1 1 underlying57 HI HZ.1 HZ.2.1 HZ.2.2 rfl Jd _ (k+1) (zAt (zDa xs ts k)) rfl ((y.kept (Z6 wr nq) (yU Jb)).alloc _) (Qa ((wr.drewN nq).heap.size) 0) 1 1 [.bool true] rfl rfl (zCV (wr.drewN nq) true) (by simp[Value.oneCell']) ?b1 ?b2 ?b3 ?next);case b1=>exact Jm
    case b2=>omega
    case b3=>have:=(x.trans ((zx wr nq).mono zw)).size;simp at this;simp;omega
    case next=>
     intro v4 w4 H K Q;have V:=(y.kept (Z6 wr nq) (yU Jb)).lt g rfl;have X:Below (w.heap.size+1) (w.alloc (.cells #[.slice (some (Qa b j)) xs.length cap] 63)) w4:=((x.trans ((zx wr nq).mono zw)).alloc (Jz ((x.trans ((zx wr nq).mono zw)).size)) _).grown K (by have:=(x.trans ((zx wr nq).mono zw)).size;simp at this;simp;omega) (fun q hq=>by simp[Value.ownBlock] at hq;omega);obtain⟨g4,c4,rfl⟩:=ZC H (by simp[Q]);rw[(by rw[zA HV]:[Value.bool true]=[.bool (zBJ xs ts (k+1))]),<-zBo] at H;have J:=zB H;clear H K Q;go_wp2;exact⟨⟨k+1,g4,c4,Jo,Jn,rfl,J,X⟩,Ji⟩
   ·have g1:((atT ts k).k==1)=false:=Jq;have g2:((atT ts k).k==2)=true:=Jq;have g5:((atT ts k).k==5)=false:=Jq;have g3:((atT ts k).k==3)=false:=Jq;have HV:=zB (by simp[zBJ,zEq,h3];omega:zBJ xs ts (k+1)=true);clear h3;go_wp2_with fail;go_quiet (fail);go_wp2_with (at_builtin;refine wpList_append_own _ rfl (.tmp 49) (.tmp 51) 57 rfl (w.heap.size+1) 4 i0 _ 1 1 underlying57 HI HZ.1 HZ.2.1 HZ.2.2 rfl Jd _ (k+1) (zAt (zDa xs ts k)) rfl ((y.kept (Z6 wr nq) (yU Jb)).alloc _) (Qa ((wr.drewN nq).heap.size) 0) 1 1 [.bool true] rfl rfl (zCV (wr.drewN nq) true) (by simp[Value.oneCell']) ?b1 ?b2 ?b3 ?next);case b1=>exact Jm
    case b2=>omega
    case b3=>have:=(x.trans ((zx wr nq).mono zw)).size;simp at this;simp;omega
    case next=>
     intro v4 w4 H K Q;have V:=(y.kept (Z6 wr nq) (yU Jb)).lt g rfl;have X:Below (w.heap.size+1) (w.alloc (.cells #[.slice (some (Qa b j)) xs.length cap] 63)) w4:=((x.trans ((zx wr nq).mono zw)).alloc (Jz ((x.trans ((zx wr nq).mono zw)).size)) _).grown K (by have:=(x.trans ((zx wr nq).mono zw)).size;simp at this;simp;omega) (fun q hq=>by simp[Value.ownBlock] at hq;omega);obtain⟨g4,c4,rfl⟩:=ZC H (by simp[Q]);rw[(by rw[zA HV]:[Value.bool true]=[.bool (zBJ xs ts (k+1))]),<-zBo] at H;have J:=zB H;clear H K Q;go_wp2;exact⟨⟨k+1,g4,c4,Jo,Jn,rfl,J,X⟩,Ji⟩
   ·have g1:((atT ts k).k==1)=false:=Jq;have g2:((atT ts k).k==2)=false:=Jq;have g5:((atT ts k).k==5)=true:=Jq;have g3:((atT ts k).k==3)=false:=Jq;have HV:=zB (by simp[zBJ,zEq,h3];omega:zBJ xs ts (k+1)=true);clear h3;go_wp2_with fail;go_quiet (fail);go_wp2_with (at_builtin;refine wpList_append_own _ rfl (.tmp 49) (.tmp 51) 57 rfl (w.heap.size+1) 4 i0 _ 1 1 underlying57 HI HZ.1 HZ.2.1 HZ.2.2 rfl Jd _ (k+1) (zAt (zDa xs ts k)) rfl ((y.kept (Z6 wr nq) (yU Jb)).alloc _) (Qa ((wr.drewN nq).heap.size) 0) 1 1 [.bool true] rfl rfl (zCV (wr.drewN nq) true) (by simp[Value.oneCell']) ?b1 ?b2 ?b3 ?next);case b1=>exact Jm
    case b2=>omega
    case b3=>have:=(x.trans ((zx wr nq).mono zw)).size;simp at this;simp;omega
    case next=>
     intro v4 w4 H K Q;have V:=(y.kept (Z6 wr nq) (yU Jb)).lt g rfl;have X:Below (w.heap.size+1) (w.alloc (.cells #[.slice (some (Qa b j)) xs.length cap] 63)) w4:=((x.trans ((zx wr nq).mono zw)).alloc (Jz ((x.trans ((zx wr nq).mono zw)).size)) _).grown K (by have:=(x.trans ((zx wr nq).mono zw)).size;simp at this;simp;omega) (fun q hq=>by simp[Value.ownBlock] at hq;omega);obtain⟨g4,c4,rfl⟩:=ZC H (by simp[Q]);rw[(by rw[zA HV]:[Value.bool true]=[.bool (zBJ xs ts (k+1))]),<-zBo] at H;have J:=zB H;clear H K Q;go_wp2;exact⟨⟨k+1,g4,c4,Jo,Jn,rfl,J,X⟩,Ji⟩
   ·have g1:((atT ts k).k==1)=false:=Jq;have g2:((atT ts k).k==2)=false:=Jq;have g5:((atT ts k).k==5)=false:=Jq;have g3:((atT ts k).k==3)=false:=Jq;have HV:=zB (by simp[zBJ,zEq,h3];omega:zBJ xs ts (k+1)=false);clear h3;go_wp2_with fail;go_quiet (fail);go_wp2_with (at_builtin;refine wpList_append_own _ rfl (.tmp 49) (.tmp 51) 57 rfl (w.heap.size+1) 4 i0 _ 1 1 underlying57 HI HZ.1 HZ.2.1 HZ.2.2 rfl Jd _ (k+1) (zAt (zDa xs ts k)) rfl ((y.kept (Z6 wr nq) (yU Jb)).alloc _) (Qa ((wr.drewN nq).heap.size) 0) 1 1 [.bool false] rfl rfl (zCV (wr.drewN nq) false) (by simp[Value.oneCell']) ?b1 ?b2 ?b3 ?next);case b1=>exact Jm
    case b2=>omega
    case b3=>have:=(x.trans ((zx wr nq).mono zw)).size;simp at this;simp;omega
    case next=>
     intro v4 w4 H K Q;have V:=(y.kept (Z6 wr nq) (yU Jb)).lt g rfl;have X:Below (w.heap.size+1) (w.alloc (.cells #[.slice (some (Qa b j)) xs.length cap] 63)) w4:=((x.trans ((zx wr nq).mono zw)).alloc (Jz ((x.trans ((zx wr nq).mono zw)).size)) _).grown K (by have:=(x.trans ((zx wr nq).mono zw)).size;simp at this;simp;omega) (fun q hq=>by simp[Value.ownBlock] at hq;omega);obtain⟨g4,c4,rfl⟩:=ZC H (by simp[Q]);rw[(by rw[zA HV]:[Value.bool false]=[.bool (zBJ xs ts (k+1))]),<-zBo] at H;have J:=zB H;clear H K Q;go_wp2;exact⟨⟨k+1,g4,c4,Jo,Jn,rfl,J,X⟩,Ji⟩
  ·have HX:=zB (Jo:k=ts.length);have hg:=y.lt g rfl;have F:=zB (fun i (hi:i<=k)=>(y.cellAt i Jo).trans (zN2 xs ts k i hi));go_wp2;go_ret;have e:=zA HX;subst e;exact⟨⟨g,c,rfl,Jo,hg.2,fun i hi=>F i hi⟩,U⟩
theorem zPL(b Q cap b' q x i:Nat)(bh:Bool)(xs:List OpR)(ts:List zU)(w:JY)(V:xs.length<=1048576)(hm:ts.length<=1048576)(hi:i<ts.length)(hw:Ops w b Q xs)(hB:b<w.heap.size)(u:zDf w b' q ts)(A:b'<w.heap.size):Calls prog 117 #[.agg #[.slice (some (Qa b Q)) xs.length cap],.slice (some (Qa b' q)) ts.length x,Qi i,.bool bh] w fun e w'=>e=.returned (Qi (zBK xs ts i bh))/\Qb w w':=by
 have HW:=zB (hw.below (zC w (.cells #[.slice (some (Qa b Q)) xs.length cap] 63)) hB);have HT:=zB (u.below (zC w (.cells #[.slice (some (Qa b Q)) xs.length cap] 63)) A);have c0:(w.alloc (.cells #[.slice (some (Qa b Q)) xs.length cap] 63)).cell? (Qa w.heap.size 0)=some (.slice (some (Qa b Q)) xs.length cap):=Jg;obtain⟨a0,a1,a2⟩:=(u i hi).below (zC w (.cells #[.slice (some (Qa b Q)) xs.length cap] 63)) A;clear hw u;have C:(i:Int)<(ts.length:Int):=Jo;have H:=zC w (.cells #[.slice (some (Qa b Q)) xs.length cap] 63);have z0:w.heap.size+1=(w.alloc (.cells #[.slice (some (Qa b Q)) xs.length cap] 63)).heap.size:=Js;have hk:(atT ts i).k=1\/(atT ts i).k=2\/(atT ts i).k=4\/(atT ts i).k=3\/(atT ts i).k=5\/(atT ts i).k=7\/((atT ts i).k≠1/\(atT ts i).k≠2/\(atT ts i).k≠4/\(atT ts i).k≠3/\(atT ts i).k≠5/\(atT ts i).k≠7):=Jo;have LB0:b<(w.alloc (.cells #[.slice (some (Qa b Q)) xs.length cap] 63)).heap.size:=Jq;have LW0:w.heap.size<(w.alloc (.cells #[.slice (some (Qa b Q)) xs.length cap] 63)).heap.size:=Js;have LT0:b'<(w.alloc (.cells #[.slice (some (Qa b Q)) xs.length cap] 63)).heap.size:=Jq;have y:=zB (fun n=>HT.below (zx _ n) LT0);have j:=zB (fun n m=>(HT.below (zx _ n) LT0).below (zx _ m) LT0);cases bh
 case false=>
  rcases hk with hk|hk|hk|hk|hk|hk|hk
  ·have K:=zB hk;have g1:((atT ts i).k==1)=true:=Jq;have g2:((atT ts i).k==2)=false:=Jq;have g4:((atT ts i).k==4)=false:=Jq;have g3:((atT ts i).k==3)=false:=Jq;have g5:((atT ts i).k==5)=false:=Jq;have g7:((atT ts i).k==7)=false:=Jq;clear hk;go_enter func117,ntmps117;go_wp2_with fail;go_ret;exact⟨zF (by simp[zBK,zA K]),H⟩
  ·have K:=zB hk;have g1:((atT ts i).k==1)=false:=Jq;have g2:((atT ts i).k==2)=true:=Jq;have g4:((atT ts i).k==4)=false:=Jq;have g3:((atT ts i).k==3)=false:=Jq;have g5:((atT ts i).k==5)=false:=Jq;have g7:((atT ts i).k==7)=false:=Jq;clear hk;go_enter func117,ntmps117;go_wp2_with fail;go_ret;exact⟨zF (by simp[zBK,zA K]),H⟩
  ·have K:=zB hk;have g1:((atT ts i).k==1)=false:=Jq;have g2:((atT ts i).k==2)=false:=Jq;have g4:((atT ts i).k==4)=true:=Jq;have g3:((atT ts i).k==3)=false:=Jq;have g5:((atT ts i).k==5)=false:=Jq;have g7:((atT ts i).k==7)=false:=Jq;clear hk;go_enter func117,ntmps117;go_wp2_with fail;go_ret;exact⟨zF (by simp[zBK,zA K]),H⟩
  ·have K:=zB hk;have g1:((atT ts i).k==1)=false:=Jq;have g2:((atT ts i).k==2)=false:=Jq;have g4:((atT ts i).k==4)=false:=Jq;have g3:((atT ts i).k==3)=true:=Jq;have g5:((atT ts i).k==5)=false:=Jq;have g7:((atT ts i).k==7)=false:=Jq;clear hk;go_enter func117,ntmps117;go_wp2_with fail;go_region_held (fun w'=>w'.cell? (Qa w.heap.size 0)=some (.slice (some (Qa b Q)) xs.length cap)/\w'.cell? (Qa b' (q+i*3+2))=some (Qs (atT ts i).t)) (go_keep) (first|(go_at_call 121;refine(zBm b Q cap xs (atT ts i).t 1 _ V (HW.below (yJ _ _).drew LB0) LB0).mono ?_;rintro e w1 ⟨⟨r1,rfl,hr1⟩,hb1⟩;have Y:=zB hr1;have X:=zB hb1;have c1:=(hb1.cell (p:=Qa w.heap.size 0) LW0).trans (show(w.alloc (.cells #[.slice (some (Qa b Q)) xs.length cap] 63)).drew.cell? (Qa w.heap.size 0)=_ from c0);have d1:=(hb1.cell (p:=(Qa b' (q+i*3+2))) LT0).trans (show(w.alloc (.cells #[.slice (some (Qa b Q)) xs.length cap] 63)).drew.cell? (Qa b' (q+i*3+2))=_ from a2);clear hr1 hb1));by_cases p1:0<=r1
   ·have hp:ZF xs (atT ts i).t 1=true:=(Zl _ _ _).2 (Y.1 p1);have HP:=zB hp;clear hp;go_wp2_with fail;go_ret;exact⟨zF (by simp[zBK,zA K,zA HP]),H.trans (((yJ _ _).drew.trans X).mono (Nat.le_of_lt LW0))⟩
   ·have hp:ZF xs (atT ts i).t 1=false:=by
     cases h:ZF xs (atT ts i).t 1
     ·rfl
     ·exact yR (Y.2 ((Zl _ _ _).1 h)) p1
    have HP:=zB hp;clear hp;have p1':decide (0<=r1)=false:=decide_eq_false p1;go_wp2_with fail;go_ret;exact⟨zF (by simp[zBK,zA K,zA HP]),H.trans (((yJ _ _).drew.trans X).mono (Nat.le_of_lt LW0))⟩
  ·have K:=zB hk;have g1:((atT ts i).k==1)=false:=Jq;have g2:((atT ts i).k==2)=false:=Jq;have g4:((atT ts i).k==4)=false:=Jq;have g3:((atT ts i).k==3)=false:=Jq;have g5:((atT ts i).k==5)=true:=Jq;have g7:((atT ts i).k==7)=false:=Jq;clear hk;go_enter func117,ntmps117;go_wp2_with fail;go_quiet (fail);go_wp2_with fail;go_ret;exact⟨zF (by have:=zA K;simp[zBK,this]),⟨H.os,H.tape,H.output,H.size,H.block⟩⟩
  ·have K:=zB hk;have g1:((atT ts i).k==1)=false:=Jq;have g2:((atT ts i).k==2)=false:=Jq;have g4:((atT ts i).k==4)=false:=Jq;have g3:((atT ts i).k==3)=false:=Jq;have g5:((atT ts i).k==5)=false:=Jq;have g7:((atT ts i).k==7)=true:=Jq;clear hk;go_enter func117,ntmps117;go_wp2_with fail;go_quiet (fail);go_wp2_with fail;go_ret;exact⟨zF (by have:=zA K;simp[zBK,this]),⟨H.os,H.tape,H.output,H.size,H.block⟩⟩
  ·have K:=zB hk;have g1:((atT ts i).k==1)=false:=Jq;have g2:((atT ts i).k==2)=false:=Jq;have g4:((atT ts i).k==4)=false:=Jq;have g3:((atT ts i).k==3)=false:=Jq;have g5:((atT ts i).k==5)=false:=Jq;have g7:((atT ts i).k==7)=false:=Jq;clear hk;go_enter func117,ntmps117;go_wp2_with fail;go_quiet (fail);go_wp2_with fail;go_ret;exact⟨zF (by have:=zA K;simp[zBK,this]),⟨H.os,H.tape,H.output,H.size,H.block⟩⟩
 case true=>
  rcases hk with hk|hk|hk|hk|hk|hk|hk
  ·have K:=zB hk;have g1:((atT ts i).k==1)=true:=Jq;have g2:((atT ts i).k==2)=false:=Jq;have g4:((atT ts i).k==4)=false:=Jq;have g3:((atT ts i).k==3)=false:=Jq;have g5:((atT ts i).k==5)=false:=Jq;have g7:((atT ts i).k==7)=false:=Jq;clear hk;go_enter func117,ntmps117;go_wp2_with fail;go_quiet (fail);go_wp2_with fail;go_quiet (fail);go_wp2_with fail;go_ret;exact⟨zF (by have:=zA K;simp[zBK,this]),⟨H.os,H.tape,H.output,H.size,H.block⟩⟩
  ·have K:=zB hk;have g1:((atT ts i).k==1)=false:=Jq;have g2:((atT ts i).k==2)=true:=Jq;have g4:((atT ts i).k==4)=false:=Jq;have g3:((atT ts i).k==3)=false:=Jq;have g5:((atT ts i).k==5)=false:=Jq;have g7:((atT ts i).k==7)=false:=Jq;clear hk;go_enter func117,ntmps117;go_wp2_with fail;go_quiet (fail);go_wp2_with fail;go_quiet (fail);go_wp2_with fail;go_ret;exact⟨zF (by have:=zA K;simp[zBK,this]),⟨H.os,H.tape,H.output,H.size,H.block⟩⟩
  ·have K:=zB hk;have g1:((atT ts i).k==1)=false:=Jq;have g2:((atT ts i).k==2)=false:=Jq;have g4:((atT ts i).k==4)=true:=Jq;have g3:((atT ts i).k==3)=false:=Jq;have g5:((atT ts i).k==5)=false:=Jq;have g7:((atT ts i).k==7)=false:=Jq;clear hk;go_enter func117,ntmps117;go_wp2_with fail;go_quiet (fail);go_wp2_with fail;go_quiet (fail);go_wp2_with fail;go_ret;exact⟨zF (by have:=zA K;simp[zBK,this]),⟨H.os,H.tape,H.output,H.size,H.block⟩⟩
  ·have K:=zB hk;have g1:((atT ts i).k==1)=false:=Jq;have g2:((atT ts i).k==2)=false:=Jq;have g4:((atT ts i).k==4)=false:=Jq;have g3:((atT ts i).k==3)=true:=Jq;have g5:((atT ts i).k==5)=false:=Jq;have g7:((atT ts i).k==7)=false:=Jq;clear hk;go_enter func117,ntmps117;go_wp2_with fail;go_region_held (fun w'=>w'.cell? (Qa w.heap.size 0)=some (.slice (some (Qa b Q)) xs.length cap)/\w'.cell? (Qa b' (q+i*3+2))=some (Qs (atT ts i).t)) (go_keep) (first|(go_at_call 121;refine(zBm b Q cap xs (atT ts i).t 2 _ V (HW.below (yJ _ _).drew LB0) LB0).mono ?_;rintro e w1 ⟨⟨r1,rfl,hr1⟩,hb1⟩;have Y:=zB hr1;have X:=zB hb1;have c1:=(hb1.cell (p:=Qa w.heap.size 0) LW0).trans (show(w.alloc (.cells #[.slice (some (Qa b Q)) xs.length cap] 63)).drew.cell? (Qa w.heap.size 0)=_ from c0);have d1:=(hb1.cell (p:=(Qa b' (q+i*3+2))) LT0).trans (show(w.alloc (.cells #[.slice (some (Qa b Q)) xs.length cap] 63)).drew.cell? (Qa b' (q+i*3+2))=_ from a2);clear hr1 hb1));have LB1:b<w1.heap.size:=yl LB0 X.size;have LW1:w.heap.size<w1.heap.size:=yl LW0 X.size;have LT1:b'<w1.heap.size:=yl LT0 X.size;have J:=H.trans (((yJ _ _).drew.trans X).mono (Nat.le_of_lt LW0));by_cases p1:0<=r1
   ·have HP:Hid (ZF xs (atT ts i).t 2=true):=(Zl _ _ _).2 (Y.1 p1);go_wp2_with fail;go_ret;exact⟨zF (by simp[zBK,zA K,zA HP]),J⟩
   ·have HP:=zB (show ZF xs (atT ts i).t 2=false by
     cases h:ZF xs (atT ts i).t 2
     ·rfl
     ·exact yR (Y.2 ((Zl _ _ _).1 h)) p1)
    have p1':decide (0<=r1)=false:=decide_eq_false p1;go_wp2_with fail;go_region_held (fun w'=>w'.cell? (Qa w.heap.size 0)=some (.slice (some (Qa b Q)) xs.length cap)/\w'.cell? (Qa b' (q+i*3+2))=some (Qs (atT ts i).t)) (go_keep) (first|(go_at_call 121;refine(zBm b Q cap xs (atT ts i).t 3 _ V ((HW.below ((yJ _ _).drew.trans X) LB0).below (yJ _ _).drew LB1) LB1).mono ?_;rintro e w2 ⟨⟨r2,rfl,hr2⟩,hb2⟩;have U:=zB hr2;have c:=zB hb2;have c2:=(hb2.cell (p:=Qa w.heap.size 0) LW1).trans (show w1.drew.cell? (Qa w.heap.size 0)=_ from c1);have d2:=(hb2.cell (p:=(Qa b' (q+i*3+2))) LT1).trans (show w1.drew.cell? (Qa b' (q+i*3+2))=_ from d1);clear hr2 hb2));have P:=J.trans (((yJ _ _).drew.trans c).mono (Nat.le_of_lt LW1));by_cases p2:0<=r2
    ·have v:Hid (ZF xs (atT ts i).t 3=true):=(Zl _ _ _).2 (U.1 p2);go_wp2_with fail;go_ret;exact⟨zF (by simp[zBK,zA K,zA HP,zA v]),P⟩
    ·have v:=zB (show ZF xs (atT ts i).t 3=false by
      cases h:ZF xs (atT ts i).t 3
      ·rfl
      ·exact yR (U.2 ((Zl _ _ _).1 h)) p2)
     have p2':decide (0<=r2)=false:=decide_eq_false p2;go_wp2_with fail;go_ret;exact⟨zF (by simp[zBK,zA K,zA HP,zA v]),P⟩
  ·have K:=zB hk;have g1:((atT ts i).k==1)=false:=Jq;have g2:((atT ts i).k==2)=false:=Jq;have g4:((atT ts i).k==4)=false:=Jq;have g3:((atT ts i).k==3)=false:=Jq;have g5:((atT ts i).k==5)=true:=Jq;have g7:((atT ts i).k==7)=false:=Jq;clear hk;by_cases ho:0<opI ts i
   ·have HO:=zB ho;go_enter func117,ntmps117;go_wp2_with fail;go_quiet (fail);go_wp2_with fail;go_quiet (fail);go_wp2_with (go_at_call 167;refine(zDZ b' q x i ts _ hm (Nat.le_of_lt hi) (by first|exact j _ _|exact y _)).mono ?_;rintro e w3 ⟨rfl,hx⟩;obtain rfl:=hx.symm);go_ret;exact⟨zF (by simp[zBK,zA K,zA HO]),⟨H.os,H.tape,H.output,H.size,H.block⟩⟩
   ·have HO:=zB ho;have a:decide (0<opI ts i)=false:=decide_eq_false ho;go_enter func117,ntmps117;go_wp2_with fail;go_quiet (fail);go_wp2_with fail;go_quiet (fail);go_wp2_with (go_at_call 167;refine(zDZ b' q x i ts _ hm (Nat.le_of_lt hi) (by first|exact j _ _|exact y _)).mono ?_;rintro e w3 ⟨rfl,hx⟩;obtain rfl:=hx.symm);go_ret;exact⟨zF (by simp[zBK,zA K,zA HO]),⟨H.os,H.tape,H.output,H.size,H.block⟩⟩
  ·have K:=zB hk;have g1:((atT ts i).k==1)=false:=Jq;have g2:((atT ts i).k==2)=false:=Jq;have g4:((atT ts i).k==4)=false:=Jq;have g3:((atT ts i).k==3)=false:=Jq;have g5:((atT ts i).k==5)=false:=Jq;have g7:((atT ts i).k==7)=true:=Jq;clear hk;by_cases ho:opI ts i=0
   ·have HO:=zB ho;have a:(opI ts i==0)=true:=Ju ho
    by_cases hl:i+1=ts.length
    ·have HL:=zB hl;have B:((i:Int)==(ts.length:Int)-1)=true:=Jq;go_enter func117,ntmps117;go_wp2_with fail;go_quiet (fail);go_wp2_with fail;go_quiet (fail);go_wp2_with (go_at_call 167;refine(zDZ b' q x i ts _ hm (Nat.le_of_lt hi) (by first|exact j _ _|exact y _)).mono ?_;rintro e w3 ⟨rfl,hx⟩;obtain rfl:=hx.symm);go_ret;exact⟨zF (by simp[zBK,zA K,zA HO,zA HL]),⟨H.os,H.tape,H.output,H.size,H.block⟩⟩
    ·have HL:=zB hl;have B:((i:Int)==(ts.length:Int)-1)=false:=Jq;go_enter func117,ntmps117;go_wp2_with fail;go_quiet (fail);go_wp2_with fail;go_quiet (fail);go_wp2_with (go_at_call 167;refine(zDZ b' q x i ts _ hm (Nat.le_of_lt hi) (by first|exact j _ _|exact y _)).mono ?_;rintro e w3 ⟨rfl,hx⟩;obtain rfl:=hx.symm);go_ret;exact⟨zF (by simp[zBK,zA K,zA HO,zA HL]),⟨H.os,H.tape,H.output,H.size,H.block⟩⟩
   ·have HO:=zB ho;have a:(opI ts i==0)=false:=Ju ho
    go_enter func117,ntmps117;go_wp2_with fail;go_quiet (fail);go_wp2_with fail;go_quiet (fail);go_wp2_with (go_at_call 167;refine(zDZ b' q x i ts _ hm (Nat.le_of_lt hi) (by first|exact j _ _|exact y _)).mono ?_;rintro e w3 ⟨rfl,hx⟩;obtain rfl:=hx.symm);go_ret;exact⟨zF (by simp[zBK,zA K,zA HO]),⟨H.os,H.tape,H.output,H.size,H.block⟩⟩
  ·have K:=zB hk;have g1:((atT ts i).k==1)=false:=Jq;have g2:((atT ts i).k==2)=false:=Jq;have g4:((atT ts i).k==4)=false:=Jq;have g3:((atT ts i).k==3)=false:=Jq;have g5:((atT ts i).k==5)=false:=Jq;have g7:((atT ts i).k==7)=false:=Jq;clear hk;go_enter func117,ntmps117;go_wp2_with fail;go_quiet (fail);go_wp2_with fail;go_quiet (fail);go_wp2_with fail;go_ret;exact⟨zF (by have:=zA K;simp[zBK,this]),⟨H.os,H.tape,H.output,H.size,H.block⟩⟩
theorem zTF:(prog.info? 3).map (fun i=>(i.zero,i.size,i.bytes))=some (some (Qi 0),1,8):=Jk
theorem zPM(w:JY)(v:Int):∀j u,(zk [v])[j]?=some u->(w.alloc (.cells #[Qi v] 3)).cell? ((Qa w.heap.size 0).add j)=some u:=by
 intro j u hj;rw[Addr.add_mid];have:=yC (w:=w.alloc (.cells #[Qi v] 3)) (b:=w.heap.size) (heap_alloc_new w _) 0 1;exact this j u (by simpa[zk] using hj)
theorem zDw{w:JY}{g:Nat}(h:g<w.heap.size):zGk w g [] 0:=⟨h,fun j hj=>yR hj (yx j),fun i hi=>yR hi (yx i)⟩
theorem zJ0{xs:List OpR}(h:zO xs 0):zGu xs:=by
 apply zSC;rcases h with⟨h,_⟩|⟨_,⟨h,_⟩|⟨_,⟨h,_⟩|⟨h,_⟩⟩⟩
 ·exact yR h Jd
 ·exact yR h Jd
 ·exact yR h Jd
 ·exact h
theorem zKc(b Q cap b' j P:Nat)(xs:List OpR)(ts:List zU)(w:JY)(F:xs.length<=1048576)(hm:ts.length<=1048576)(hw:Ops w b Q xs)(L:ZA xs)(hB:b<w.heap.size)(W:zDf w b' j ts)(D:b'<w.heap.size):Calls prog 67 #[.agg #[.slice (some (Qa b Q)) xs.length cap],.slice (some (Qa b' j)) ts.length P] w fun e w'=>(∃(g c:Nat)(us:List Int)(v:Int),e=.returned (.tuple #[Ql g us.length c,Qi v])/\w.heap.size<=g/\zGk w' g us us.length/\zP5 xs (zO xs 0) ts us v)/\Qb w w':=by
 have HW:=zB hw;have HS:=zB L;have HT:=zB W;clear hw L W;go_enter func67,ntmps67;go_wp2_with fail;go_call zAM b Q cap xs _ F (HW.below ((zC _ _).alloc Js _) hB) HS Jq as e w1 ⟨⟨c,rfl,hc⟩,hb1⟩;have HC:=zB hc;have z1:w.heap.size+2<=w1.heap.size:=Jz hb1.size
 have X:Qb w w1:=((zC _ _).alloc Js _).trans (hb1.mono Jq);have HO:=zB (show w1.ownsRow (w.heap.size+1) 3 1 (Ql (w.heap.size+1) 0 0) 0 (zk []) by
  have h0:=yG (base:=w.heap.size+1) (e:=3) (size:=1) (w.alloc (.cells #[.slice (some (Qa b Q)) xs.length cap] 63)) #[] 0 Js (ym _) rfl
  have h1:=h0.kept (Zq hb1 none) (yU Jb)
  simpa[zk] using h1)
 have c1:w1.cell? (Qa w.heap.size 0)=some (.slice (some (Qa b Q)) xs.length cap):=by rw[hb1.cell (p:=Qa w.heap.size 0) Jq];simp[go_sem]
 clear hb1 hc;by_cases Y:c=0;case neg=>
  have h5:(c != 0)=true:=Ju Y
  have HN:Hid (¬ zO xs 0):=fun h=>Y (zAC HC h)
  clear Y;go_wp2_with fail;go_ret2;exact⟨⟨w.heap.size+1,0,[],0,rfl,Jo,zDw Jo,yS ⟨HN,rfl,rfl⟩⟩,X⟩
 subst Y;have hs:=zB (zJ0 HC);go_wp2_with fail;go_call zMQ b Q cap b' j P xs ts _ F hm (HW.below X hB) Jo (HT.below X D) Jo as e w2 ⟨⟨gs,cst,rfl,hgsl,u,hst⟩,hb2⟩;have r:=zB hst;have B:=X.trans (hb2.mono X.size);have O:=zB (HO.kept (Zq hb2 none) (yU Jb));have c2:=Jc hb2 (Jo:w.heap.size<w1.heap.size) c1;have z2:w.heap.size+2<=w2.heap.size:=yw z1 hb2.size;have hp:Hid (w1.heap.size<=gs):=hgsl;clear hst hb2 HO c1;obtain⟨i0,t,n,N,R⟩:=info_parts zTF;have hd:=zB t;have I:=zB (yK n (yK N R));clear t n N R;go_wp2_with fail;go_loopw [6,8] (fun ov iv wr=>∃(k g c:Nat),k<=ts.length/\iv=Qi k/\ov = Ql g k c/\Hid (zCL xs ts k)/\Hid (wr.ownsRow (w.heap.size+1) 3 1 (Ql g k c) k (zk (Zs xs ts k)))/\Hid (wr.cell? (Qa w.heap.size 0)=some (.slice (some (Qa b Q)) xs.length cap))/\Hid (∀i,i<=ts.length->wr.cell? (Qa gs i)=some (.bool (zBJ xs ts i)))/\gs<wr.heap.size/\w.heap.size+2<=wr.heap.size/\Hid (Qb w wr)/\Hid (g≠gs)) (fun _ iv _=>ts.length-(intOf iv).toNat);case atStart=>exact⟨0,w.heap.size+1,0,ym _,rfl,rfl,zB (fun i hi=>Jo),O,zB c2,r,u,z2,zB B,zB (Jy (zA hp))⟩
 case round=>
  clear O r c2 z2 B u;obtain⟨k,g,c,hk,rfl,rfl,x,V,Y,l,u,hz,K,s⟩:=hrel;have e0:=zA Y;by_cases G:k<ts.length
  ·have h6:(k:Int)<(ts.length:Int):=Jo;have ha:(k:Int)<((ts.length+1:Nat):Int):=Jo;have hy:(k:Int)<(ts.length:Int)+1:=Jo;have s0:=(zA l) k Jo;have hu:b<wr.heap.size:=Jo;have o:b'<wr.heap.size:=Jo;have zw:w.heap.size<wr.heap.size:=Jo;go_wp2_with fail;go_region_held (fun w'=>w'.cell? (Qa w.heap.size 0)=some (.slice (some (Qa b Q)) xs.length cap)/\w'.cell? (Qa gs k)=some (.bool (zBJ xs ts k))) (go_keep) (first|(go_at_call 117;refine(zPL b Q cap b' j P k (zBJ xs ts k) xs ts _ F hm G (HW.below K.drew hB) hu (HT.below K.drew D) o).mono ?_;rintro e w3 ⟨rfl,hb3⟩;have q0:=(hb3.cell (p:=Qa w.heap.size 0) zw).trans (show wr.drew.cell? (Qa w.heap.size 0)=_ from e0);have q1:=(hb3.cell (p:=Qa gs k) u).trans (show wr.drew.cell? (Qa gs k)=_ from s0);have M:=zB hb3;clear hb3));have S:=zUM hs k G x;rw[S];have U:Qb wr w3:=(yJ _ _).drew.trans M;have E:=zB (V.kept (Zq U none) (yU Jb));have f:=zB (K.trans (U.mono K.size));have T:=zB (fun i (hi:i<=ts.length)=>Jc U u (l i hi));have z3:wr.heap.size<=w3.heap.size:=U.size;clear U V K l S M e0 s0 Y;by_cases hr:zZ xs ts k<0
   ·have HR:=zB hr;go_wp2_with fail;go_ret2;exact⟨⟨w3.heap.size,0,[],(k:Int),rfl,Jo,zDw Js,yU ⟨HC,yS ⟨k,G,x,HR,rfl,rfl⟩⟩⟩,f.alloc Jo _⟩
   have hl:0<=zZ xs ts k:=Jo;have hx:=zB (show zCL xs ts (k+1) from fun i hi=>by
    by_cases e:i=k
    ·subst e;exact hl
    ·exact x i Jo)
   have hF:=E.lt g rfl;go_wp2_with (at_builtin;refine wpList_append_lies _ rfl (.tmp 36) (.tmp 38) 49 rfl (w.heap.size+1) 3 i0 _ 1 8 underlying49 hd I.1 I.2.1 I.2.2 rfl Jd _ k (zk (Zs xs ts k)) rfl (E.alloc _) (Qa w3.heap.size 0) 1 1 (zk [zZ xs ts k]) rfl rfl (zPM w3 (zZ xs ts k)) (zBF _) Jd ?b1 ?b2 ?b3 _ rfl ?next);case b1=>exact Jm
   case b2=>omega
   case b3=>first|omega|(simp;omega)
   case next=>
    intro g4 c4 w4 y H d h4;have A:Qb w w4:=(f.alloc Jo _).grown H Jq (fun q hq=>by simp[Value.ownBlock] at hq;omega);have J:∀bb,bb<w3.heap.size->bb≠g->w4.heap[bb]?=w3.heap[bb]?:=fun bb h1 h2=>(H.block bb Jq (by simp[Value.ownBlock];omega)).trans ((zC w3 _).block bb h1)
    have q4:w4.cell? (Qa w.heap.size 0)=some (.slice (some (Qa b Q)) xs.length cap):=(yu (J w.heap.size Jo Jo)).trans q0;have m:=zA s;have Z:=zB (fun i (hi:i<=ts.length)=>(yu (w:=w3) (a:=Qa gs i) (J gs Jo (fun e=>m e.symm))).trans (T i hi));have h3:g4≠gs:=by
     rcases d with h|h
     ·simp[Value.ownBlock] at h;omega
     ·first|omega|(simp at h;omega)
    rw[<-zAT,<-zGt] at y;have hj:=zB y;have hC:w3.heap.size<=w4.heap.size:=Jz H.size
    have hv:=zB A;have he:=zB q4;clear y H d J A E f T q4 q0 q1 s;go_wp2;exact⟨⟨k+1,g4,c4,Jo,Jn,rfl,hx,hj,he,Z,Jo,Jo,hv,zB h3⟩,Ji⟩
  ·obtain rfl:k=ts.length:=Jo;by_cases hn:ts.length=0
   ·have hh:((ts.length:Int)==0)=true:=beq_iff_eq.2 Jo;have HN:=zB hn;clear hn;go_wp2_with fail;go_ret2;refine⟨⟨wr.heap.size,0,[],(ts.length:Int),rfl,Jo,zDw Js,yU ⟨HC,yU ⟨x,yU ⟨fun h=>Jy (zA HN),rfl,rfl⟩⟩⟩⟩,?_⟩
    first
     |exact K.alloc Jo _
     |(have hb:=K.alloc (Jo:w.heap.size<=wr.heap.size) (.cells #[] 3);exact⟨hb.os,hb.tape,hb.output,hb.size,hb.block⟩)
   ·have hh:((ts.length:Int)==0)=false:=yX.2 Jo;obtain⟨a0,a1,a2⟩:=((HT) (ts.length-1) Jo).below K D;have hA:(ts.length:Int)-1=((ts.length-1:Nat):Int):=Jo;have hD:((ts.length-1:Nat):Int)<(ts.length:Int):=Jo;have h8:((ts.length:Int)-1).toNat=ts.length-1:=Jo;have h9:(ts.length:Int)-1<(ts.length:Int):=Jo;have hE:(0:Int)<=(ts.length:Int)-1:=Jo;by_cases h7:(atT ts (ts.length-1)).k=7
    ·have ht:((atT ts (ts.length-1)).k != 7)=false:=Ju h7
     have H7:=zB h7;clear h7;go_wp2_with fail;go_ret2;have ho:=zA V;have C:(Zs xs ts ts.length).length=ts.length:=zAP _ _ _;obtain⟨hg,hf⟩:=zEh (zs:=Zs xs ts ts.length) (by rw[C];exact ho);exact⟨⟨g,c,Zs xs ts ts.length,-1,by rw[C];rfl,Jo,hf,yU ⟨HC,yU ⟨x,yS ⟨⟨Jo,H7⟩,rfl,rfl⟩⟩⟩⟩,K⟩
    ·have ht:((atT ts (ts.length-1)).k != 7)=true:=Ju h7
     have H7:=zB h7;clear h7;go_wp2_with fail;go_ret2;exact⟨⟨wr.heap.size,0,[],(ts.length:Int),rfl,Jo,zDw Js,yU ⟨HC,yU ⟨x,yU ⟨fun h=>H7 h.2,rfl,rfl⟩⟩⟩⟩,K.alloc Jo _⟩
end Go.Proofs.YtadiaghhackbjaaGreatDoor
