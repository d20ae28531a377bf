import Derived.Test.YtadiaghhackbjaaGreatDoorU15
import Derived.Test.YtadiaghhackbjaaGreatDoorU21
import Derived.Test.YtadiaghhackbjaaGreatDoorU23
import Derived.Test.YtadiaghhackbjaaGreatDoorU26
import Derived.Test.YtadiaghhackbjaaGreatDoorU27
namespace Go.Proofs.YtadiaghhackbjaaGreatDoor
set_option linter.all false
set_option maxHeartbeats 0
set_option maxRecDepth 100000
open Proofs.Tryz RowKit
variable{N:Nat}{W W':World}{ns:List OpR}{s:ByteArray}{tmps:Array Value}{ts:List zU}
theorem zMa{xs:List OpR}{i:Nat}(h:TkF xs ts i)(hk:1<=(atT ts i).k/\(atT ts i).k<=7/\(atT ts i).k≠6):((sgT xs ts i).1=1\/(sgT xs ts i).1=2->((atT ts i).k=1\/(atT ts i).k=2)/\sgT xs ts i=((atT ts i).k.toNat,(atT ts i).t)) /\
  ((sgT xs ts i).1=6->(atT ts i).k=4) /\
  (3<=(sgT xs ts i).1->(sgT xs ts i).1<=5->((sgT xs ts i).1:Int)=zZ xs ts i+2/\(sgT xs ts i).2=(atT ts i).t):=by
 rcases h with⟨k3,hr,es,_⟩|⟨k3,h0,hn⟩
 ·rw[es];simp only;exact⟨fun h=>Jo,fun h=>Jo,fun _ _=>⟨Jo,trivial⟩⟩
 ·refine⟨fun h=>?_,fun h=>?_,fun h3 h5=>yR ⟨h3,h5⟩ hn⟩
  ·unfold sgT at h ⊢;rw[yP k3] at h ⊢;by_cases k4:(atT ts i).k=4
   ·rw[yQ k4] at h;exfalso;revert h;decide
   ·rw[yP k4] at h ⊢;by_cases k5:(atT ts i).k=5
    ·rw[yQ k5] at h;exfalso;revert h;decide
    ·rw[yP k5] at h ⊢;by_cases k7:(atT ts i).k=7
     ·rw[yQ k7] at h;exfalso;revert h;decide
     ·rw[yP k7];exact⟨Jo,rfl⟩
  ·unfold sgT at h;rw[yP k3] at h;by_cases k4:(atT ts i).k=4
   ·exact k4
   ·rw[yP k4] at h;by_cases k5:(atT ts i).k=5
    ·rw[yQ k5] at h;exfalso;revert h;decide
    ·rw[yP k5] at h;by_cases k7:(atT ts i).k=7
     ·rw[yQ k7] at h;exfalso;revert h;decide
     ·rw[yP k7] at h;simp only at h;omega
theorem zBz{b Q cap gt ot ct gr cr:Nat}{xs:List OpR}{ts:List zU}{us:List Int}{B:Nat}(hv:zO xs 0)(hm:xs.length<=1048576)(K:ZA xs)(hF:TF xs ts us):∀(n lo hi:Nat)(u:Value)(ns:List zD)(w:JY),lo<=hi->hi<=ts.length->hi-lo<=n->Seg xs (sgs xs ts lo (hi-lo))->BE w B b Q gt ot gr xs ts us->ZK w B u ns->ns.length+(hi-lo)<=90000 ->
   Calls prog 68 #[.agg #[.slice (some (Qa b Q)) xs.length cap],.slice (some (Qa gt ot)) ts.length ct,Ql gr us.length cr,Qi lo,Qi hi,u] w (zAu w B u ns (bld xs n (sgs xs ts lo (hi-lo))) (hi-lo))
 |0,lo,hi,u,ns,w,hlo,hhi,hn,hs,hE,hrow,hlen=>by
  have:hi-lo=0:=Jo;rw[this] at hs;exact yR rfl (Seg.ne hs)
 |n+1,lo,hi,u,ns,w,hlo,hhi,hn,hs,hE,hrow,hlen=>by
  have ssl:=zAq xs ts lo (hi-lo);cases hrt:rtF xs (sgs xs ts lo (hi-lo)) 0 0 none with
  |none=>
   have hR:zDv (rtF xs (sgs xs ts lo (hi-lo)) lo 0 none) = -1:=by rw[zSl,hrt];rfl
   rcases zNl hs hrt with⟨s,a,H⟩|⟨q,H,hq⟩
   ·have h1:hi-lo=1:=by rw[H] at ssl;simpa using ssl.symm
    have P:s=sgT xs ts lo:=by
     have:=H;rw[h1] at this;simp only[sgs,List.range'_one,List.map_cons,List.map_nil,List.cons.injEq,and_true] at this;exact this.symm
    rw[P] at a;obtain⟨hk,he⟩:=(zMa (hF.all lo Jo).1 (hF.all lo Jo).2).1 a;have hb:bld xs (n+1) (sgs xs ts lo (hi-lo))=some (.node (atT ts lo).k.toNat 0 (atT ts lo).t .nil .nil):=by
     simp only[bld];rw[hrt,H,P,he];simp only;rw[yP Jo]
    rw[hb];exact zU6 b Q cap gt ot ct gr cr lo hi xs ts us B u ns w hm hE hF Jo hhi hR hrow Jo hk rfl Jo
   ·have g:hi-lo=q.length+2:=by rw[H] at ssl;simp at ssl;omega
    have P:=H;rw[g,zFW] at P;injection P with hsg1 hsg2;have A:=hsg2;rw[zFX] at A;have D:=(List.append_inj' A Js).1;have hk:=(zMa (hF.all lo Jo).1 (hF.all lo Jo).2).2.1 (by rw[hsg1]);have e0:hi-1-(lo+1)=q.length:=Jo;have hb:bld xs (n+1) (sgs xs ts lo (hi-lo))=(bld xs n q).map (fun T=>.node 6 0 ByteArray.empty T .nil):=by
     simp only[bld];rw[hrt,H];simp
    rw[hb];refine zTH b Q cap gt ot ct gr cr lo hi xs ts us B u ns w hm hE hF Jo hhi hR hrow hlen hk (bld xs n q) (fun W hW hr=>?_);have h:=zBz hv hm K hF n (lo+1) (hi-1) u ns W (cap:=cap) (ct:=ct) (cr:=cr) Jo Jo Jo (by rw[e0,D];exact hq) hW hr Jo;rw[e0,D,(Jo:((lo+1:Nat):Int)=(lo:Int)+1),(Jo:((hi-1:Nat):Int)=(hi:Int)-1)] at h;rw[(Jo:hi-lo-2=q.length)];exact h
  |some x=>
   obtain⟨L,R,H,V,i,J⟩:=zNm hs hrt;obtain⟨g1,g2,g3,g4⟩:=zQQ H;rw[<-V] at g1 g2 g3 g4;have hR:zDv (rtF xs (sgs xs ts lo (hi-lo)) lo 0 none)=((lo+x.1:Nat):Int):=by
    rw[zSl,hrt];show((x.1+lo:Nat):Int)=_;rw[Nat.add_comm]
   have d:lo+x.1<ts.length:=Jo;have E:3<=x.2.1/\x.2.1<=5:=by
    rcases J with⟨h,_⟩|⟨h,_⟩|⟨h,_⟩<;>omega
   obtain⟨C,v⟩:=(zMa (hF.all (lo+x.1) d).1 (hF.all (lo+x.1) d).2).2.2 (by rw[<-g1];exact E.1) (by rw[<-g1];exact E.2);rw[<-g1] at C v;have Y:bld xs (n+1) (sgs xs ts lo (hi-lo))=(if(x.2.1=3/\x.1≠0)\/(x.2.1=5/\x.1+1≠hi-lo) then none
     else if x.2.1=3 then(match bld xs n ((sgs xs ts lo (hi-lo)).drop 1) with
      |none=>none
      |some T=>if zCJ xs 3 x.2.2 T .nil then some (.node 3 0 x.2.2 T .nil) else none)
     else if x.2.1=5 then(match bld xs n ((sgs xs ts lo (hi-lo)).take x.1) with
      |none=>none
      |some T=>if zCJ xs 5 x.2.2 T .nil then some (.node 5 0 x.2.2 T .nil) else none)
     else(match bld xs n ((sgs xs ts lo (hi-lo)).take x.1) with
      |none=>none
      |some T=>(match bld xs n ((sgs xs ts lo (hi-lo)).drop (x.1+1)) with
       |none=>none
       |some T2=>if zCJ xs 4 x.2.2 T T2 then some (.node 4 0 x.2.2 T T2) else none))):=by
    conv=>lhs;unfold bld
    rw[hrt];simp only[ssl];rfl
   have y:(sgs xs ts lo (hi-lo)).take x.1=sgs xs ts lo x.1:=by
    rw[H,V,List.take_left']
    ·rw[<-V];exact g3
    ·rfl
   have j:(sgs xs ts lo (hi-lo)).drop (x.1+1)=sgs xs ts (lo+x.1+1) (hi-lo-x.1-1):=by
    have e:L++x.2::R=(L++[x.2])++R:=Js;rw[H,<-g4,e];exact List.drop_left' (by simp[V])
   rcases J with⟨h3,p⟩|⟨h5,X⟩|⟨h4,X,p⟩
   ·by_cases hz:x.1=0
    ·have G:L=[]:=jd.1 Jo;have U:=p G;rw[g4,hz] at U;have e0:hi-(lo+1)=hi-lo-0-1:=Jo;rw[Y,yP Jo,yQ h3];have F:(sgs xs ts lo (hi-lo)).drop 1=sgs xs ts (lo+1) (hi-(lo+1)):=by
      have:=j;rw[hz] at this;rw[e0];exact this
     rw[F,v];have c:Seg xs (sgs xs ts (lo+1) (hi-(lo+1))):=by rw[e0];exact U
     refine zWf b Q cap gt ot ct gr cr lo hi (lo+x.1) xs ts us B u ns w hm K hE hF Jo Jo hhi hR hrow hlen Jo Jo (bld xs n (sgs xs ts (lo+1) (hi-(lo+1)))) (fun T hT=>(zAh hv _ _ _ c hT).1) (fun W hW hr=>?_) _ rfl;have h:=zBz hv hm K hF n (lo+1) hi u ns W (cap:=cap) (ct:=ct) (cr:=cr) Jo Jo Jo c hW hr Jo;rw[(Jo:((lo+1:Nat):Int)=(lo:Int)+1)] at h;rw[(Jo:hi-lo-1=hi-(lo+1))];exact h
    ·rw[Y,yQ (yS ⟨h3,hz⟩)];exact zVC b Q cap gt ot ct gr cr lo hi (lo+x.1) xs ts us B u ns w hm K hE hF Jo Jo hhi hR hrow hlen Jo Jo
   ·by_cases hz:x.1+1=hi-lo
    ·rw[Y,yP Jo,yP Jo,yQ h5,y,v];rw[g3] at X;have e0:lo+x.1-lo=x.1:=Jo;refine zVE b Q cap gt ot ct gr cr lo hi (lo+x.1) xs ts us B u ns w hm K hE hF Jo Jo hhi hR hrow hlen Jo Jo (bld xs n (sgs xs ts lo x.1)) (fun T hT=>(zAh hv _ _ _ X hT).1) (fun W hW hr=>?_) _ rfl;have h:=zBz hv hm K hF n lo (lo+x.1) u ns W (cap:=cap) (ct:=ct) (cr:=cr) Jo Jo Jo (by rw[e0];exact X) hW hr Jo;rw[e0] at h;rw[(Jo:hi-lo-1=x.1)];exact h
    ·rw[Y,yQ (yU ⟨h5,hz⟩)];exact zVD b Q cap gt ot ct gr cr lo hi (lo+x.1) xs ts us B u ns w hm K hE hF Jo Jo hhi hR hrow hlen Jo Jo
   ·rw[Y,yP Jo,yP Jo,yP Jo,y,j,v];rw[g3] at X;rw[g4] at p;have e0:lo+x.1-lo=x.1:=Jo;have e1:hi-(lo+x.1+1)=hi-lo-x.1-1:=Jo;refine zWg b Q cap gt ot ct gr cr lo hi (lo+x.1) xs ts us B u ns w hm K hE hF Jo Jo hhi hR hrow hlen Jo (bld xs n (sgs xs ts lo x.1)) (bld xs n (sgs xs ts (lo+x.1+1) (hi-lo-x.1-1))) (fun T hT=>(zAh hv _ _ _ X hT).1) (fun T hT=>(zAh hv _ _ _ p hT).1) (fun W hW hr=>?_) (fun W u1 f hW hr hl=>?_) _ rfl
    ·have h:=zBz hv hm K hF n lo (lo+x.1) u ns W (cap:=cap) (ct:=ct) (cr:=cr) Jo Jo Jo (by rw[e0];exact X) hW hr Jo;rw[e0] at h;rw[e0];exact h
    ·have h:=zBz hv hm K hF n (lo+x.1+1) hi u1 f W (cap:=cap) (ct:=ct) (cr:=cr) Jo Jo Jo (by rw[e1];exact p) hW hr Jo;rw[e1,(Jo:((lo+x.1+1:Nat):Int)=((lo+x.1:Nat):Int)+1)] at h;rw[(Jo:hi-(lo+x.1)-1=hi-lo-x.1-1)];exact h
open Go.Maps
def zAI(xs:List OpR)(s:JZ)(w:JY)(e:Ending)(w':JY):Prop:=
 (∃(a:Option Addr)(cc:Nat)(us:List zD)(c p:Int),e=.returned (.tuple #[.agg #[.slice a us.length cc],Qi c,Qi p])/\Hid (Zi w' w.heap.size a us)/\Hid (zAs xs s us c p))/\Qb w w'
theorem zAI.empty{xs:List OpR}{w w':JY}{c p:Int}(h:zAs xs s [] c p)(hb:Qb w w'):zAI xs s w (.returned (.tuple #[.agg #[.slice none 0 0],Qi c,Qi p])) w':=
 ⟨⟨none,0,[],c,p,rfl,zB (show Zi w' w.heap.size none [] from yS ⟨rfl,rfl⟩),zB h⟩,hb⟩
def zOO(N M bo bs:Nat)(W:JY):Prop:=
 (W.cell? (Qa (N+1) 0)=some (.slice none 0 0)/\W.frozen? (Qa (N+1) 0)=false)/\(W.cell? (Qa (N+1+1) 0)=some (Qi 0)/\W.frozen? (Qa (N+1+1) 0)=false)/\(W.cell? (Qa (N+1+1+1) 0)=some (Qi 0)/\W.frozen? (Qa (N+1+1+1) 0)=false) /\
 W.cell? (Qa M 0)=some (.map (some bo))/\W.cell? (Qa M 1)=some (.map (some bs))
theorem zOO.keptO{M bo bs p:Nat}(h:zOO N M bo bs W)(hk:zJ W W' p)(h1:N+4<=p)(h2:M≠p):zOO N M bo bs W':=by
 obtain⟨⟨a1,b1⟩,⟨a2,b2⟩,⟨a3,b3⟩,i0,i1⟩:=h;have l1:N+1<W.heap.size:=block_lt_of_cell a1;have l2:N+1+1<W.heap.size:=block_lt_of_cell a2;have l3:N+1+1+1<W.heap.size:=block_lt_of_cell a3;have lm:M<W.heap.size:=block_lt_of_cell i0;exact⟨⟨(hk.cell l1 Jo 0).trans a1,(hk.frozen l1 Jo 0).trans b1⟩,⟨(hk.cell l2 Jo 0).trans a2,(hk.frozen l2 Jo 0).trans b2⟩,⟨(hk.cell l3 Jo 0).trans a3,(hk.frozen l3 Jo 0).trans b3⟩,(hk.cell lm h2 0).trans i0,(hk.cell lm h2 1).trans i1⟩
theorem zOO.below{M bo bs:Nat}(h:zOO N M bo bs W)(hb:Qb W W'):zOO N M bo bs W':=by
 have lm:M<W.heap.size:=block_lt_of_cell h.2.2.2.1;have l3:N+1+1+1<W.heap.size:=block_lt_of_cell h.2.2.1.1;exact h.keptO (zJ.of_below (g:=W.heap.size) hb) Jo Jo
theorem zF4{R:Ending->World->Prop}{N M bo bs:Nat}{code h:Int}(hF:zOO N M bo bs W)(H:∀W',W'.cell? (Qa (N+1) 0)=some (.slice none 0 0)->W'.cell? (Qa (N+1+1) 0)=some (Qi code)->W'.cell? (Qa (N+1+1+1) 0)=some (Qi h)->(results Tryz.f52 tmps).run prog W'=.ok (.tuple #[.agg #[.slice none 0 0],Qi code,Qi h]) W')(hR:∀W',Below N W W'->R (.returned (.tuple #[.agg #[.slice none 0 0],Qi code,Qi h])) W'):Leaves prog Tryz.f52 tmps R [{ target:=.fn (.func 89) #[Qp (N+1+1),Qp (N+1+1+1)],args:=#[] }] (.panicking [{ v:=.iface 195 (.agg #[Qi code,Qi h]),recovered:=false }]) W:=by
 obtain⟨⟨a1,b1⟩,⟨a2,b2⟩,⟨a3,b3⟩,_,_⟩:=hF;have l1:N+1<W.heap.size:=block_lt_of_cell a1;have l2:N+1+1<W.heap.size:=block_lt_of_cell a2;have l3:N+1+1+1<W.heap.size:=block_lt_of_cell a3;refine leaves_cons (f:=89) (args:=#[Qp (N+1+1),Qp (N+1+1+1)]) Js Jg ?_;refine(zId _ _ 0 0 code h _ a2 b2 a3 b3 Jo).mono ?_;rintro e u' w'' ⟨rfl,rfl,wz,hbz,rfl⟩;have y1:=(hbz.cell (p:=(Qa (N+1) 0)) l1).trans a1;have y2:=(hbz.cell (p:=(Qa (N+1+1) 0)) l2).trans a2;have y3:=(hbz.cell (p:=(Qa (N+1+1+1) 0)) l3).trans a3;refine⟨_,H _ ?_ ?_ ?_,hR _ ?_⟩
 ·rw[yj _ _ _ _ (fun e=>by injection e with e;omega),yj _ _ _ _ (fun e=>by injection e with e;omega)];exact y1
 ·rw[yj _ _ _ _ (fun e=>by injection e with e;omega)];exact yt _ _ _ y2
 ·have y4:=(yj wz (Qa (N+1+1) 0) (Qa (N+1+1+1) 0) (Qi code) (fun e=>by injection e with e;omega)).trans y3;exact yt _ _ _ y4
 ·exact((hbz.mono Jo).setCell Jr _).setCell Jr _
theorem zMb{R:Ending->World->Prop}{N:Nat}{v:Value}(h:(results Tryz.f52 tmps).run prog W=.ok v W)(hR:R (.returned v) W):Leaves prog Tryz.f52 tmps R [{ target:=.fn (.func 89) #[Qp (N+1+1),Qp (N+1+1+1)],args:=#[] }] .returning W:=by
 refine leaves_cons (f:=89) (args:=#[Qp (N+1+1),Qp (N+1+1+1)]) Js Jg ?_;refine(zPP _ _ _).mono ?_;rintro e u' w'' ⟨rfl,rfl,rfl⟩;exact⟨v,h,hR⟩
def zTd(xs:List OpR)(w:JY)(e:Ending)(w':JY):Prop:=(∃(x y:Option Nat)(c:Int),e=.returned (.tuple #[.agg #[.map x,.map y],Qi c])/\zO xs c/\(c=0->∃bo bs,x=some bo/\y=some bs/\Idx w' bo bs xs xs.length))/\Qb w w'
theorem zKk(a:Option Addr)(cap:Nat)(xs:List OpR)(s:JZ)(w:JY)(S:xs.length<=1048576)(hI:∀W,Qb w W->Calls prog 91 #[.agg #[.slice a xs.length cap]] W (zTd xs W))(m:ZA xs)(hs:s.size<=maxLen):Calls prog 52 #[.agg #[.slice a xs.length cap],Qs s] w (zAI xs s w):=by
 have hd:∀(fn:Fn)(first cap:Array Value)(w:JY),(Instr.makeFunc fn first cap).run prog w=.ok (.func fn first cap) w:=fun _ _ _ _=>rfl
 have HS:=zB m;clear m;have B:Qb w ((((w.alloc (.cells #[.slice a xs.length cap] 63)).alloc (.cells #[.slice none 0 0] 70)).alloc (.cells #[Qi 0] 3)).alloc (.cells #[Qi 0] 3)):=(((zC _ _).alloc Js _).alloc Jq _).alloc Jq _;have HX:=hI _ B;clear hI;have O:=zB B;clear B;go_enter_defers func52,ntmps52;go_wp2_with fail;refine HX.mono ?_;clear HX;rintro e w1 ⟨⟨x,y,c,rfl,hc,hix⟩,hb1⟩;have HC:=zB hc;have L:=zB hix;have z1:w.heap.size+4<=w1.heap.size:=Jz hb1.size
 have G:Qb w w1:=O.trans (hb1.mono Jq);have t1:w1.cell? (Qa (w.heap.size+1) 0)=some (.slice none 0 0):=(hb1.cell (p:=(Qa (w.heap.size+1) 0)) Js).trans Jg;have u1:w1.frozen? (Qa (w.heap.size+1) 0)=false:=(hb1.frozen (p:=(Qa (w.heap.size+1) 0)) Js).trans Jg;have t2:w1.cell? (Qa (w.heap.size+1+1) 0)=some (Qi 0):=(hb1.cell (p:=(Qa (w.heap.size+1+1) 0)) Js).trans Jg;have u2:w1.frozen? (Qa (w.heap.size+1+1) 0)=false:=(hb1.frozen (p:=(Qa (w.heap.size+1+1) 0)) Js).trans Jg;have t3:w1.cell? (Qa (w.heap.size+1+1+1) 0)=some (Qi 0):=(hb1.cell (p:=(Qa (w.heap.size+1+1+1) 0)) Js).trans Jg;have u3:w1.frozen? (Qa (w.heap.size+1+1+1) 0)=false:=(hb1.frozen (p:=(Qa (w.heap.size+1+1+1) 0)) Js).trans Jg;have q:Qb w (w1.alloc (.cells #[.map x,.map y] 161)):=G.alloc G.size _;have K:=zC w1 (.cells #[.map x,.map y] 161);replace t1:=(K.cell (p:=(Qa (w.heap.size+1) 0)) Jr).trans t1;replace u1:=(K.frozen (p:=(Qa (w.heap.size+1) 0)) Jr).trans u1;replace t2:=(K.cell (p:=(Qa (w.heap.size+1+1) 0)) Jr).trans t2;replace u2:=(K.frozen (p:=(Qa (w.heap.size+1+1) 0)) Jr).trans u2;replace t3:=(K.cell (p:=(Qa (w.heap.size+1+1+1) 0)) Jr).trans t3;replace u3:=(K.frozen (p:=(Qa (w.heap.size+1+1+1) 0)) Jr).trans u3;clear hc hix hb1 O;by_cases d:c=0;case neg=>
  have ha:(c != 0)=true:=Ju d
  have HN:Hid (¬ zO xs 0):=fun h=>d (zAC HC h)
  clear d;go_wp2_with fail;refine zMb (v:=.tuple #[.agg #[.slice none 0 0],Qi 1,Qi 0]) ?_ ?_
  ·simp[results,results52,go_sem,t1,t2,t3]
  ·exact zAI.empty (yS ⟨HN,rfl,rfl,rfl⟩) (((q.setCell Jr _).setCell Jr _).setCell Jr _)
 subst d;obtain⟨bo,bs,rfl,rfl,u⟩:=(zA L) rfl;by_cases A:20000<s.size
 ·have R:(20000:Int)<(s.size:Int):=Jo;have HN:=zB A;clear L u A;go_wp2_with fail;refine zMb (v:=.tuple #[.agg #[.slice none 0 0],Qi 2,Qi 0]) ?_ ?_
  ·simp[results,results52,go_sem,t1,t2,t3]
  ·exact zAI.empty (yU ⟨HC,yS ⟨HN,rfl,rfl,rfl⟩⟩) (((q.setCell Jr _).setCell Jr _).setCell Jr _)
 have J:s.size<=20000:=Jo;have R:(s.size:Int)<=20000:=Jo;have HF:=zB (show zOO w.heap.size w1.heap.size bo bs (w1.alloc (.cells #[.map (some bo),.map (some bs)] 161)) from⟨⟨t1,u1⟩,⟨t2,u2⟩,⟨t3,u3⟩,Jg,Jg⟩);have k:=zB (u.kept K);have HX:=zVF bo bs xs s _ k HC HS J;clear L u K t1 t2 t3 u1 u2 u3 A;go_wp2_with fail;refine HX.mono ?_;clear HX;rintro e w3 ⟨⟨g,cp,ts,rfl,⟨hg,hcp,hcpm⟩,hfil,hlex⟩,hb3⟩;have Q:=q.trans (hb3.mono q.size);replace HF:=zB (HF.below hb3);replace k:=zB (k.kept hb3);have hh:w.heap.size<=g:=by simp at hg;omega
 have D:g<w3.heap.size:=hfil.1;have HT:Hid (zDf w3 g 0 ts):=hfil.2.2;have HR:=zB (zF0 hlex);have HZ:=zB (zDY ts 0 hlex);have M:ts.length+Zf ts ts.length<=1048576:=Jy (zA HR)
 have N:w1.heap.size+1<=w3.heap.size:=Jz hb3.size
 have HX:=zKd g 0 cp ts w3 M hcp hcpm HT D (fun i hi=>Jy (((HZ) i hi).1));clear hb3 hfil HR hg q;go_wp2_with fail;refine HX.mono ?_;clear HX;rintro e w4 ⟨⟨i,hi,h6,hno,rfl⟩|⟨hno,rfl⟩,hb4⟩
 ·refine zF4 (zA (zB (HF.below hb4))) (fun W' a b c=>by simp[results,results52,go_sem,a,b,c]) (fun W' hb=>zAI.empty (yU ⟨HC,yU ⟨J,ts,hlex,yS ⟨i,hi,h6,hno,rfl,rfl,rfl⟩⟩⟩) ((Q.trans (hb4.mono Q.size)).trans hb))
 replace HF:=zB (HF.below hb4);replace k:=zB (k.kept hb4);have X:=Q.trans (hb4.mono Q.size);replace HT:=zB (HT.below hb4 D);have f:g<w4.heap.size:=yl D hb4.size;have F:=yw N hb4.size;have U:=zB hno;have HX:=zHu bo bs g 0 cp xs ts w4 M hcp hcpm k HC HT (fun i hi=>by have:=(zA HZ) i hi;unfold maxLen;omega) f (fun i hi=>Jy (((HZ) i hi).1)) (zCT ts 0 hlex);obtain⟨⟨t1,u1⟩,⟨t2,u2⟩,⟨t3,u3⟩,i0,i1⟩:=zA HF;clear hb4 Q hno D N;go_wp2_with fail;refine HX.mono ?_;clear HX t1 t2 t3 u1 u2 u3 i0 i1;rintro e w5 ⟨⟨i,hi,hfi,hro,rfl⟩|⟨hfit,rfl⟩,hb5⟩
 ·refine zF4 (zA (zB (HF.below hb5))) (fun W' a b c=>by simp[results,results52,go_sem,a,b,c]) (fun W' hb=>zAI.empty (yU ⟨HC,yU ⟨J,ts,hlex,yU ⟨U,yS ⟨i,hi,hfi,hro,rfl,rfl,rfl⟩⟩⟩⟩) ((X.trans (hb5.mono X.size)).trans hb))
 replace HF:=zB (HF.below hb5);replace k:=zB (k.kept hb5);have I:=X.trans (hb5.mono X.size);replace HT:=zB (HT.below hb5 f);have t:g<w5.heap.size:=yl f hb5.size;have Z:=yw F hb5.size;have Y:=zB hfit;have HX:=zKj bo bs g 0 cp xs ts w5 k HC HS S HT t;obtain⟨⟨t1,u1⟩,⟨t2,u2⟩,⟨t3,u3⟩,i0,i1⟩:=zA HF;clear hb5 X hfit f F;go_wp2_with fail;refine HX.mono ?_;clear HX t1 t2 t3 u1 u2 u3 i0 i1;rintro e w6 ⟨⟨p,bf,bb,rfl,hp,hpc,hpr⟩,hb6⟩;replace HF:=zB (HF.below hb6);have H:=I.trans (hb6.mono I.size);have l:=zB (zU0 HC (zCZ HC) J hlex Y);have n:=zB (by have:=l.all 0 (zCT ts 0 hlex).1;rw[Nat.sub_zero] at this;exact this:zAJ xs (false,0) (sgs xs ts 0 ts.length));obtain⟨res,V⟩:=Jx (RD xs 0 none (sgs xs ts 0 ts.length));have HX:=zPS l w6 n hpc hpr res V;have P:=zB V;have he:=hb6.size;have hf:w.heap.size+4<=w5.heap.size:=Jo;clear hb6 V n l hpc hpr;go_wp2_with fail;refine HX.mono ?_;clear HX;rintro e w7 ⟨hk7,⟨hn,rfl⟩|⟨T,r,hsome,hgd,⟨hhi,rfl⟩|⟨hlo,g',c',rfl,hg',hfil⟩⟩⟩
 ·have C:=zB (HF.keptO hk7 Jo Jo);have j:=H.trans (hk7.below H.size Jo);refine zF4 C (fun W' a b c=>by simp[results,results52,go_sem,a,b,c]) (fun W' hb=>zAI.empty (yU ⟨HC,yU ⟨J,ts,hlex,yU ⟨U,yU ⟨Y,yS ⟨P.symm.trans hn,rfl,rfl,rfl⟩⟩⟩⟩⟩) (j.trans hb))
 ·have C:=zB (HF.keptO hk7 Jo Jo);have j:=H.trans (hk7.below H.size Jo);refine zF4 C (fun W' a b c=>by simp[results,results52,go_sem,a,b,c]) (fun W' hb=>zAI.empty (yU ⟨HC,yU ⟨J,ts,hlex,yU ⟨U,yU ⟨Y,yU ⟨T,r,P.symm.trans hsome,yS ⟨hhi,rfl,rfl,rfl⟩⟩⟩⟩⟩⟩) (j.trans hb))
 have C:=zB (HF.keptO hk7 Jo Jo);have j:=H.trans (hk7.below H.size Jo);obtain⟨us,E⟩:=Jx (nd T 0);rw[<-E] at hfil;rw[<-E];have o:Hid (zAs xs s us 0 0):=yU ⟨HC,yU ⟨J,ts,hlex,yU ⟨U,yU ⟨Y,yU ⟨T,r,P.symm.trans hsome,yU ⟨hlo,E,rfl,rfl⟩⟩⟩⟩⟩⟩;obtain⟨⟨t1,u1⟩,⟨t2,u2⟩,⟨t3,u3⟩,i0,i1⟩:=zA C;clear E hsome hlo P HF hk7 H U Y HT k i0 i1 hgd;go_wp2_with fail;refine zMb (v:=.tuple #[.agg #[Ql g' us.length c'],Qi 0,Qi 0]) ?_ ?_
 ·simp[results,results52,go_sem,t1,t2,t3]
 ·refine⟨⟨some (Qa g' 0),c',us,0,0,rfl,zB (yU ⟨g',rfl,Jo,?_⟩),o⟩,((j.setCell Jr _).setCell Jr _).setCell Jr _⟩;exact((hfil.setCell _ _ _ Jo).setCell _ _ _ Jo).setCell _ _ _ Jo
theorem zMc(a:Option Addr)(cap:Nat)(xs:List OpR)(s:JZ)(w:JY)(h:xs.length<=1048576)(hI:∀W,Qb w W->Calls prog 91 #[.agg #[.slice a xs.length cap]] W (zTd xs W))(H:ZA xs)(hs:s.size<=1048576):Calls prog 52 #[.agg #[.slice a xs.length cap],Qs s] w (zAI xs s w):=
 zKk a cap xs s w h hI H Jm
def SpF(N b h n cap:Nat)(W:JY):Prop:=
 W.cell? (Qa N 0)=some (.slice (some (Qa b h)) n cap)/\W.cell? (Qa (N+1) 0)=some (.slice none 0 0)/\W.frozen? (Qa (N+1) 0)=false
theorem SpF.grown{b H n cap:Nat}{row:Option Nat}(h:SpF N b H n cap W)(hg:W.grownBy W' row)(hr:∀k,row=some k->N+2<=k):SpF N b H n cap W':=by
 obtain⟨h0,h1,h2⟩:=h;have l0:N<W.heap.size:=block_lt_of_cell h0;have l1:N+1<W.heap.size:=block_lt_of_cell h1;exact⟨(zK hg l0 (fun e=>Jy (hr _ e)) 0).trans h0,(zK hg l1 (fun e=>Jy (hr _ e)) 0).trans h1,(yD (w:=W) (hg.block (N+1) l1 (fun e=>Jy (hr _ e.symm)))).trans h2⟩
theorem SpF.below{b H n cap:Nat}(h:SpF N b H n cap W)(hb:Qb W W'):SpF N b H n cap W':=h.grown (zE hb none) (fun k hk=>by cases hk)
theorem zTe(hv:zO ns 0)(hf:zCL ns ts ts.length)(hl:0<ts.length/\(atT ts (ts.length-1)).k=7){n:Nat}(hn:ts.length<=n):(∀T,bld ns n (sgs ns ts 0 (ts.length-1))=some T->RD ns 0 none (sgs ns ts 0 ts.length)=some (T,[eoS]))/\(bld ns n (sgs ns ts 0 (ts.length-1))=none->RD ns 0 none (sgs ns ts 0 ts.length)=none):=by
 obtain⟨H,q⟩:=zMB hf hl.1 hl.2;have hb:=fun T=>zWO hv H (n:=n) (by rw[zAq];omega) T
 rw[q];refine⟨fun T h=>(hb T).1 h,fun h=>?_⟩;cases hr:RD ns 0 none (sgs ns ts 0 (ts.length-1)++[eoS]) with
 |none=>rfl
 |some y=>
  obtain⟨T,r⟩:=y;have K:=zWN hv H hr;simp only at K;rw[K] at hr;have:=(hb T).2 hr;rw[h] at this;cases this
theorem TF.of(hv:zO ns 0)(hs:s.size<=20000)(hx:zAA ns s 0 ts)(hf:zCL ns ts ts.length)(H:∀j,j<ts.length->(atT ts j).k≠6):TF ns ts (Zs ns ts ts.length) where
 len:=Jy ((zF0 hx).2.1)
 us:=rfl
 all:=fun i hi=>by
  refine⟨zWR (hf i hi),?_⟩;rcases zL9 (zB5 (zCZ hv)) ts 0 hx i hi with h|h|h|h|h|h
  ·have:=h.1;exact⟨Jo,Jo,H i hi⟩
  ·have:=h.1;exact⟨Jo,Jo,H i hi⟩
  ·have:=h.1;exact⟨Jo,Jo,H i hi⟩
  ·have:=h.1;exact⟨Jo,Jo,H i hi⟩
  ·exact yR h (H i hi)
  ·have:=h.1;exact⟨Jo,Jo,H i hi⟩
theorem zKl(b y cap:Nat)(xs:List OpR)(s:JZ)(w:JY)(F:xs.length<=1048576)(hw:Ops w b y xs)(t:ZA xs)(hB:b<w.heap.size)(hs:s.size<=1048576):Calls prog 37 #[.agg #[.slice (some (Qa b y)) xs.length cap],Qs s] w (zAI xs s w):=by
 have HW:=zB hw;have HS:=zB t;clear hw t;have Y:Qb w ((w.alloc (.cells #[.slice (some (Qa b y)) xs.length cap] 63)).alloc (.cells #[.slice none 0 0] 70)):=(zC _ _).alloc Js _;have HX:=zAM b y cap xs _ F (HW.below Y hB) HS (Jy Y.size);go_enter func37,ntmps37;go_wp2_with fail;refine HX.mono ?_;clear HX;rintro e w1 ⟨⟨c,rfl,hc⟩,hb1⟩;have HC:=zB hc;have z1:w.heap.size+2<=w1.heap.size:=Jz hb1.size
 have X:Qb w w1:=Y.trans (hb1.mono Y.size);have HF:Hid (SpF w.heap.size b y xs.length cap w1):=SpF.below ⟨Jg,Jg,Jg⟩ hb1;obtain⟨t0,t1,u1⟩:=zA HF;clear hc hb1 Y;by_cases C:c=0;case neg=>
  have hC:(c != 0)=true:=Ju C
  have HN:Hid (¬ zO xs 0):=fun h=>C (zAC HC h)
  clear C;go_wp2_with fail;refine yN (v:=.tuple #[.agg #[.slice none 0 0],Qi 1,Qi 0]) ?_ rfl (zAI.empty (yS ⟨HN,rfl,rfl,rfl⟩) (X.setCell Jr _));simp[results,results37,go_sem,t1]
 subst C;have HX:=zMP b y cap xs s w1 F (HW.below X hB) HS (yl hB X.size) Jm;go_wp2_with fail;refine HX.mono ?_;clear HX t0 t1 u1;rintro e w2 ⟨⟨g,ct,ts,v,rfl,⟨hg,hct,hcm⟩,hfil,K⟩,hb2⟩;have Q:=X.trans (hb2.mono X.size);replace HF:=zB (HF.below hb2);have hF:w.heap.size<=g:=Jo;obtain⟨t0,t1,u1⟩:=zA HF;rcases K with⟨⟨_,U⟩,rfl,K⟩|⟨x,rfl,_⟩;case inr=>
  have HN:=zB (show 20000<s.size by
   rcases Nat.lt_or_ge 20000 s.size with h|h
   ·exact h
   ·exact yR ⟨HC,h⟩ x)
  clear x hfil;go_wp2_with fail;refine yN (v:=.tuple #[.agg #[.slice none 0 0],Qi 2,Qi 0]) ?_ rfl (zAI.empty (yU ⟨HC,yS ⟨HN,rfl,rfl,rfl⟩⟩) (Q.setCell Jr _));simp[results,results37,go_sem,t1]
 have V:=zB K;have G:g<w2.heap.size:=hfil.1;have HT:Hid (zDf w2 g 0 ts):=hfil.2.2;have HR:=zB (zF0 K);have HZ:=zB (zDY ts 0 K);have ho:ts.length+Zf ts ts.length<=1048576:=Jy (zA HR)
 have hD:ts.length<=20001:=Jy (zA HR)
 have l:=zCT ts 0 K;have hz:=l.1;have S:=zB l;clear hfil K hb2 l;go_wp2_with fail;go_loop [9] (fun iv=>∃k:Nat,k<=ts.length/\iv=Qi k/\Hid (∀j,j<k->(atT ts j).k≠6)) (fun iv=>ts.length-(intOf iv).toNat);case atStart=>exact⟨0,ym _,rfl,zB (fun j hj=>yR hj (yx j))⟩
 case round=>
  obtain⟨k,hk,rfl,x⟩:=hrel;by_cases D:k<ts.length
  ·have hx:(k:Int)<(ts.length:Int):=Jo;obtain⟨k0,k1,k2⟩:=(zA HT) k D;rw[yY] at k0 k1 k2;by_cases h6:(atT ts k).k=6
   ·have e6:((atT ts k).k==6)=true:=by rw[h6];rfl
    have H6:=zB h6;have HX:=zHI g 0 ct k ts w2 ho D hct hcm HT G (Jy (((HZ) k D).1));clear h6;go_wp2_with fail;refine HX.mono ?_;clear HX;rintro e w3 ⟨rfl,hb3⟩;have H:=Q.trans (hb3.mono Q.size);obtain⟨s0,s1,s2⟩:=HF.below hb3;go_wp2_with fail;refine yN (v:=.tuple #[.agg #[.slice none 0 0],Qi 3,Qi (zIY ts k:Int)]) ?_ rfl (zAI.empty (yU ⟨HC,yU ⟨U,ts,V,yS ⟨k,D,H6,x,rfl,rfl,rfl⟩⟩⟩) (H.setCell Jr _));simp[results,results37,go_sem,s1]
   ·have e6:((atT ts k).k==6)=false:=Ju h6
    have h7:=zB (show ∀j,j<k+1->(atT ts j).k≠6 from fun j hj=>by
     by_cases e:j=k
     ·subst e;exact h6
     ·exact x j Jo)
    clear h6;go_wp2_with fail;exact⟨⟨k+1,Jo,Jn,h7⟩,Ji⟩
  ·have hx:¬ (k:Int)<(ts.length:Int):=Jo;have e:k=ts.length:=Jo;subst e;have HX:=zKc b y cap g 0 ct xs ts w2 F Jo (HW.below Q hB) HS (yl hB Q.size) HT G;go_wp2_with fail;refine HX.mono ?_;clear HX t0 t1 u1;rintro e w3 ⟨⟨gr,cr,us,at_,rfl,hgr,hfr,hroles⟩,hb3⟩;have H:=Q.trans (hb3.mono Q.size);replace HF:=zB (HF.below hb3);replace HT:=zB (HT.below hb3 G);have hb:g<w3.heap.size:=yl G hb3.size;obtain⟨t0,t1,u1⟩:=zA HF;rcases hroles with⟨hy,_⟩|⟨_,⟨i,hi,hf,hm,_,rfl⟩|⟨J,⟨_,hu,rfl⟩|⟨h2,_⟩⟩⟩
   ·exact yR HC hy
   ·have eA:decide ((i:Int) ≥ 0)=true:=Js;have h4:=zB hf;have h9:=zB hm;have HX:=zHI g 0 ct i ts w3 ho hi hct hcm HT hb (Jy (((HZ) i hi).1));clear hf hm hfr;go_wp2_with fail;refine HX.mono ?_;clear HX;rintro e w4 ⟨rfl,hb4⟩;have he:=H.trans (hb4.mono H.size);obtain⟨s0,s1,s2⟩:=HF.below hb4;go_wp2_with fail;refine yN (v:=.tuple #[.agg #[.slice none 0 0],Qi 4,Qi (zIY ts i:Int)]) ?_ rfl (zAI.empty (yU ⟨HC,yU ⟨U,ts,V,yU ⟨x,yS ⟨i,hi,h4,h9,rfl,rfl,rfl⟩⟩⟩⟩) (he.setCell Jr _));simp[results,results37,go_sem,s1]
   case inr.inr.inr=>exact yR S h2
   have m:=zB J;have W:=zB (by rw[hu];exact TF.of HC U V J x:TF xs ts us);have ha:gr<w3.heap.size:=hfr.1;have hp:BE w3 w3.heap.size b y g 0 gr xs ts us:=⟨HW.below H hB,yl hB H.size,HT,hb,⟨hfr.1,hfr.2.2⟩,ha,yk _⟩;have hA:=zB (hp.below (zC w3 (.cells #[] 106)));have I:=zB (show ZK (w3.alloc (.cells #[] 106)) w3.heap.size (Ql w3.heap.size 0 0) [] by
    have h0:=yG (base:=w3.heap.size) (e:=106) (size:=4) w3 #[] 0 (yk _) (ym _) rfl
    simpa[ZK,zT] using h0)
   have o:=zB (zMB J hz S.2).1;have HX:=zBz (cap:=cap) (ct:=ct) (cr:=cr) HC F HS W ts.length 0 (ts.length-1) (Ql w3.heap.size 0 0) [] _ (ym _) Jo Jo (by rw[Nat.sub_zero];exact o) hA I Jq;rw[Nat.sub_zero,show((0:Nat):Int)=0 from rfl,(Jo:((ts.length-1:Nat):Int)=(ts.length:Int)-1)] at HX;have A:=zB (zTe HC J S (n:=ts.length) (yk _));have f:Hid (∀T,bld xs ts.length (sgs xs ts 0 (ts.length-1))=some T->zn xs T):=fun T h=>(zAh HC _ _ _ o h).1
   obtain⟨bl,hn⟩:=Jx (bld xs ts.length (sgs xs ts 0 (ts.length-1)));rw[<-hn] at HX A f;have z3:w.heap.size+2<=w3.heap.size:=Jy hb3.size
   clear J hu hfr hp I o W hn hb3;go_wp2_with fail;refine HX.mono ?_;clear HX t0 t1 u1;rintro e w4 ⟨u4,vs,ok,rfl,HR4,HG4,HA4,hl4,HO4⟩;have HG:=zB (zV (zC w3 (.cells #[] 106)) HG4);have d:Hid (Qb w w4):=H.grown HG H.size (fun q hq=>by simp[Value.ownBlock] at hq;omega);replace HF:=zB (HF.grown HG (fun q hq=>by simp[Value.ownBlock] at hq;omega));have z4:=HG.size;obtain⟨t0,t1,u1⟩:=zA HF;rcases zA HO4 with⟨T,L,rfl,u⟩|⟨hv,rfl⟩;case inr=>
    have h8:=zB (A.2 hv);clear hv HO4 A f;go_wp2_with fail;refine yN (v:=.tuple #[.agg #[.slice none 0 0],Qi 5,Qi 0]) ?_ rfl (zAI.empty (yU ⟨HC,yU ⟨U,ts,V,yU ⟨x,yU ⟨m,yS ⟨h8,rfl,rfl,rfl⟩⟩⟩⟩⟩) (d.setCell Jr _));simp[results,results37,go_sem,t1]
   rw[List.nil_append,yZ] at u;have M:=zB (f T L);have hl:=zB (A.1 T L);have Z:1<=vs.length:=by rw[u,ZX];exact Sh.pos M.sh
   obtain⟨g4,c4,rfl,hE,a⟩:=zDc HR4 Z;rw[yZ,yY] at hl4;have r:tsz T=vs.length:=by rw[u,ZX]
   have P:=zC w4 (.cells #[Ql g4 vs.length c4] 70);have E:=zB a;have HX:=zMZ g4 c4 vs (hL T) _ (a.below P a.1).2.2 (by have:=P.size;have:=a.1;omega) Jo Z (by rw[zGc,r]) (fun i hi=>by rw[u];exact zTR T M.sh 0 i Jo) (fun i hi=>Jy (zVM T (i:=i) Jo));have B:atI (hL T) (vs.length-1)=(hT T:Int):=by rw[<-r];exact zIy M.sh
   rw[B] at HX;have h3:=zB u;obtain⟨hh,R⟩:=Jx (hT T);rw[<-R] at HX;have hd:=zB R;clear u L HO4 A f r a B R HR4 HG4 HA4 HG;go_wp2_with fail;refine HX.mono ?_;clear HX;rintro e w5 ⟨rfl,hb6⟩;have hr:=zB ((d.trans (P.mono d.size)).trans (hb6.mono (by have:=d.size;simp;omega)));have h5:=zB ((HF.below P).below hb6);have ht:=zB ((E.below P E.1).below hb6 (by have:=P.size;have:=E.1;omega));have tr5:w5.cell? (Qa w4.heap.size 0)=some (Ql g4 vs.length c4):=Jc hb6 Jh Jg;obtain⟨s0,s1,s2⟩:=zA h5;clear t0 t1 u1 P hb6 HF E;by_cases O:1000<hh
   ·have h1:(1000:Int)<(hh:Int):=Jo;have N:=zB (by rw[<-zA hd];exact O:1000<hT T);clear O;go_wp2_with fail;refine yN (v:=.tuple #[.agg #[.slice none 0 0],Qi 6,Qi 0]) ?_ rfl (zAI.empty (yU ⟨HC,yU ⟨U,ts,V,yU ⟨x,yU ⟨m,yU ⟨T,_,hl,yS ⟨N,rfl,rfl,rfl⟩⟩⟩⟩⟩⟩) (hr.setCell Jr _));simp[results,results37,go_sem,s1]
   ·have h1:¬ (1000:Int)<(hh:Int):=Jo;have N:=zB (by rw[<-zA hd];omega:hT T<=1000);clear O;go_wp2_with fail;refine yN (v:=.tuple #[.agg #[Ql g4 vs.length c4],Qi 0,Qi 0]) ?_ rfl ⟨⟨some (Qa g4 0),c4,vs,0,0,rfl,zB (yU ⟨g4,rfl,Jo,?_⟩),zB (yU ⟨HC,yU ⟨U,ts,V,yU ⟨x,yU ⟨m,yU ⟨T,_,hl,yU ⟨N,h3,rfl,rfl⟩⟩⟩⟩⟩⟩)⟩,hr.setCell Jr _⟩
    ·simp[results,results37,go_sem,s1]
    ·exact ht.setCell _ _ _ Jo
theorem zAs.code{us:List zD}{c p:Int}(h:zAs ns s us c p):0<=c/\c<=6:=by
 rcases h with⟨_,_,rfl,_⟩|⟨hv,⟨_,_,rfl,_⟩|⟨H,ts,hx,⟨i,_,_,_,_,rfl,_⟩|⟨k,⟨i,_,_,_,_,rfl,_⟩|⟨hf,⟨_,_,rfl,_⟩|⟨T,r,hr,⟨_,_,rfl,_⟩|⟨_,_,rfl,_⟩⟩⟩⟩⟩⟩<;>decide
def zVb(w:JY)(ms:List zH)(e:Ending)(w':JY):Prop:=∃(v:Value)(h:List (List zD))(c who:Int),e=.returned (.tuple #[v,Qi c,Qi who])/\Hid (zAe ms h c who)/\Hid (zJu w' w.heap.size v h)/\Qb w w'
theorem zKE(w':JY)(B b:Nat):zJu w' B (Ql b 0 0) []:=⟨⟨_,_,rfl⟩,yS rfl⟩
theorem TrI.empty(w:JY)(B:Nat)(hB:B<=w.heap.size):TrI (w.alloc (.cells #[] 70)) B (Ql w.heap.size 0 0) [] [] []:=by
 refine⟨?_,⟨rfl,rfl⟩,fun j hj=>yR hj (yx j),fun i j _ a a' h=>by simp at h⟩;have:=yG (base:=B) (e:=70) (size:=1) w #[] 0 hB (ym _) rfl;simpa[zFe] using this
theorem zGE(a:Option Addr)(c0:Nat)(ms:List zH)(w:JY)(hn:ms.length<=1048576)(hM:zB3 w a ms)(hz:zBk ms):Calls prog 15 #[.slice a ms.length c0] w (zVb w ms):=by
 obtain⟨W0,D⟩:=Jx (w.alloc (.cells #[] 70));have M:Below w.heap.size w W0:=by rw[D];exact zC _ _
 have HE:=zB (by rw[D];exact TrI.empty w _ (yk _):TrI W0 w.heap.size (Ql w.heap.size 0 0) [] [] []);have N:=zB (zHH a c0 ms W0 hn (hM.below M) hz);have HM:=zB hM;have h9:=zB hz;have h2:=zB M;have hd:=zB D;obtain⟨i0,he,hi,hl,hv⟩:=zS zN0;have HI:=zB he;have HZ:=zB (yK hi (yK hl hv));clear hM hz M D he hi hl hv;go_enter func15,ntmps15;go_wp2_with fail;rw[<-zA hd];go_call zA N as e w1 ⟨v1,tabs,cd0,wh0,rfl,HL,HT1,hm1,hb1⟩;have C:=zB (h2.trans (hb1.mono h2.size));by_cases hc:cd0=0
 ·subst hc;obtain⟨hr,h3,d⟩:=HL.good;have hw:=zB (zFS a c0 ms w1 hr (HM.below C) h9 h3);have h4:=zB hm1;have hs:=zB (HE.keep hb1.size (fun q _ h=>hb1.block q h));have hG:=zB d;have zw1:=C.size;have zw0:w.heap.size+1<=W0.heap.size:=by rw[zA hd];simp
  have zw01:=hb1.size;obtain⟨gS,cS,rfl,m⟩:=zA HT1;rw[d];rw[d] at m;have hE:=zB m;clear hb1 hm1 N HE d h3 m;go_wp2_with fail;go_call zA hw as e w2 ⟨gU,cU,vs,U,rfl,hgU,hgUl,hvl,HOV,HUA,HUO,hb2⟩;have hI:=zB (C.trans (hb2.mono C.size));have hh:Hid (Below w1.heap.size w1 w2):=hb2;have T:=zB (hs.keep hb2.size (fun q _ h=>hb2.block q h));have zw2:=hb2.size;rw[hvl];have hA:=zB hvl;clear hb2 hw hs hvl;go_wp2_with fail;go_loopw [5,10] (fun vv i wr=>∃(k:Nat)(tv:List Value)(ta:List (Option Addr))(J:List (List zD)),k<=ms.length/\i=Qi k/\Hid (TrI wr w.heap.size vv tv ta J)/\Hid (zFd (zz tabs) (fun i=>(atU U i).b) k J)/\Hid (w2.grownBy wr (some w.heap.size))/\Hid (∀q,vv.ownBlock=some q->q=w.heap.size\/w2.heap.size<=q)/\Below w.heap.size w wr) (fun _ i _=>ms.length-(intOf i).toNat);case atStart=>exact⟨0,[],[],[],ym _,rfl,T,zB (zFd.nil _ _),zB (zE (yJ _ _) _),zB (fun q e=>yS (by simpa[Value.ownBlock] using e.symm)),hI⟩
  case round=>
   clear T;obtain⟨k,tv,ta,J,hk,rfl,Y,E,HG,r,y⟩:=hrel;have zr2:=HG.size;obtain⟨av,cv,rfl⟩:∃a c,u5=.slice a tv.length c:=zR Y.row;have d:tv.length<=1048576:=by have:=Y.len.1;have:=E.1;omega
   by_cases P:k<ms.length
   ·have hJ:(k:Int)<(ms.length:Int):=Jo;rcases zA hE with h|⟨hK,hC,Z⟩
    ·omega
    obtain⟨t,t0,G,hg⟩:=Z k P;obtain⟨gq,cq,rfl,hB,A⟩:=zD5.of ((G.at'.below hh).grown HG (fun g e x=>by injection x with x;have:=hg g e;omega)) G.blk;have t0':=(zK HG (b:=gS) Jo (fun x=>by injection x with x;omega) k).trans (Jc hh hC t0);have hy:k<vs.length:=by rw[zA hA];exact P
    have v2:=(zK HG (b:=gU) hgUl (fun x=>by injection x with x;omega) (k*3+2)).trans (HOV k hy).2.2;have q3:=(HUA.2 k hy).1.2.2;have ht:(atV vs k).b.size<=1048576:=by rw[q3];have:=zLU (HUO.2 k P);omega
    obtain⟨bd,F⟩:=Jx ((atV vs k).b);rw[<-F] at v2 ht q3;obtain⟨S,hf⟩:=(zA h4) (zz tabs k) (by unfold zz;have:=zA hG;simp[(Jo:k<tabs.length)]);obtain⟨xs,l⟩:=Jx (zz tabs k);rw[<-l] at t0' A S hf;have L:=zB (fun W (hb:Below wr.heap.size wr W)=>zKl gq 0 cq xs bd W S (A.below hb hB) hf (Jy hb.size) ht);have hm:=zB (fun us c (h:∃p,zAs xs bd us c p)=>show PsI (zz tabs) (fun i=>(atU U i).b) k us c by
     obtain⟨p,h⟩:=h
     refine⟨p,?_⟩
     show zAs (zz tabs k) (atU U k).b us c p
     rw[<-l,<-q3]
     exact h)
    clear A t0 Z q3 F l G hg;have O:=zB (L (wr.alloc (.cells #[.slice none 0 0] 70)).drew (zC _ _).drew);have ha:=zB (L wr.drew (yJ _ _).drew);have gl1:gS<wr.drew.heap.size:=by show gS<wr.heap.size;omega
    have gl2:gU<wr.drew.heap.size:=by show gU<wr.heap.size;omega
    obtain⟨N0,h5⟩:=Jx ((wr.alloc (.cells #[.slice none 0 0] 70)).drew);have gl3:gS<(wr.alloc (.cells #[.slice none 0 0] 70)).drew.heap.size:=Jq;have gl4:gU<(wr.alloc (.cells #[.slice none 0 0] 70)).drew.heap.size:=Jq;have gl5:wr.heap.size<(wr.alloc (.cells #[.slice none 0 0] 70)).drew.heap.size:=Js;have t0n:(wr.alloc (.cells #[.slice none 0 0] 70)).drew.cell? (Qa gS k)=_:=((zC wr _).cell (p:=Qa gS k) gl1).trans t0';have v2n:(wr.alloc (.cells #[.slice none 0 0] 70)).drew.cell? (Qa gU (k*3+2))=_:=((zC wr _).cell (p:=(Qa gU (k*3+2))) gl2).trans v2;have h1:=zB (Jg:(wr.alloc (.cells #[.slice none 0 0] 70)).drew.cell? (Qa wr.heap.size 0)=some (.slice none 0 0));have s:=zB (Jg:(wr.alloc (.cells #[.slice none 0 0] 70)).drew.frozen? (Qa wr.heap.size 0)=false);clear h5 N0;have nn1:=World.new_ne wr _ t0';have nn2:=World.new_ne wr _ v2;go_wp2_with fail;go_region_held3 (fun W=>W.cell? (Qa gS k)=some (Ql gq xs.length cq)/\W.cell? (Qa gU (k*3+2))=some (Qs bd)) (go_keep) (first|(go_at_call 37;(first|((with_reducible refine(zA ha).mono ?_);rintro e w3 ⟨⟨a3,c3,us,cd,pl,rfl,HON,HPI⟩,hb3⟩;have f:=zB hb3;have z3:=hb3.size;have j1:=Jc hb3 gl1 t0';have j2:=(hb3.cell (p:=(Qa gU (k*3+2))) gl2).trans v2;clear hb3)|((with_reducible refine(zA O).mono ?_);rintro e w3 ⟨⟨a3,c3,us,cd,pl,rfl,HON,HPI⟩,hb3⟩;have f:=zB hb3;have z3:=hb3.size;have j1:=Jc hb3 gl3 t0n;have j2:=(hb3.cell (p:=(Qa gU (k*3+2))) gl4).trans v2n;have x0:w3.cell? (Qa wr.heap.size 0)=some (.slice none 0 0):=Jc hb3 gl5 h1;have x1:w3.frozen? (Qa wr.heap.size 0)=false:=(hb3.frozen (p:=Qa wr.heap.size 0) gl5).trans s;clear hb3))));all_goals
     first
     |(
       obtain⟨W3,K⟩:=Jx (w3.alloc (.cells #[.slice a3 us.length c3] 70))
       rw[<-K]
       have v:Below wr.heap.size wr W3:=by rw[K];exact((yJ _ _).drew.trans (f.mono (yk _))).alloc (Ju z3) _
       have hp:=zB (by rw[K];exact HON.step (zC _ _):Zi W3 wr.heap.size a3 us)
       obtain⟨X,hX⟩:=Jx w3.heap.size
       have y0:W3.cell? (Qa X 0)=some (.slice a3 us.length c3):=by rw[K,hX];simp[go_sem]
       rw[<-hX]
       clear K hX)
     |(
       obtain⟨W3,K⟩:=Jx (w3.setCell (Qa wr.heap.size 0) (.slice a3 us.length c3))
       rw[<-K]
       have v:Below wr.heap.size wr W3:=by rw[K];exact((zC _ _).drew.trans (f.mono Js)).setCell (p:=Qa wr.heap.size 0) (yk _) _
       have hp:=zB (by rw[K];exact(HON.grown (ZJ w3 wr.heap.size 0 _) (fun q e=>by injection e with e;simp;omega)).base Js:Zi W3 wr.heap.size a3 us)
       have y0:W3.cell? (Qa wr.heap.size 0)=some (.slice a3 us.length c3):=by rw[K];exact yt _ _ _ x0
       clear x0 x1 K)
     have I:=zB v
     have hx:Hid (zFe W3 w.heap.size (.slice av tv.length cv) tv):=zBx Y.row (fun g e=>v.block g (World.ownsRow.lt Y.row g e).2)
     have zW3:=v.size
     clear v O ha L HON f z3 j1 j2 gl1 gl2 gl3 gl4 gl5 t0n v2n h1 s nn1 nn2
     by_cases hc:cd=0
     ·subst hc
      go_wp2_with (first|(at_builtin;refine yL _ rfl (.tmp 54) (.tmp 56) 44 rfl w.heap.size 70 i0 _ 1 24 underlying44 HI HZ.1 HZ.2.1 HZ.2.2 rfl Jd _ tv.length tv rfl (zBx hx (fun g e=>(zC W3 _).block g (World.ownsRow.lt hx g e).2)) (Qa W3.heap.size 0) 1 1 [.slice a3 us.length c3] rfl rfl (fun j u hj=>(by cases j with|zero=>(simp at hj;subst hj;simp[go_sem])|succ j=>simp at hj)) (fun u hu=>(by simp at hu;subst hu;rfl)) ?b1 ?b2 ?b3 ?next))
      case b1=>exact Jm
      case b2=>omega
      case b3=>simp;omega
      case next=>
       intro v4 w4 V H o B;have n:zFe w4 w.heap.size v4 (tv++[.slice a3 us.length c3]):=by
        unfold zFe;rw[yq];exact V
       have h0:∀q,(Value.slice av tv.length cv).ownBlock=some q->w.heap.size<=q/\q<wr.heap.size:=fun q e=>World.ownsRow.lt Y.row q e
       have Q:Below wr.heap.size wr (W3.alloc (.cells #[.slice a3 us.length c3] 70)):=I.alloc I.size _;have hO:=Q.size;have hN:=H.size;have HN:=zB (Y.step (Jy y.size) Q.size (fun q _ h=>Q.block q h) (hp.step (zC _ _)) H n (B.imp id (fun e=>⟨_,e,Js⟩)));have h6:=zB (E.step (hm _ _ ⟨_,HPI⟩));have hH:=zB (show w2.grownBy w4 (some w.heap.size) from⟨H.os.trans (Q.os.trans HG.os),H.tape.trans (Q.tape.trans HG.tape),H.output.trans (Q.output.trans HG.output),Jo,fun q hq R=>(H.block q Jo (fun e=>by rcases(zA r) q e.symm with x|x;exact R (by rw[x]);omega)).trans ((Q.block q Jo).trans (HG.block q hq R))⟩);have h7:=zB (show ∀q,v4.ownBlock=some q->q=w.heap.size\/w2.heap.size<=q from fun q e=>by
        rcases B with h|h
        ·exact r q (h.symm.trans e)
        ·rw[h] at e;injection e with e;exact yU Jo)
       have h8:Hid (Below w.heap.size w w4):=(y.trans (Q.mono y.size)).grown H (Jy y.size) (fun q e=>(h0 q e).1);obtain⟨a4,c4,rfl⟩:∃a c,v4=.slice a (tv++[Value.slice a3 us.length c3]).length c:=zR n;clear V H o B n h0 Q;go_wp2_with fail;exact⟨⟨k+1,_,_,_,Jo,Jn,HN,h6,hH,h7,h8⟩,Ji⟩
     ·have hD:(cd != 0)=true:=Ju hc
      have hP:=HPI.code
      have HR:=zB (show zAe ms [] (10+cd) k from⟨tabs,0,wh0,HL,yU ⟨rfl,U,HUO,yS ⟨k,us,cd,J,P,E,hm _ _ ⟨_,HPI⟩,hc,rfl,rfl,rfl⟩⟩⟩)
      have ho:=zB (y.trans (I.mono y.size))
      clear hc
      go_wp2_with fail
      go_ret3
      exact⟨_,[],_,_,rfl,HR,zB (zKE _ _ _),ho.alloc ho.size _⟩
   ·obtain rfl:k=ms.length:=Jo;have HR:=zB (show zAe ms J 0 0 from⟨tabs,0,wh0,HL,yU ⟨rfl,U,HUO,yU ⟨E,rfl,rfl⟩⟩⟩);have hF:=zB Y.res;clear P;go_wp2_with fail;go_ret3;exact⟨_,J,0,0,rfl,HR,hF,y⟩
 ·have hD:(cd0 != 0)=true:=Ju hc
  have HR:=zB (show zAe ms [] cd0 wh0 from⟨tabs,cd0,wh0,HL,yS ⟨hc,rfl,rfl,rfl⟩⟩);clear hm1 hc hb1 N HE;go_wp2_with fail;go_ret3;exact⟨_,[],_,_,rfl,HR,zB (zKE _ _ _),C⟩
end Go.Proofs.YtadiaghhackbjaaGreatDoor
