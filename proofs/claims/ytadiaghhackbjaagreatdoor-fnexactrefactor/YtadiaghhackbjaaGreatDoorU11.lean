import Derived.Test.YtadiaghhackbjaaGreatDoorU07
import Derived.Test.YtadiaghhackbjaaGreatDoorU08
namespace Go.Proofs.YtadiaghhackbjaaGreatDoor
set_option linter.all false
set_option maxHeartbeats 0
set_option maxRecDepth 100000
open Proofs.Tryz RowKit
variable{B N g:Nat}{o:zD}{row:Option Nat}{us xs:List zD}{w w':World}
theorem zJ.grownRow{w1 w2:JY}(h:zJ w w1 g)(hg:w1.grownBy w2 row)(hr:∀k,row=some k->k=g\/w.heap.size<=k):zJ w w2 g:=
 ⟨hg.os.trans h.os,hg.tape.trans h.tape,hg.output.trans h.output,yw h.size hg.size,fun i hi a=>(hg.block i (yl hi h.size) (fun e=>by rcases hr i e.symm with h|h;exact a h;omega)).trans (h.block i hi a)⟩
theorem zJ.setRow{w1:JY}(h:zJ w w1 g)(b o:Nat)(v:Value)(hb:b=g\/w.heap.size<=b):zJ w (w1.setCell (Qa b o) v) g:=
 h.grownRow (row:=some b) ⟨rfl,rfl,rfl,Jt,fun i _ hi=>je _ _ _ _ (fun e=>hi (by rw[e]))⟩ (fun k hk=>by injection hk with hk;subst hk;exact hb)
theorem zFZ{e size n:Nat}{v:Value}{xs:List Value}(h:w.ownsRow B e size v n xs)(b o:Nat)(u:Value)(hb:v.ownBlock≠some b):(w.setCell (Qa b o) u).ownsRow B e size v n xs:=
 h.kept (row:=some b) ⟨rfl,rfl,rfl,Jt,fun i _ hi=>je _ _ _ _ (fun e=>hi (by rw[e]))⟩ (yU hb)
def zDi(w:JY)(B g c:Nat)(us:List zD):Prop:=w.ownsRow B 106 4 (Ql g us.length c) us.length (zT us)
theorem zDi.kept{w w':JY}{B g c g':Nat}{us:List zD}(h:zDi w B g c us)(hk:zJ w w' g')(H:g'≠g):zDi w' B g c us:=
 World.ownsRow.kept h (zv hk) (yU (by simp[Value.ownBlock];omega))
theorem zDi.below{c:Nat}(h:zDi w B g c us)(hb:Qb w w'):zDi w' B g c us:=
 World.ownsRow.kept h (zE hb none) (yU Jb)
theorem zDi.set{c:Nat}(h:zDi w B g c us)(b o:Nat)(u:Value)(hb:b≠g):zDi (w.setCell (Qa b o) u) B g c us:=
 zFZ h b o u (by simp[Value.ownBlock];omega)
theorem zDi.lt{w:JY}{B g c:Nat}{us:List zD}(h:zDi w B g c us):B<=g/\g<w.heap.size:=World.ownsRow.lt h g rfl
theorem zDi.snoc{v:Value}{vs:List zD}(h:w.ownsRow B 106 4 v (us.length+1) (zT us++zT [o]))(hv:v ≠ .slice none 0 0)(e:vs=us++[o]):∃g c,v = Ql g vs.length c/\zDi w B g c vs:=by
 subst e;obtain⟨g,c,rfl⟩:=zNF h hv;have hl:us.length+1=(us++[o]).length:=Js;rw[<-ze,hl] at h;exact⟨g,c,by rw[hl],h⟩
theorem zAr(w:JY)(n:Nat)(o:zD)(hn:w.heap.size=n):∀j u,(zT [o])[j]?=some u->(w.alloc (.cells #[Qi o.k,Qs o.t,Qi o.a,Qi o.b] 106)).cell? ((Qa n 0).add j)=some u:=by
 subst hn;exact Zr w o
theorem zHD(b E cap:Nat)(xs:List zD)(hm:xs.length<=20000):∀(n i f B g c:Nat)(us vs:List zD)(w:JY),i<n->i<xs.length->Hid (frS xs i=some f)->Hid (us=er xs f)->Hid (vs=er xs (i+1))->Zv w b E xs->b<B->B<=w.heap.size->zDi w B g c us ->
  Calls prog 122 #[.slice (some (Qa b E)) xs.length cap,Qi i,Ql g us.length c] w fun e w'=>(∃g' c',e=.returned (Ql g' vs.length c')/\Hid (zDi w' B g' c' vs)/\(g'=g\/w.heap.size<=g'))/\Hid (zJ w w' g)
 |0,_,_,_,_,_,_,_,_,h,_,_,_,_,_,_,_,_=>yR h (yx _)
 |n+1,i,f,B,g,c,us,vs,w,hin,hi,hf,hus,hvs,hw,hb,hB,hrow=>by
  obtain⟨i0,R,l,L,m⟩:=zS zDK;have HI:=zB R;have HZ:=zB (yK l (yK L m));clear R l L m;obtain⟨h0,h1,h2,h3⟩:=hw i hi;have IH:=zB (zHD b E cap xs hm n);have HW:=zB hw;have HR:=zB hrow;have hg:=hrow.lt;have hn:(i:Int)<(xs.length:Int):=Jo;have hl:us.length<=20000:=by
   have a1:=zGP xs f;have a2:=zAD hf;rw[zA hus,zCk];omega
  clear hw hrow;rcases zBG hf with⟨hk,ha,y,M⟩|⟨hk,Z,ha,y,A⟩|⟨hk,Z,y,f2,r,hh,ha,A⟩
  ·have HK:=zB hk;have h6:((atN xs i).k==6)=false:=by
    rw[yX];intro e;rw[e] at hk;simp[zY] at hk
   have HV:=zB (show vs=us++[⟨(atN xs i).k,(atN xs i).t,0,0⟩] by
    rw[zA hvs,zA hus,M,zFM (Ju h6)]
    simp[erN,hk])
   clear hk ha y M;go_enter func122,ntmps122;go_wp2_with (first|(go_at_call 79;refine(zf HK 0 rfl _).mono ?_;rintro e w' ⟨rfl,rfl⟩)|(at_builtin;refine yL _ rfl (.tmp 52) (.tmp 54) 68 rfl B 106 i0 _ 4 40 underlying68 HI HZ.1 HZ.2.1 HZ.2.2 rfl Jd _ us.length (zT us) rfl (((HR.below (zC _ _)).below (zC _ _)).below (zC _ _)) (Qa (w.heap.size+1+1) 0) 1 1 (zT [⟨(atN xs i).k,(atN xs i).t,0,0⟩]) rfl rfl (Ju (Zr ((w.alloc _).alloc _) ⟨(atN xs i).k,(atN xs i).t,0,0⟩)) (zj _) ?b1 ?b2 ?b3 ?next));case b1=>exact Jm
   case b2=>omega
   case b3=>simp;omega
   case next=>
    intro v4 w4 q K Q x;obtain⟨g4,c4,rfl,Y⟩:=zDi.snoc q (by simp[Q]) HV;have v:=zB Y;have P:=zB (((zJ.of_below (g:=g) (((zC _ _).alloc Js _).alloc Jq _))).grownRow K (fun k hk=>by simp[Value.ownBlock] at hk;omega));have V:g4=g\/w.heap.size<=g4:=by simp[Value.ownBlock] at x;omega
    clear q K Q Y x;go_wp2_with fail;go_ret;exact⟨⟨g4,c4,rfl,v,V⟩,P⟩
  ·have HK:=zB hk;have ei:(i:Int)-1=((i-1:Nat):Int):=Jo;rw[ha,ei] at h2;have d:i-1+1=i:=Jo;by_cases h6:(atN xs i).k=6
   ·have u:=zB (by rw[zA hvs,zND h6,d]:vs=er xs (i-1+1));rw[h6] at h0;clear hk ha y h6;go_enter func122,ntmps122;go_wp2_with fail;go_call IH (i-1) f B g c us vs _ Jo Jo (zB A) hus u (HW.below (zC _ _) Jo) hb Jq (HR.below (zC _ _)) as e w1 ⟨⟨g1,c1,rfl,hr1,hg1⟩,hk1⟩;have G:=zB ((zJ.of_below (g:=g) (zC _ _)).trans hk1);have U:g1=g\/w.heap.size<=g1:=by simp at hg1;omega
    go_wp2_with fail;go_ret;exact⟨⟨g1,c1,rfl,hr1,U⟩,G⟩
   ·have T:((atN xs i).k==6)=false:=Ju h6
    obtain⟨H,J⟩:∃H,Hid (H=er xs (i-1+1)):=⟨_,zB rfl⟩;have W:H.length<=20000:=by
     have:=zGP xs (i-1+1);rw[zA J,zCk];omega
    obtain⟨nd,p⟩:∃nd:zD,Hid (nd=⟨(atN xs i).k,(atN xs i).t,(H.length:Int)-1,0⟩):=⟨_,zB rfl⟩;have u:=zB (show vs=H++[nd] by
     rw[zA hvs,zFM h6,zA p,zA J,zCk,d]
     congr 2
     unfold erN mvd
     rw[hk,ha]
     have:((i:Int)-1).toNat+1=i:=Jo
     rw[this]
     simp)
    clear hk ha y h6;go_enter func122,ntmps122;go_wp2_with (go_at_call 79;refine(zf HK 1 rfl _).mono ?_;rintro e w' ⟨rfl,rfl⟩);go_call IH (i-1) f B g c us H _ Jo Jo (zB A) hus J (HW.below ((zC _ _).alloc Js _) Jo) hb Jq ((HR.below (zC _ _)).below (zC _ _)) as e w1 ⟨⟨g1,c1,rfl,hr1,hg1⟩,hk1⟩;have O:=hr1.lt;have s:w.heap.size+2<=w1.heap.size:=Jz hk1.size
    have U:g1=g\/w.heap.size+2<=g1:=by simp at hg1;omega
    have p0:w1.cell? (Qa w.heap.size 0)=some (Qi (atN xs i).k):=(hk1.cell (b:=w.heap.size) Jq Jo 0).trans Jg;have q0:w1.cell? (Qa (w.heap.size+1) 0)=some (Qi (atN xs i).k):=(hk1.cell (b:=w.heap.size+1) Js Jo 0).trans Jg;have q1:w1.cell? (Qa (w.heap.size+1) 1)=some (Qs (atN xs i).t):=(hk1.cell (b:=w.heap.size+1) Js Jo 1).trans Jg;have q2:w1.cell? (Qa (w.heap.size+1) 2)=some (Qi 0):=(hk1.cell (b:=w.heap.size+1) Js Jo 2).trans Jg;have q3:w1.cell? (Qa (w.heap.size+1) 3)=some (Qi 0):=(hk1.cell (b:=w.heap.size+1) Js Jo 3).trans Jg;have r2:w1.frozen? (Qa (w.heap.size+1) 2)=false:=(hk1.frozen (b:=w.heap.size+1) Js Jo 2).trans Jg;have C:=zB ((zJ.of_below (g:=g) ((zC w _).alloc Js _)).trans hk1);clear hk1;have ST:Hid (zDi ((w1.setCell (Qa (w.heap.size+1) 2) (Qi ((H.length:Int)-1))).alloc (.cells #[Qi nd.k,Qs nd.t,Qi nd.a,Qi nd.b] 106)) B g1 c1 H):=(hr1.set _ _ _ Jo).below (zC _ _);have NW:=zB (zAr (w1.setCell (Qa (w.heap.size+1) 2) (Qi ((H.length:Int)-1))) w1.heap.size nd Jt);rw[zA p] at ST NW;simp only at ST NW;go_wp2_with (first|(go_at_call 79;refine(zf HK 1 rfl _).mono ?_;rintro e w' ⟨rfl,rfl⟩)|(at_builtin;refine yL _ rfl (.tmp 52) (.tmp 54) 68 rfl B 106 i0 _ 4 40 underlying68 HI HZ.1 HZ.2.1 HZ.2.2 rfl Jd _ H.length (zT H) rfl ST (Qa w1.heap.size 0) 1 1 (zT [nd]) rfl rfl (by rw[zA p];exact NW) (zj _) ?b1 ?b2 ?b3 ?next));case b1=>exact Jm
    case b2=>omega
    case b3=>simp;omega
    case next=>
     intro v4 w4 q K Q x;obtain⟨g4,c4,rfl,Y⟩:=zDi.snoc q (by simp[Q]) u;have v:=zB Y;have P:=zB (((C.setRow (w.heap.size+1) 2 (Qi ((H.length:Int)-1)) Jo).trans (zJ.of_below (zC _ _))).grownRow K (fun k hk=>by simp[Value.ownBlock] at hk;omega));have V:g4=g\/w.heap.size<=g4:=by simp[Value.ownBlock] at x;omega
     clear q K Q Y x;go_wp2_with fail;go_ret;exact⟨⟨g4,c4,rfl,v,V⟩,P⟩
  ·have HK:=zB hk;have ei:(i:Int)-1=((i-1:Nat):Int):=Jo;have ef:(f2:Int)-1=((f2-1:Nat):Int):=Jo;rw[ha,ef] at h2;rw[y,ei] at h3;have hp:=zAD r;have d:i-1+1=i:=Jo;have N:f2-1+1=f2:=Jo;have h6:(atN xs i).k≠6:=fun e=>by rw[e] at hk;simp[zY] at hk
   have T:((atN xs i).k==6)=false:=Ju h6
   obtain⟨H,J⟩:∃H,Hid (H=er xs (f2-1+1)):=⟨_,zB rfl⟩;obtain⟨X,D⟩:∃X,Hid (X=er xs (i-1+1)):=⟨_,zB rfl⟩;have W:H.length<=20000:=by
    have:=zGP xs (f2-1+1);rw[zA J,zCk];omega
   have hq:X.length<=20000:=by
    have:=zGP xs (i-1+1);rw[zA D,zCk];omega
   obtain⟨nd,p⟩:∃nd:zD,Hid (nd=⟨(atN xs i).k,(atN xs i).t,(H.length:Int)-1,(X.length:Int)-1⟩):=⟨_,zB rfl⟩;have u:=zB (show vs=X++[nd] by
    rw[zA hvs,zFM h6,zA p,zA J,zA D,zCk,zCk,d,N]
    congr 2
    unfold erN mvd
    rw[hk,ha,y]
    have e1:((i:Int)-1).toNat+1=i:=Jo
    have e2:((f2:Int)-1).toNat+1=f2:=Jo
    rw[e1,e2]
    simp)
   have I:=zB (by rw[zA J,N]:H=er xs f2);clear hk ha y h6;go_enter func122,ntmps122;go_wp2_with (go_at_call 79;refine(zf HK 2 rfl _).mono ?_;rintro e w' ⟨rfl,rfl⟩);go_call IH (f2-1) f B g c us H _ Jo Jo (zB A) hus J (HW.below ((zC _ _).alloc Js _) Jo) hb Jq ((HR.below (zC _ _)).below (zC _ _)) as e w1 ⟨⟨g1,c1,rfl,hr1,hg1⟩,hk1⟩;have O:=hr1.lt;have s:w.heap.size+2<=w1.heap.size:=Jz hk1.size
   have U:g1=g\/w.heap.size+2<=g1:=by simp at hg1;omega
   have p0:w1.cell? (Qa w.heap.size 0)=some (Qi (atN xs i).k):=(hk1.cell (b:=w.heap.size) Jq Jo 0).trans Jg;have p3:w1.cell? (Qa w.heap.size 3)=some (Qi ((i-1:Nat):Int)):=(hk1.cell (b:=w.heap.size) Jq Jo 3).trans Jg;have q0:w1.cell? (Qa (w.heap.size+1) 0)=some (Qi (atN xs i).k):=(hk1.cell (b:=w.heap.size+1) Js Jo 0).trans Jg;have q1:w1.cell? (Qa (w.heap.size+1) 1)=some (Qs (atN xs i).t):=(hk1.cell (b:=w.heap.size+1) Js Jo 1).trans Jg;have q2:w1.cell? (Qa (w.heap.size+1) 2)=some (Qi 0):=(hk1.cell (b:=w.heap.size+1) Js Jo 2).trans Jg;have q3:w1.cell? (Qa (w.heap.size+1) 3)=some (Qi 0):=(hk1.cell (b:=w.heap.size+1) Js Jo 3).trans Jg;have r2:w1.frozen? (Qa (w.heap.size+1) 2)=false:=(hk1.frozen (b:=w.heap.size+1) Js Jo 2).trans Jg;have r3:w1.frozen? (Qa (w.heap.size+1) 3)=false:=(hk1.frozen (b:=w.heap.size+1) Js Jo 3).trans Jg;have C:=zB ((zJ.of_below (g:=g) ((zC w _).alloc Js _)).trans hk1);clear hk1;go_wp2_with (go_at_call 79;refine(zf HK 2 rfl _).mono ?_;rintro e w' ⟨rfl,rfl⟩);have F:=zB (C.setRow (w.heap.size+1) 2 (Qi ((H.length:Int)-1)) (yU Jo));refine(IH (i-1) f2 B g1 c1 H X _ Jo Jo (zB r) I D (fun j hj=>?_) hb (by simp[World.setCell];omega) (hr1.set _ _ _ Jo)).mono ?_
   ·have e:=F.cell (b:=b) Jo Jo;obtain⟨a0,a1,a2,a3⟩:=(zA HW) j hj;exact⟨(e _).trans a0,(e _).trans a1,(e _).trans a2,(e _).trans a3⟩
   rintro e w2 ⟨⟨g2,c2,rfl,hr2,hg2⟩,hk2⟩;have hc:=hr2.lt;have hd:w1.heap.size<=w2.heap.size:=by have:=hk2.size;simpa[World.setCell] using this
   have he:g2=g1\/w1.heap.size<=g2:=by simpa[World.setCell] using hg2
   have sc:∀o,(w1.setCell (Qa (w.heap.size+1) 2) (Qi ((H.length:Int)-1))).heap.size=w1.heap.size/\(o≠2->(w1.setCell (Qa (w.heap.size+1) 2) (Qi ((H.length:Int)-1))).cell? (Qa (w.heap.size+1) o)=w1.cell? (Qa (w.heap.size+1) o)):=fun o=>⟨Jt,fun ho=>yj _ _ _ _ (fun e=>ho (by injection e with _ e;exact e.symm))⟩
   have s0:w2.cell? (Qa (w.heap.size+1) 0)=some (Qi (atN xs i).k):=(hk2.cell (b:=w.heap.size+1) (by rw[(sc 0).1];omega) Jo 0).trans (((sc 0).2 Jo).trans q0);have s1:w2.cell? (Qa (w.heap.size+1) 1)=some (Qs (atN xs i).t):=(hk2.cell (b:=w.heap.size+1) (by rw[(sc 0).1];omega) Jo 1).trans (((sc 1).2 Jo).trans q1);have s2:w2.cell? (Qa (w.heap.size+1) 2)=some (Qi ((H.length:Int)-1)):=(hk2.cell (b:=w.heap.size+1) (by rw[(sc 0).1];omega) Jo 2).trans (yt _ _ _ q2);have s3:w2.cell? (Qa (w.heap.size+1) 3)=some (Qi 0):=(hk2.cell (b:=w.heap.size+1) (by rw[(sc 0).1];omega) Jo 3).trans (((sc 3).2 Jo).trans q3);have t3:w2.frozen? (Qa (w.heap.size+1) 3)=false:=(hk2.frozen (b:=w.heap.size+1) (by rw[(sc 0).1];omega) Jo 3).trans ((yv _ _ _ _).trans r3);have S:=zB (F.grownRow (zv hk2) (fun k hk=>by injection hk with hk;subst hk;omega));clear hk2 sc p0 p3 q0 q1 q2 q3 r2 r3 C F hr1;have ST:Hid (zDi ((w2.setCell (Qa (w.heap.size+1) 3) (Qi ((X.length:Int)-1))).alloc (.cells #[Qi nd.k,Qs nd.t,Qi nd.a,Qi nd.b] 106)) B g2 c2 X):=(hr2.set _ _ _ Jo).below (zC _ _);have NW:=zB (zAr (w2.setCell (Qa (w.heap.size+1) 3) (Qi ((X.length:Int)-1))) w2.heap.size nd Jt);rw[zA p] at ST NW;simp only at ST NW;go_wp2_with (at_builtin;refine yL _ rfl (.tmp 52) (.tmp 54) 68 rfl B 106 i0 _ 4 40 underlying68 HI HZ.1 HZ.2.1 HZ.2.2 rfl Jd _ X.length (zT X) rfl ST (Qa w2.heap.size 0) 1 1 (zT [nd]) rfl rfl (by rw[zA p];exact NW) (zj _) ?b1 ?b2 ?b3 ?next);case b1=>exact Jm
   case b2=>omega
   case b3=>simp;omega
   case next=>
    intro v4 w4 q K Q x;obtain⟨g4,c4,rfl,Y⟩:=zDi.snoc q (by simp[Q]) u;have v:=zB Y;have P:=zB (((S.setRow (w.heap.size+1) 3 (Qi ((X.length:Int)-1)) Jo).trans (zJ.of_below (zC _ _))).grownRow K (fun k hk=>by simp[Value.ownBlock] at hk;omega));have V:g4=g\/w.heap.size<=g4:=by simp[Value.ownBlock] at x;omega
    clear q K Q Y x;go_wp2_with fail;go_ret;exact⟨⟨g4,c4,rfl,v,V⟩,P⟩
theorem zKa(b k cap:Nat)(xs:List zD)(w:JY)(hm:xs.length<=1048576)(hw:Zv w b k xs)(hs:zBb xs)(hB:b<w.heap.size):Calls prog 76 #[.agg #[.slice (some (Qa b k)) xs.length cap]] w fun e w'=>(∃(a:Option Addr)(c:Nat)(us:List zD)(v:Bool),e=.returned (.tuple #[.agg #[.slice a us.length c],.bool v])/\Hid (Zi w' w.heap.size a us)/\Hid (zUE xs us v))/\Qb w w':=by
 have HW:=zB hw;have HS:=zB hs;clear hw hs;go_enter func76,ntmps76;go_wp2_with fail;go_call zGB b k cap xs _ hm (HW.below ((zC _ _).alloc Js _) hB) HS Jq as e w1 ⟨⟨v,rfl,hv⟩,hb1⟩;have HV:=zB hv;have H:Qb w w1:=((zC _ _).alloc Js _).trans (hb1.mono Jq);have z1:w.heap.size+2<=w1.heap.size:=Jz hb1.size
 have c0:w1.cell? (Qa w.heap.size 0)=some (.slice (some (Qa b k)) xs.length cap):=Jc hb1 Jh Jg;have c1:w1.cell? (Qa (w.heap.size+1) 0)=some (.slice none 0 0):=(hb1.cell (p:=(Qa (w.heap.size+1) 0)) Js).trans Jg;have d1:w1.frozen? (Qa (w.heap.size+1) 0)=false:=(hb1.frozen (p:=(Qa (w.heap.size+1) 0)) Js).trans Jg;clear hv hb1;cases v
 ·go_wp2_with fail;refine yN (v:=.tuple #[.agg #[.slice none 0 0],.bool false]) ?res rfl ⟨⟨none,0,[],false,rfl,zB (yS ⟨rfl,rfl⟩),zB (yU ⟨fun h=>Bool.false_ne_true (HV.2 h),rfl,rfl⟩)⟩,?_⟩;case res=>simp[results,results76,go_sem,c1]
  exact H.setCell Js _
 ·have HO:=zB (HV.1 rfl);have X:=HO.2.1;have h1:=HO.1;have ei:(xs.length:Int)-1=((xs.length-1:Nat):Int):=Jo;have x:xs.length-1+1=xs.length:=Jo;obtain⟨vs,Q⟩:∃vs,Hid (vs=er xs (xs.length-1+1)):=⟨_,zB rfl⟩;have K:=zB (show zDi (w1.alloc (.cells #[] 106)) w1.heap.size w1.heap.size 0 [] by
   have:=yG (base:=w1.heap.size) (e:=106) (size:=4) w1 #[] 0 (yk _) (ym _) rfl
   simpa[zDi,zT] using this)
  go_wp2_with fail;go_call zHD b k cap xs X xs.length (xs.length-1) 0 w1.heap.size w1.heap.size 0 [] vs _ Jo Jo (zB HO.2.2.1) (zB rfl) Q (HW.below (H.trans ((zC _ _).mono H.size)) hB) Jo Js K as e w2 ⟨⟨g2,c2,rfl,hr2,hg2⟩,hk2⟩;have y:=hr2.lt;have z2:w1.heap.size<w2.heap.size:=Jz hk2.size
  have e1:w2.cell? (Qa (w.heap.size+1) 0)=some (.slice none 0 0):=(hk2.cell (b:=w.heap.size+1) Jq Jo 0).trans (((zC _ _).cell (p:=(Qa (w.heap.size+1) 0)) (Jo:w.heap.size+1<w1.heap.size)).trans c1);have f1:w2.frozen? (Qa (w.heap.size+1) 0)=false:=(hk2.frozen (b:=w.heap.size+1) Jq Jo 0).trans (((zC _ _).frozen (p:=(Qa (w.heap.size+1) 0)) (Jo:w.heap.size+1<w1.heap.size)).trans d1);have q:Qb w w2:=(H.trans ((zC _ _).mono H.size)).trans (hk2.below Jq Jo);clear c0 c1 d1 hk2 K;go_wp2_with fail;refine yN (v:=.tuple #[.agg #[Ql g2 vs.length c2],.bool true]) ?res rfl ⟨⟨some (Qa g2 0),c2,vs,true,rfl,zB (yU ⟨g2,rfl,Jo,?_⟩),zB (yS ⟨HO,rfl,by rw[zA Q,x]⟩)⟩,?_⟩;case res=>simp[results,results76,go_sem,e1]
  ·exact(zBT hr2).2.setCell _ _ _ Jo
  ·exact q.setCell Js _
theorem zHm(b H cap:Nat)(xs:List OpR)(w:JY)(hm:xs.length<=1048576)(hw:Ops w b H xs)(hs:ZA xs)(hB:b<w.heap.size)(hc:zO xs 0):Calls prog 23 #[.agg #[.slice (some (Qa b H)) xs.length cap]] w fun e w'=>e=.returned (Qi 0)/\Qb w w':=by
 go_call zAM b H cap xs w hm hw hs hB as e w' ⟨⟨c,rfl,h⟩,hb⟩;exact⟨by rw[zAC h hc],hb⟩
theorem zHn(b Q cap bn q cn:Nat)(xs:List OpR)(ns:List zD)(w:JY)(hm:xs.length<=1048576)(f:ns.length<=1048576)(hw:Ops w b Q xs)(u:ZA xs)(hB:b<w.heap.size)(E:Zv w bn q ns)(B:zBb ns)(D:bn<w.heap.size)(hc:zO xs 0):Calls prog 75 #[.agg #[.slice (some (Qa b Q)) xs.length cap],.agg #[.slice (some (Qa bn q)) ns.length cn]] w fun e w'=>zBD e (Zk ns/\zCt xs ns)/\Qb w w':=by
 have HW:=zB hw;have c:=zB E;have HZ:=zB u;have F:=zB B;have HC:=zB hc;clear hw E u B hc;go_enter func75,ntmps75;go_wp2_with fail;go_call zHm b Q cap xs _ hm (HW.below ((zC _ _).alloc Js _) hB) HZ Jq HC as e w1 ⟨rfl,hb1⟩;have H:Qb w w1:=((zC _ _).alloc Js _).trans (hb1.mono Jq);have c0:w1.cell? (Qa w.heap.size 0)=some (.slice (some (Qa b Q)) xs.length cap):=Jc hb1 Jh Jg;have c1:w1.cell? (Qa (w.heap.size+1) 0)=some (.slice (some (Qa bn q)) ns.length cn):=(hb1.cell (p:=(Qa (w.heap.size+1) 0)) Js).trans Jg;have z1:w.heap.size+2<=w1.heap.size:=Jz hb1.size
 clear hb1;go_wp2_with fail;go_call zGB bn q cn ns _ f (c.below H D) F Jo as e w2 ⟨⟨v,rfl,hv⟩,hb2⟩;have HV:=zB hv;have y:=H.trans (hb2.mono H.size);have e0:=Jc hb2 (Jo:w.heap.size<w1.heap.size) c0;have e1:=(hb2.cell (p:=(Qa (w.heap.size+1) 0)) (Jo:w.heap.size+1<w1.heap.size)).trans c1;have z2:w.heap.size+2<=w2.heap.size:=yw z1 hb2.size;clear hb2 hv c0 c1 H z1;cases v
 ·go_wp2_with fail;go_ret;exact⟨⟨_,rfl,zQ (fun h=>Bool.false_ne_true (HV.2 h.1))⟩,y⟩
 have HO:=zB (HV.1 rfl);clear HV;have d:=zB (show Cs [(w.heap.size,0,.slice (some (Qa b Q)) xs.length cap),(w.heap.size+1,0,.slice (some (Qa bn q)) ns.length cn)] w2 from fun p hp=>by
  simp only[List.mem_cons,List.not_mem_nil,or_false] at hp
  rcases hp with rfl|rfl
  ·exact e0
  ·exact e1)
 go_wp2_with fail;go_loopw [5] (fun iv wr=>∃k:Nat,k<=ns.length/\iv=Qi k/\Hid (∀i,i<k->Zh (atN ns i)->fnd xs (atN ns i).t ((atN ns i).k-2)≠none)/\Hid (Cs [(w.heap.size,0,.slice (some (Qa b Q)) xs.length cap),(w.heap.size+1,0,.slice (some (Qa bn q)) ns.length cn)] wr)/\Qb w wr) (fun iv _=>ns.length-(intOf iv).toNat);case atStart=>exact⟨0,ym _,rfl,zB (fun i hi=>yR hi (yx i)),d,y⟩
 case round=>
  clear d e0 e1 y z2;obtain⟨k,hk,rfl,V,J,x⟩:=hrel;have c0:=(zA J) (w.heap.size,0,.slice (some (Qa b Q)) xs.length cap) Js;have c1:=(zA J) (w.heap.size+1,0,.slice (some (Qa bn q)) ns.length cn) Js;simp only at c0 c1;by_cases C:k<ns.length
  ·have g:(k:Int)<(ns.length:Int):=Jo;obtain⟨a0,a1,a2,a3⟩:=((c) k C).below x D;have A:=zB (J.below (zC wr (.cells #[Qi (atN ns k).k,Qs (atN ns k).t,Qi (atN ns k).a,Qi (atN ns k).b] 106)));have H:Qb w (wr.alloc (.cells #[Qi (atN ns k).k,Qs (atN ns k).t,Qi (atN ns k).a,Qi (atN ns k).b] 106)):=x.alloc x.size _;by_cases ho:Zh (atN ns k)
   ·have HD:=zB (by rw[eq_comm,decide_eq_true_iff];exact ho:true=decide (3<=(atN ns k).k/\(atN ns k).k<=5));have h3:=ho.1;have h5:=ho.2;have Y:=zB ho;clear ho;go_wp2_with fail;go_call zAp (atN ns k) _ true HD as e w3 ⟨rfl,hb3⟩;have U:=zB (A.below hb3);have K:=H.trans (hb3.mono H.size);have n0:w3.cell? (Qa wr.heap.size 0)=some (Qi (atN ns k).k):=Jc hb3 Jh Jg;have n1:w3.cell? (Qa wr.heap.size 1)=some (Qs (atN ns k).t):=Jc hb3 Jh Jg;have d0:=(zA U) (w.heap.size,0,.slice (some (Qa b Q)) xs.length cap) Js;simp only at d0;have G:IntKind.i64.wrap ((atN ns k).k-2)=(atN ns k).k-2:=by rw[IntKind.wrap_i64];omega
    clear hb3 c0 c1;cases hf:fnd xs (atN ns k).t ((atN ns k).k-2) with
    |none=>
     have HF:=zB hf;have P:=zB (by rw[hf];rfl:fI (fnd xs (atN ns k).t ((atN ns k).k-2)) = -1);clear hf;go_wp2_with fail;refine(zFx b Q cap xs (atN ns k).t ((atN ns k).k-2) _ hm (HW.below K hB) (yl hB K.size)).mono ?_;rw[zA P];rintro e w4 ⟨rfl,hb4⟩;go_wp2_with fail;go_ret;exact⟨⟨_,rfl,zQ (fun h=>h.2 k C Y HF)⟩,K.trans (hb4.mono K.size)⟩
    |some j=>
     have HF:=zB hf;have P:=zB (by rw[hf];rfl:fI (fnd xs (atN ns k).t ((atN ns k).k-2))=(j:Int));clear hf;go_wp2_with fail;refine(zFx b Q cap xs (atN ns k).t ((atN ns k).k-2) _ hm (HW.below K hB) (yl hB K.size)).mono ?_;rw[zA P];rintro e w4 ⟨rfl,hb4⟩;have I:¬ (j:Int)<0:=Jo;go_wp2_with fail;refine⟨⟨k+1,Jo,Jn,zB (fun i hi X=>?_),zB (U.below hb4),K.trans (hb4.mono K.size)⟩,Ji⟩;by_cases e:i=k
     ·subst e;rw[zA HF];simp
     ·exact V i Jo X
   ·have HD:=zB (by rw[eq_comm,yW];exact ho:false=decide (3<=(atN ns k).k/\(atN ns k).k<=5));have Y:=zB ho;clear ho;go_wp2_with fail;go_call zAp (atN ns k) _ false HD as e w3 ⟨rfl,hb3⟩;go_wp2_with fail;refine⟨⟨k+1,Jo,Jn,zB (fun i hi X=>?_),zB (A.below hb3),H.trans (hb3.mono H.size)⟩,Ji⟩;by_cases e:i=k
    ·subst e;exact yR X Y
    ·exact V i Jo X
  ·have l:k=ns.length:=Jo;go_wp2_with fail;go_ret;exact⟨⟨_,rfl,Zb ⟨HO,fun i hi X=>V i Jo X⟩⟩,x⟩
def Zj(w:JY)(N:Nat)(o:zD):Prop:=w.cell? (Qa N 0)=some (Qi o.k)/\w.cell? (Qa N 1)=some (Qs o.t)/\w.cell? (Qa N 2)=some (Qi o.a)/\w.cell? (Qa N 3)=some (Qi o.b)/\w.frozen? (Qa N 2)=false/\w.frozen? (Qa N 3)=false
theorem Zj.grown(h:Zj w N o)(hg:w.grownBy w' row)(H:row≠some N):Zj w' N o:=by
 obtain⟨h0,h1,h2,h3,h4,h5⟩:=h;have k:N<w.heap.size:=block_lt_of_cell h0;have c:=zK hg k H;have f:∀o,w'.frozen? (Qa N o)=w.frozen? (Qa N o):=fun o=>yD (w:=w) (hg.block N k (fun e=>H e.symm))
 exact⟨(c 0).trans h0,(c 1).trans h1,(c 2).trans h2,(c 3).trans h3,(f 2).trans h4,(f 3).trans h5⟩
theorem Zj.below(h:Zj w N o)(hb:Qb w w'):Zj w' N o:=h.grown (zE hb none) Js
theorem Zj.set2(h:Zj w N o)(v:Int):Zj (w.setCell (Qa N 2) (Qi v)) N ⟨o.k,o.t,v,o.b⟩:=by
 obtain⟨h0,h1,h2,h3,h4,h5⟩:=h;have c:∀j,j≠2->(w.setCell (Qa N 2) (Qi v)).cell? (Qa N j)=w.cell? (Qa N j):=fun j hj=>yj _ _ _ _ (fun x=>hj (by injection x with _ x;exact x.symm))
 exact⟨(c 0 Jo).trans h0,(c 1 Jo).trans h1,yt _ _ _ h2,(c 3 Jo).trans h3,(yv _ _ _ _).trans h4,(yv _ _ _ _).trans h5⟩
theorem Zj.set3(h:Zj w N o)(v:Int):Zj (w.setCell (Qa N 3) (Qi v)) N ⟨o.k,o.t,o.a,v⟩:=by
 obtain⟨h0,h1,h2,h3,h4,h5⟩:=h;have c:∀j,j≠3->(w.setCell (Qa N 3) (Qi v)).cell? (Qa N j)=w.cell? (Qa N j):=fun j hj=>yj _ _ _ _ (fun x=>hj (by injection x with _ x;exact x.symm))
 exact⟨(c 0 Jo).trans h0,(c 1 Jo).trans h1,(c 2 Jo).trans h2,yt _ _ _ h3,(yv _ _ _ _).trans h4,(yv _ _ _ _).trans h5⟩
theorem Zj.other{j:Nat}(h:Zj w N o)(v:Value)(H:g≠N):Zj (w.setCell (Qa g j) v) N o:=
 h.grown (row:=some g) ⟨rfl,rfl,rfl,Jt,fun i _ hi=>je _ _ _ _ (fun e=>hi (by rw[e]))⟩ (Ju H)
def zBO(w:JY)(N:Nat)(p:OpR):Prop:=w.cell? (Qa N 0)=some (Qs p.s)/\w.cell? (Qa N 1)=some (Qi p.k)/\w.cell? (Qa N 2)=some (Qi p.l)/\w.cell? (Qa N 3)=some (Qi p.sd)
theorem zBO.grown{o:OpR}(h:zBO w N o)(hg:w.grownBy w' row)(H:row≠some N):zBO w' N o:=by
 obtain⟨h0,h1,h2,h3⟩:=h;have k:N<w.heap.size:=block_lt_of_cell h0;have c:=zK hg k H;exact⟨(c 0).trans h0,(c 1).trans h1,(c 2).trans h2,(c 3).trans h3⟩
theorem zBO.below{o:OpR}(h:zBO w N o)(hb:Qb w w'):zBO w' N o:=h.grown (zE hb none) Js
theorem zBO.other{j:Nat}{o:OpR}(h:zBO w N o)(v:Value)(H:g≠N):zBO (w.setCell (Qa g j) v) N o:=
 h.grown (row:=some g) ⟨rfl,rfl,rfl,Jt,fun i _ hi=>je _ _ _ _ (fun e=>hi (by rw[e]))⟩ (Ju H)
theorem zER{b H:Nat}{xs:List OpR}(h:Ops w b H xs)(hg:w.grownBy w' row)(hb:b<B)(hB:B<=w.heap.size)(hr:∀k,row=some k->B<=k):Ops w' b H xs:=fun i hi=>by
 obtain⟨a0,a1,a2,a3⟩:=h i hi;have c:=zK hg (b:=b) Jo (fun e=>Jy (hr _ e));exact⟨(c _).trans a0,(c _).trans a1,(c _).trans a2,(c _).trans a3⟩
theorem zPC{b H:Nat}(h:Zv w b H xs)(hg:w.grownBy w' row)(hb:b<B)(hB:B<=w.heap.size)(hr:∀k,row=some k->B<=k):Zv w' b H xs:=fun i hi=>by
 obtain⟨a0,a1,a2,a3⟩:=h i hi;have c:=zK hg (b:=b) Jo (fun e=>Jy (hr _ e));exact⟨(c _).trans a0,(c _).trans a1,(c _).trans a2,(c _).trans a3⟩
theorem ZK.base{u:Value}(h:ZK w B u us):∀g,u.ownBlock=some g->B<=g:=fun g hg=>(World.ownsRow.lt h g hg).1
theorem ZK.other{j:Nat}{u:Value}(h:ZK w B u us)(v:Value)(H:u.ownBlock≠some g):ZK (w.setCell (Qa g j) v) B u us:=zFZ h g j v H
theorem zLL(xs:List zD):∀m i,i<=m->∃r,er xs m=er xs i++r
 |0,i,h=>by
  obtain rfl:i=0:=Jo;exact⟨[],rfl⟩
 |m+1,i,h=>by
  by_cases e:i=m+1
  ·subst e;exact⟨[],Js⟩
  ·obtain⟨r,hr⟩:=zLL xs m i Jo;by_cases h6:(atN xs m).k=6
   ·rw[zND h6];exact⟨r,hr⟩
   ·rw[zFM h6,hr];exact⟨r++[erN xs (atN xs m)],Js⟩
theorem zSo{m i:Nat}(hi:i<m)(h6:(atN xs i).k≠6):cnt xs i<(er xs m).length/\atN (er xs m) (cnt xs i)=erN xs (atN xs i):=by
 obtain⟨r,hr⟩:=zLL xs m (i+1) hi;have hl:=zCk xs i;rw[zFM h6] at hr;rw[hr];refine⟨by simp[hl],?_⟩;unfold atN;simp[List.getD,List.getElem?_append,hl]
theorem zHo{i:Nat}(h6:(atN xs i).k≠6):cnt xs (i+1)=cnt xs i+1:=by
 show(if(atN xs i).k=6 then cnt xs i else cnt xs i+1)=_;rw[yP h6]
theorem zQ4{i:Nat}(h6:(atN xs i).k=6):cnt xs (i+1)=cnt xs i:=by
 show(if(atN xs i).k=6 then cnt xs i else cnt xs i+1)=_;rw[yQ h6]
theorem zJp{ns:List OpR}{H:Int}{k vs U:List zD}(hv:vs=us++zDh ns o H us.length U)(h4:k=us++U):(zAN ns o<H->vs=k++[⟨6,ByteArray.empty,(k.length:Int)-1,0⟩])/\(¬ zAN ns o<H->vs=k):=by
 constructor
 ·intro h;rw[hv,zDh,yQ h,h4,yA,yq]
 ·intro h;rw[hv,zDh,yP h,h4]
theorem zUq(b v cap bz offz cz j:Nat)(ns:List OpR)(zs:List zD)(o:zD)(K:Int)(B:Nat)(u:Value)(us vs:List zD)(w:JY)(hm:ns.length<=1048576)(hw:Ops w b v ns)(hb:b<B)(n:Zv w bz offz zs)(hz:bz<B)(hB:B<=w.heap.size)(H:ZK w B u us)(hj:j<zs.length)(hy:zs.length<=20000)(ho:atN zs j=⟨o.k,o.t,0,0⟩)(hk:zY o.k=0)(ht:us.length<=90000)(he:vs=us++zDh ns o K us.length [⟨o.k,o.t,0,0⟩]):Calls prog 77 #[.agg #[.slice (some (Qa b v)) ns.length cap],.slice (some (Qa bz offz)) zs.length cz,Qi j,Qi K,u] w (zAQ w B u vs):=by
 obtain⟨i0,hi,S,T,hc⟩:=zS zDK;have HI:=zB hi;have HZ:=zB (yK S (yK T hc));clear hi S T hc;have h5:(j:Int)<(zs.length:Int):=Jo;have hv:bz<w.heap.size:=Jo;obtain⟨h0,h1,h2,h3⟩:=n j hj;rw[ho] at h0 h1 h2 h3;simp only at h0 h1 h2 h3;have J:¬ (3<=o.k/\o.k<=5):=by
  intro h;have:o.k=3\/o.k=4\/o.k=5:=Jo;rcases this with e|e|e<;>rw[e] at hk<;>simp[zY] at hk
 have HD:=zB (by rw[eq_comm,yW];exact J:false=decide (3<=o.k/\o.k<=5));have hs:Hid (3<=o.k->o.k<=5->fnd ns o.t (o.k-2)≠none):=fun a b=>yR ⟨a,b⟩ J
 obtain⟨q,i⟩:∃q,Hid (q=us++[⟨o.k,o.t,0,0⟩]):=⟨_,zB rfl⟩;have h4:q.length<=90001:=by rw[zA i,yq];simp;omega
 have D:=zB (zJp he i);have N:=zB H.base;have E:∀x,w.heap.size<=x->x<w.heap.size+3->u.ownBlock≠some x:=fun x hx _ e=>Jy (H.lt _ e)
 obtain⟨a1,c1,rfl⟩:=ZE H;obtain⟨u,hu⟩:=Jx (Value.slice a1 us.length c1);have V:=zB E;have HW:=zB hw;have HR:=zB H;have r:Hid (∀o1 o2 o3:Obj,Qb w (((w.alloc o1).alloc o2).alloc o3)):=fun o1 o2 o3=>((zC w o1).alloc Js o2).alloc Jq o3
 have hg:=zB (by rw[hu]:zAQ w B (Value.slice a1 us.length c1) vs=zAQ w B u vs);rw[zA hg];have R:=zB hu;clear hw n H ho he J hk E hu hg;go_enter func77,ntmps77;go_wp2_with fail;go_call zAp ⟨o.k,o.t,0,0⟩ _ false HD as e w1 ⟨rfl,hb1⟩;have P:Qb w w1:=((r) _ _ _).trans (hb1.mono Jq);have ha:=zB (HR.below P);have U:Hid (w.grownBy w1 u.ownBlock):=zE P _;have g:Hid ((Value.slice a1 us.length c1).ownBlock=u.ownBlock\/∃k,(Value.slice a1 us.length c1).ownBlock=some k/\w.heap.size<=k):=yS (by rw[zA R]);rw[<-zA R] at N;have M:Hid (w1.cell? (Qa w.heap.size 0)=some (.slice (some (Qa b v)) ns.length cap)):=Jc hb1 Jh Jg;have hf:Hid (Zj w1 (w.heap.size+1) ⟨o.k,o.t,0,0⟩):=Zj.below ⟨Jg,Jg,Jg,Jg,Jg,Jg⟩ hb1;have hn:Hid (Zj w1 (w.heap.size+1+1) ⟨o.k,o.t,0,0⟩):=Zj.below ⟨Jg,Jg,Jg,Jg,Jg,Jg⟩ hb1;have z1:=P.size;clear hb1 HR r;obtain⟨mk0,mk1,mk2,mk3,_,_⟩:=zA hn;simp only at mk0 mk1 mk2 mk3;go_wp2_with (at_builtin;refine yL _ rfl (.tmp 56) (.tmp 58) 68 rfl B 106 i0 _ 4 40 underlying68 HI HZ.1 HZ.2.1 HZ.2.2 rfl Jd _ us.length (zT us) rfl (ha.below (zC _ _)) (Qa ((w1).heap.size) 0) 1 1 (zT [⟨o.k,o.t,0,0⟩]) rfl rfl (Ju (Zr (w1) ⟨o.k,o.t,0,0⟩)) (zj _) ?b1 ?b2 ?b3 ?next);case b1=>exact Jm
 case b2=>omega
 case b3=>first|omega|(have:=U.size;simp at this ⊢;omega)
 case next=>
  intro v4 w4 Y Q I F;have c:ZK w4 B v4 (us++[⟨o.k,o.t,0,0⟩]):=by
   unfold ZK;rw[ze,yq];exact Y
  rw[<-zA i] at c;have A:=zB (zV (zC (w1) _) Q);have O:Hid (v4.ownBlock=(Value.slice a1 us.length c1).ownBlock\/∃k,v4.ownBlock=some k/\(w1).heap.size<=k):=F.imp id (fun h=>⟨_,h,by first|exact yk _|simp⟩);have C:=zB (zX U A g);have l:=zB (ZZ U g v4.ownBlock O);have s:=zB (hf.grown A (zA V _ Jo Jo));have t4:w4.cell? (Qa w.heap.size 0)=some (.slice (some (Qa b v)) ns.length cap):=(zK A (b:=w.heap.size) (block_lt_of_cell M) (zA V _ Jo Jo) 0).trans M;have hh:=zB (zER HW C hb hB N);have z4:=C.size;obtain⟨n0,n1,n2,n3,_,_⟩:=zA s;simp only at n0 n1 n2 n3;obtain⟨a4,c4,rfl⟩:=ZE c;have hd:=zB c;clear Y Q I F c A O mk0 mk1 mk2 mk3 hn hf M ha V U g;go_wp2_with fail;go_call zBv b v cap ns ⟨o.k,o.t,0,0⟩ _ hm hh Jo hs as e w5 ⟨rfl,hb5⟩;have W:zAN ns ⟨o.k,o.t,0,0⟩=zAN ns o:=rfl;rw[W];have d:=zB (zX C (zE hb5 u.ownBlock) (yS rfl));have G:=zB (hd.below hb5);have z5:w.heap.size<=w5.heap.size:=yw z4 hb5.size;clear W hb5 C hd s hh t4 n0 n1 n2 n3 z4;by_cases hl:zAN ns o<K
  ·have L:=zB (D.1 Jo);clear D;go_wp2_with (at_builtin;refine yL _ rfl (.tmp 65) (.tmp 70) 68 rfl B 106 i0 _ 4 40 underlying68 HI HZ.1 HZ.2.1 HZ.2.2 rfl Jd _ q.length (zT q) rfl (G.below (zC _ _)) (Qa w5.heap.size 0) 1 1 (zT [⟨6,⟨#[]⟩,(q.length:Int)-1,0⟩]) rfl rfl (Ju (Zr w5 ⟨6,⟨#[]⟩,(q.length:Int)-1,0⟩)) (zj _) ?b4 ?b5 ?b6 ?next2);case b4=>exact Jm
   case b5=>omega
   case b6=>first|omega|(simp;omega)
   case next2=>
    intro v6 w6 y X m f;have hp:=zB (show ZK w6 B v6 vs by
     rw[zA L]
     unfold ZK
     rw[ze,yq]
     exact y)
    have Z:=zB (zV (zC w5 _) X);have hr:=zB (zX d Z l);have hq:=zB (ZZ d l v6.ownBlock (f.imp id (fun h=>⟨_,h,by first|exact yk _|simp⟩)));clear y X m f Z d G;go_wp2_with fail;go_ret;exact⟨v6,rfl,hp,hr,hq⟩
  ·have L:=zB (D.2 Jo);clear D;go_wp2_with fail;go_ret;exact⟨_,rfl,by rw[zA L];exact G,d,l⟩
theorem zWU(b q cap bz offz cz j ja jj:Nat)(ns:List OpR)(zs:List zD)(o:zD)(V:Int)(B:Nat)(u:Value)(us H vs:List zD)(w:JY)(hm:ns.length<=1048576)(hR:ZA ns)(hw:Ops w b q ns)(hb:b<B)(hr:Zv w bz offz zs)(Hh:bz<B)(hB:B<=w.heap.size)(P:ZK w B u us)(hj:j<zs.length)(Hg:zs.length<=20000)(ho:atN zs j=⟨o.k,o.t,(ja:Int),0⟩)(n:Zh o)(hk:zY o.k=1)(hf:fnd ns o.t (o.k-2)=some jj)(Hd:H.length<=90000){U:List zD}(hs:H=us++U)(h6:vs=us++zDh ns o V us.length (U++[⟨o.k,o.t,(H.length:Int)-1,0⟩]))(hc:∀W,Ops W b q ns->Zv W bz offz zs->B<=W.heap.size->ZK W B u us->Calls prog 77 #[.agg #[.slice (some (Qa b q)) ns.length cap],.slice (some (Qa bz offz)) zs.length cz,Qi ja,Qi (ZU (atO ns jj).s (atO ns jj).k (atO ns jj).l (atO ns jj).sd false),u] W (zAQ W B u H)):Calls prog 77 #[.agg #[.slice (some (Qa b q)) ns.length cap],.slice (some (Qa bz offz)) zs.length cz,Qi j,Qi V,u] w (zAQ w B u vs):=by
 obtain⟨J,C⟩:∃J,Hid (J=us++(U++[⟨o.k,o.t,(H.length:Int)-1,0⟩])):=⟨_,zB rfl⟩;have ht:=C;have He:J.length<=90001:=by rw[zA C,<-yA,<-hs,yq];simp;omega
 obtain⟨i0,h8,hI,hJ,hN⟩:=zS zDK;have HI:=zB h8;have HZ:=zB (yK hI (yK hJ hN));clear h8 hI hJ hN;have Hf:(j:Int)<(zs.length:Int):=Jo;have hQ:bz<w.heap.size:=Jo;have hE:b<w.heap.size:=Jo;obtain⟨h0,h1,h2,h3⟩:=hr j hj;rw[ho] at h0 h1 h2 h3;simp only at h0 h1 h2 h3;have HD:=zB (by rw[eq_comm,decide_eq_true_iff];exact n:true=decide (3<=o.k/\o.k<=5));have hX:=n.1;have hS:=n.2;have HF:=zB hf;have Hb:=(zAg hf).1;have hZ:=zB (hR jj Hb);have Hc:Hid (3<=o.k->o.k<=5->fnd ns o.t (o.k-2)≠none):=fun _ _=>by rw[hf];simp
 have R:=zB (zJp h6 ht);have hC:=zB P.base;have S:∀x,w.heap.size<=x->u.ownBlock≠some x:=fun x hx e=>Jy (P.lt _ e)
 obtain⟨a0,c0,rfl⟩:=ZE P;obtain⟨u,hu⟩:=Jx (Value.slice a0 us.length c0);have D:=zB S;have HW:=zB hw;have h9:=zB hr;have E:=zB P;have hF:Hid (∀o1 o2 o3:Obj,Qb w (((w.alloc o1).alloc o2).alloc o3)):=fun o1 o2 o3=>((zC w o1).alloc Js o2).alloc Jq o3
 have h7:=zB (by rw[hu]:zAQ w B (Value.slice a0 us.length c0) vs=zAQ w B u vs);rw[zA h7];have hG:=zB hu;rw[<-hu] at hC;have HC:=zB hc;have hY:=zB hk;replace ht:=zB (by rw[zA C,<-yA,<-hs]:J=H++[⟨o.k,o.t,(H.length:Int)-1,0⟩]);clear hk hs C;clear hw hr P ho h6 S hu h7 hc n hf;go_enter func77,ntmps77;go_wp2_with fail;go_call zAp ⟨o.k,o.t,(ja:Int),0⟩ _ true HD as e w1 ⟨rfl,hb1⟩;have a:Qb w w1:=((hF) _ _ _).trans (hb1.mono Jq);have t1:w1.cell? (Qa w.heap.size 0)=some (.slice (some (Qa b q)) ns.length cap):=Jc hb1 Jh Jg;have hq:Hid (Zj w1 (w.heap.size+1) ⟨o.k,o.t,(ja:Int),0⟩):=Zj.below ⟨Jg,Jg,Jg,Jg,Jg,Jg⟩ hb1;have h4:Hid (Zj w1 (w.heap.size+1+1) ⟨o.k,o.t,0,0⟩):=Zj.below ⟨Jg,Jg,Jg,Jg,Jg,Jg⟩ hb1;have z1:w.heap.size+3<=w1.heap.size:=Jz hb1.size
 obtain⟨n0,n1,n2,n3,_,_⟩:=zA hq;simp only at n0 n1 n2 n3;clear hb1 hF;go_wp2_with fail;go_call zEv b q cap ns ⟨o.k,o.t,(ja:Int),0⟩ jj _ hm (HW.below a hE) Jo hX hS HF as e w2 ⟨rfl,hb2⟩;have I:=a.trans (hb2.mono a.size);have z2:w.heap.size+3<=w2.heap.size:=yw z1 hb2.size;have f:Qb w2 (w2.alloc (.cells #[Qs (atO ns jj).s,Qi (atO ns jj).k,Qi (atO ns jj).l,Qi (atO ns jj).sd] 33)).drew:=(zC _ _).drew;have K:Hid ((w2.alloc (.cells #[Qs (atO ns jj).s,Qi (atO ns jj).k,Qi (atO ns jj).l,Qi (atO ns jj).sd] 33)).drew.cell? (Qa w.heap.size 0)=some (.slice (some (Qa b q)) ns.length cap)):=(f.cell (p:=Qa w.heap.size 0) (show w.heap.size<w2.heap.size by omega)).trans ((hb2.cell (p:=Qa w.heap.size 0) (show w.heap.size<w1.heap.size by omega)).trans t1);have Q:=zB ((hq.below hb2).below f);have X:=zB ((h4.below hb2).below f);have y:Hid (zBO (w2.alloc (.cells #[Qs (atO ns jj).s,Qi (atO ns jj).k,Qi (atO ns jj).l,Qi (atO ns jj).sd] 33)).drew w2.heap.size (atO ns jj)):=zBO.below (w:=w2.alloc (.cells #[Qs (atO ns jj).s,Qi (atO ns jj).k,Qi (atO ns jj).l,Qi (atO ns jj).sd] 33)) ⟨Jg,Jg,Jg,Jg⟩ (yJ _ _).drew;have Y:=zB (I.trans (f.mono I.size));replace E:=zB (E.below Y);have hg:=zB (Js:w2.heap.size+1<=(w2.alloc (.cells #[Qs (atO ns jj).s,Qi (atO ns jj).k,Qi (atO ns jj).l,Qi (atO ns jj).sd] 33)).drew.heap.size);clear hb2 f t1 hq h4 n0 n1 n2 n3 a I;go_wp2_with fail;go_region_held (fun w'=>w'.cell? (Qa w.heap.size 0)=some (.slice (some (Qa b q)) ns.length cap)/\w'.cell? (Qa (w.heap.size+1) 2)=some (Qi ja)/\w'.cell? (Qa w2.heap.size 0)=some (Qs (atO ns jj).s)/\w'.cell? (Qa w2.heap.size 1)=some (Qi (atO ns jj).k)/\w'.cell? (Qa w2.heap.size 2)=some (Qi (atO ns jj).l)/\w'.cell? (Qa w2.heap.size 3)=some (Qi (atO ns jj).sd)) (first|(go_keep;done)|exact⟨K,Q.2.2.1,y.1,y.2.1,y.2.2.1,y.2.2.2⟩)
  (first|(go_at_call 124;refine(zBS (atO ns jj).s (atO ns jj).k (atO ns jj).l (atO ns jj).sd false _ hZ).mono ?_;rintro e w3 ⟨rfl,hb3⟩;have hz:=hb3;replace K:=zB (Jc hb3 (block_lt_of_cell K) K);replace Q:=zB (Q.below hb3);replace X:=zB (X.below hb3);replace y:=zB (y.below hb3);replace E:=zB (E.below hb3);replace Y:=zB (Y.trans (hz.mono Y.size));replace hg:=zB (yw hg hb3.size);clear hb3 hz)|(go_at_call 77;refine(HC _ (HW.below Y hE) (h9.below Y hQ) (yw hB Y.size) E).mono ?_;rintro x w5 ⟨u1,rfl,hr5,hg5,ho5⟩;replace K:=zB ((zK hg5 (b:=w.heap.size) (block_lt_of_cell K) (D _ Jo) 0).trans K);replace Q:=zB (Q.grown hg5 (D _ Jo));replace X:=zB (X.grown hg5 (D _ Jo));replace y:=zB (y.grown hg5 (D _ Jo));have v:=zB (zV Y hg5);have r:=zB (ho5.imp id (fun⟨k,h1,h2⟩=>⟨k,h1,yw hg h2⟩):u1.ownBlock=(Value.slice a0 us.length c0).ownBlock\/∃k,u1.ownBlock=some k/\w2.heap.size+1<=k);obtain⟨a1,c1,rfl⟩:=ZE hr5;have O:=hr5;clear hg5 ho5 hr5 E Y))
 rw[<-zA hG] at v r;have Z:=zB (show ∀x,w.heap.size<=x->x<w2.heap.size+1->(Value.slice a1 H.length c1).ownBlock≠some x from fun x hx hU e=>by
  rcases zA r with h|⟨k,h1,h2⟩
  ·exact D x hx (by rw[<-zA hG,<-h];exact e)
  ·rw[h1] at e;injection e with e;omega)
 have c:Hid (∀x,w.heap.size<=x->x<w.heap.size+3->(Value.slice a1 H.length c1).ownBlock≠some x):=fun x hx hU=>Z x hx Jo
 have hd:Hid ((Value.slice a1 H.length c1).ownBlock=u.ownBlock\/∃k,(Value.slice a1 H.length c1).ownBlock=some k/\w.heap.size<=k):=r.imp id (fun⟨k,h1,h2⟩=>⟨k,h1,Jo⟩);have mc:=zA X;obtain⟨mm0,mm1,mm2,mm3,mm4,mm5⟩:=mc;simp only at mm0 mm1 mm2 mm3;have nc:=zA Q;obtain⟨nn0,nn1,nn2,nn3,_,_⟩:=nc;simp only at nn0 nn1 nn2 nn3;have n0':(w5.setCell (Qa (w.heap.size+1+1) 2) (Qi ((H.length:Int)-1))).cell? (Qa (w.heap.size+1) 0)=some (Qi o.k):=(yj _ _ _ _ (fun x=>by injection x with x1;omega)).trans nn0;replace X:=zB (X.set2 ((H.length:Int)-1));replace Q:=zB (Q.other (g:=w.heap.size+1+1) (j:=2) (Qi ((H.length:Int)-1)) Jo);replace K:=zB ((yj w5 (Qa (w.heap.size+1+1) 2) (Qa w.heap.size 0) (Qi ((H.length:Int)-1)) (fun x=>by injection x with x1;omega)).trans K);replace O:=zB (O.other (g:=w.heap.size+1+1) (j:=2) (Qi ((H.length:Int)-1)) (c _ Jo Jo));replace v:=zB (zX v (⟨rfl,rfl,rfl,Jt,fun i _ hi=>je _ _ _ _ (fun e=>hi (by rw[e]))⟩:w5.grownBy (w5.setCell (Qa (w.heap.size+1+1) 2) (Qi ((H.length:Int)-1))) (some (w.heap.size+1+1))) (yU ⟨_,rfl,Jo⟩));have hA:=X;have hO:=Q;have hp:=K;clear X Q K y r Z nn0 nn1 nn2 nn3 mm0 mm1 mm3 mm5 HC D h9;obtain⟨mk0,mk1,mk2,mk3,_,_⟩:=zA hA;simp only at mk0 mk1 mk2 mk3;go_wp2_with (first|(go_at_call 79;refine(zf hY 1 rfl _).mono ?_;rintro e w' ⟨rfl,rfl⟩)|(at_builtin;refine yL _ rfl (.tmp 56) (.tmp 58) 68 rfl B 106 i0 _ 4 40 underlying68 HI HZ.1 HZ.2.1 HZ.2.2 rfl Jd _ H.length (zT H) rfl (O.below (zC _ _)) (Qa w5.heap.size 0) 1 1 (zT [⟨o.k,o.t,(H.length:Int)-1,0⟩]) rfl rfl (Ju (zAr (w5.setCell (Qa (w.heap.size+1+1) 2) (Qi ((H.length:Int)-1))) w5.heap.size ⟨o.k,o.t,(H.length:Int)-1,0⟩ Jt)) (zj _) ?b1 ?b2 ?b3 ?next));case b1=>exact Jm
 case b2=>omega
 case b3=>first|omega|(have:=v.size;simp at this ⊢;omega)
 case next=>
  intro v4 w4 G d hv ha;have N:ZK w4 B v4 (H++[⟨o.k,o.t,(H.length:Int)-1,0⟩]):=by
   unfold ZK;rw[ze,yq];exact G
  rw[<-zA ht] at N;have L:=zB (zV (zC (w5.setCell (Qa (w.heap.size+1+1) 2) (Qi ((H.length:Int)-1))) _) d);have hD:Hid (v4.ownBlock=(Value.slice a1 H.length c1).ownBlock\/∃k,v4.ownBlock=some k/\(w5.setCell (Qa (w.heap.size+1+1) 2) (Qi ((H.length:Int)-1))).heap.size<=k):=ha.imp id (fun h=>⟨_,h,by first|exact yk _|simp⟩);have m:=zB (zX v L hd);have hn:=zB (ZZ v hd v4.ownBlock hD);have hH:=zB (hO.grown L (zA c _ Jo Jo));have t4:w4.cell? (Qa w.heap.size 0)=some (.slice (some (Qa b q)) ns.length cap):=(zK L (b:=w.heap.size) (block_lt_of_cell hp) (zA c _ Jo Jo) 0).trans hp;have hP:=zB (zER HW m hb hB hC);have z4:=m.size;obtain⟨n0,n1,n2,n3,_,_⟩:=zA hH;simp only at n0 n1 n2 n3;obtain⟨a4,c4,rfl⟩:=ZE N;have h5:=zB N;clear G d hv ha N L hD mk0 mk1 mk2 mk3 hA hO hp O c v hd;go_wp2_with fail;go_call zBv b q cap ns ⟨o.k,o.t,(ja:Int),0⟩ _ hm hP Jo Hc as e w5 ⟨rfl,hb5⟩;have hK:zAN ns ⟨o.k,o.t,(ja:Int),0⟩=zAN ns o:=rfl;rw[hK];have M:=zB (zX m (zE hb5 u.ownBlock) (yS rfl));have he:=zB (h5.below hb5);have z5:w.heap.size<=w5.heap.size:=yw z4 hb5.size;clear hK hb5 m h5 hH hP t4 n0 n1 n2 n3 z4;by_cases hl:zAN ns o<V
  ·have hh:=zB (R.1 Jo);clear R;go_wp2_with (at_builtin;refine yL _ rfl (.tmp 65) (.tmp 70) 68 rfl B 106 i0 _ 4 40 underlying68 HI HZ.1 HZ.2.1 HZ.2.2 rfl Jd _ J.length (zT J) rfl (he.below (zC _ _)) (Qa w5.heap.size 0) 1 1 (zT [⟨6,⟨#[]⟩,(J.length:Int)-1,0⟩]) rfl rfl (Ju (Zr w5 ⟨6,⟨#[]⟩,(J.length:Int)-1,0⟩)) (zj _) ?b4 ?b5 ?b6 ?next2);case b4=>exact Jm
   case b5=>omega
   case b6=>first|omega|(simp;omega)
   case next2=>
    intro v6 w6 F A hy T;have hV:=zB (show ZK w6 B v6 vs by
     rw[zA hh]
     unfold ZK
     rw[ze,yq]
     exact F)
    have hM:=zB (zV (zC w5 _) A);have Ha:=zB (zX M hM hn);have hW:=zB (ZZ M hn v6.ownBlock (T.imp id (fun h=>⟨_,h,by first|exact yk _|simp⟩)));clear F A hy T hM M he;go_wp2_with fail;go_ret;exact⟨v6,rfl,hV,Ha,hW⟩
  ·have hh:=zB (R.2 Jo);clear R;go_wp2_with fail;go_ret;exact⟨_,rfl,by rw[zA hh];exact he,M,hn⟩
end Go.Proofs.YtadiaghhackbjaaGreatDoor
