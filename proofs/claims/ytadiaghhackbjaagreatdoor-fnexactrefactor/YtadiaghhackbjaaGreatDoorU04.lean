import Derived.Laws.AppendOwnNone
import Derived.Shelf.Strings.OnBuilder
import Derived.Test.YtadiaghhackbjaaGreatDoorU01
import Derived.Test.YtadiaghhackbjaaGreatDoorU02
namespace Go.Proofs.YtadiaghhackbjaaGreatDoor
set_option linter.all false
set_option maxHeartbeats 0
set_option maxRecDepth 100000
open Proofs.Tryz RowKit
variable{B n:Nat}{os:List OpR}{p:Nat × Nat}{r:List (Nat × Nat)}{s:ByteArray}{us:List ByteArray}{v:Value}{w w':World}
theorem Ze.base{B':Nat}{ws:List JZ}(h:Ze w B v ws)(hb:B'<=B):Ze w B' v ws:=by
 obtain⟨h1,h2|⟨g,cap,H,hv,hg,h3⟩⟩:=h
 ·exact⟨h1,yS h2⟩
 ·exact⟨h1,yU ⟨g,cap,H,hv,yw hb hg,h3⟩⟩
theorem zAo.base{B':Nat}{ws:List OpR}(h:zAo w B v ws)(hb:B'<=B):zAo w B' v ws:=by
 obtain⟨h1,h2|⟨g,cap,H,hv,hg,h3⟩⟩:=h
 ·exact⟨h1,yS h2⟩
 ·exact⟨h1,yU ⟨g,cap,H,hv,yw hb hg,h3⟩⟩
def zGw(w:JY)(s:JZ)(e:Ending)(w':JY):Prop:=
 ∃(vu vo:Value)(us:List JZ)(os:List OpR)(b:JZ)(c l:Int),e=.returned (.tuple #[.agg #[vu,vo,Qs b],Qi c,Qi l])/\zy s us os b c l /\
  Ze w' w.heap.size vu us/\zAo w' w.heap.size vo os/\(∀g,vu.ownBlock=some g->vo.ownBlock≠some g)/\us.length<=20001/\os.length<=20001/\Qb w w'
theorem zBU{c l:Int}(h:zy s [] [] ByteArray.empty c l)(hb:Qb w w'):zGw w s (.returned (.tuple #[.agg #[.slice none 0 0,.slice none 0 0,Qs ⟨#[]⟩],Qi c,Qi l])) w':=
 ⟨.slice none 0 0,.slice none 0 0,[],[],ByteArray.empty,c,l,rfl,h,World.ownsRow_nil _ _ _ _,World.ownsRow_nil _ _ _ _,(fun g e=>by cases e),Js,Js,hb⟩
def zGx(w:JY)(H:Nat):Prop:=w.cell? (Qa H 0)=some (.slice none 0 0)/\w.cell? (Qa H 1)=some (.slice none 0 0)/\w.cell? (Qa H 2)=some (Qs ⟨#[]⟩)/\(∀o,w.frozen? (Qa H o)=false)
theorem zGx.below{H:Nat}(h:zGx w H)(hb:Below B w w')(hB:H<B):zGx w' H:=by
 obtain⟨h0,h1,h2,h3⟩:=h;exact⟨Jc hb hB h0,Jc hb hB h1,Jc hb hB h2,fun o=>(hb.frozen (p:=Qa H o) hB).trans (h3 o)⟩
theorem zGy{w3:JY}{U:Nat}{vu vo:Value}{b b':JZ}(hU:w.heap.size<B)(h:UnM w3 B U vu vo us os b)(hb:Qb w w3)(hi:zy s us os b' 0 0)(h1:us.length<=20001)(h2:os.length<=20001):zGw w s (.returned (.tuple #[.agg #[vu,vo,Qs b'],Qi 0,Qi 0])) ((w3.setCell (Qa U 2) (Qs b')).setCells w.heap.size 0 [vu,vo,Qs b']) /\
  zGw w s (.returned (.tuple #[.agg #[vu,vo,Qs b'],Qi 0,Qi 0])) (w3.setCells w.heap.size 0 [vu,vo,Qs b']):=by
 have hk:=fun W=>zv (zBH (g:=w.heap.size) [vu,vo,Qs b'] 0 W)
 have H:=h.hB;have nu:∀k,vu.ownBlock=some k->some w.heap.size≠some k:=fun k e x=>by injection x with x;have:=(h.ru.lt k e).1;omega
 have no:∀k,vo.ownBlock=some k->some w.heap.size≠some k:=fun k e x=>by injection x with x;have:=(h.ro.lt k e).1;omega
 have nu2:∀k,vu.ownBlock=some k->some U≠some k:=fun k e x=>h.nu (e.trans x.symm)
 have no2:∀k,vo.ownBlock=some k->some U≠some k:=fun k e x=>h.no (e.trans x.symm)
 constructor
 ·exact⟨vu,vo,us,os,b',0,0,rfl,hi,((h.ru.grown (ZJ _ U 2 _) nu2).grown (hk _) nu).base Jo,((h.ro.grown (ZJ _ U 2 _) no2).grown (hk _) no).base Jo,h.ne,h1,h2,zM (yk _) _ 0 _ (hb.setCell (p:=Qa U 2) (Jo:w.heap.size<=U) _)⟩
 ·exact⟨vu,vo,us,os,b',0,0,rfl,hi,(h.ru.grown (hk _) nu).base Jo,(h.ro.grown (hk _) no).base Jo,h.ne,h1,h2,zM (yk _) _ 0 _ hb⟩
theorem zGz{l x:JZ}(h:x∈wds l):x.size<=l.size:=by
 unfold wds at h;obtain⟨p,_,rfl⟩:=List.mem_map.1 h;rw[Za];omega
def zFA(s:JZ)(ls:List (Nat×Nat))(n:Nat)(us:List JZ)(os:List OpR):Prop:=∀u o b c l,UnF s ls n us os u o b c l->zy s u o b c l
theorem zFA.start(hs:s.size<=20000):zFA s (pcs 10 s 0) 1 [] []:=fun u o b c l h=>yU ⟨hs,h⟩
theorem zFA.begin(h:zFA s (p::r) n us os)(hw:wds (s.extract p.1 p.2)=[zAK]):zy s us os (zBa s p.2) 0 0:=
 h _ _ _ _ _ (yS ⟨hw,rfl,rfl,rfl,rfl,rfl⟩)
theorem zFA.bad(h:zFA s (p::r) n us os)(hw:wds (s.extract p.1 p.2)≠[zAK])(hl:∀us' os',¬ zBA (wds (s.extract p.1 p.2)) us os us' os'):zy s [] [] ByteArray.empty 2 (n:Int):=
 h _ _ _ _ _ (yU ⟨hw,yU ⟨hl,rfl,rfl,rfl,rfl,rfl⟩⟩)
theorem zFA.next{us':List JZ}{os':List OpR}(h:zFA s (p::r) n us os)(hw:wds (s.extract p.1 p.2)≠[zAK])(hl:zBA (wds (s.extract p.1 p.2)) us os us' os'):zFA s r (n+1) us' os':=
 fun u o b c l hu=>h _ _ _ _ _ (yU ⟨hw,yS ⟨us',os',hl,hu⟩⟩)
theorem zFA.fin(h:zFA s [] n us os):zy s [] [] ByteArray.empty 3 0:=h _ _ _ _ _ ⟨rfl,rfl,rfl,rfl,rfl⟩
def ZS(w:JY)(v:Value)(os:List OpR):Prop:=∃a c,v=.slice a os.length c/\((os.length=0/\a=none/\c=0)\/∃g,a=some (Qa g 0)/\g<w.heap.size/\Ops w g 0 os)
theorem zAo.ops{w:JY}{B:Nat}{v:Value}{os:List OpR}(h:zAo w B v os):ZS w v os:=by
 have h':=h;obtain⟨_,⟨h1,h2⟩|⟨g,cap,H,h1,_⟩⟩:=h'
 ·exact⟨none,0,by rw[h1,h2],yS ⟨h2,rfl,rfl⟩⟩
 ·subst h1;exact⟨_,cap,rfl,yU ⟨g,rfl,(h.lt g rfl).2,(zDl h).2.ops⟩⟩
theorem ZS.grown{row:Option Nat}(h:ZS w v os)(hg:w.grownBy w' row)(H:∀g,v.ownBlock=some g->row≠some g):ZS w' v os:=by
 obtain⟨a,c,rfl,h⟩:=h;refine⟨a,c,rfl,h.imp id ?_⟩;rintro⟨g,rfl,h1,h2⟩;refine⟨g,rfl,yl h1 hg.size,fun i hi=>?_⟩;obtain⟨q0,q1,q2,q3⟩:=h2 i hi;have e:=fun o=>zK hg h1 (H g rfl) o
 exact⟨(e _).trans q0,(e _).trans q1,(e _).trans q2,(e _).trans q3⟩
theorem zNS(w:JY)(o1 o2 o3:Obj):((((w.alloc o1).alloc o2).alloc o3).alloc (.cells #[] 33)).ownsRow (w.heap.size+3) 33 4 (Ql (w.heap.size+1+1+1) 0 0) 0 []:=by
 have h:=yG (base:=w.heap.size+3) (e:=33) (size:=4) (((w.alloc o1).alloc o2).alloc o3) #[] 0 Js (ym _) rfl;simpa using h
theorem zP9{ops:Array Oper}{rest:List Oper}{o:Oper}{a:Act}{Q:Exit->Act->World->Prop}(y:o.guard=none)(s x:Operand)(ho:o.op=.call { callee:=.builtin .append,args:=#[s,x],argTypes:=#[61,61] })(base g c:Nat)(xs ys:List OpR)(v2:Value)(hs:a.eval s = Ql g xs.length c)(k:w.ownsRow base 33 4 (Ql g xs.length c) xs.length (zl xs))(hx:a.eval x=v2)(h2:ZS w v2 ys)(hm:xs.length+ys.length<=1048576)(K:base<=w.heap.size)(h:∀g' c' w',w'.ownsRow base 33 4 (Ql g' (xs++ys).length c') (xs++ys).length (zl (xs++ys))->w.grownBy w' (some g)->wpList prog ops Q rest (a.put o.dst (Ql g' (xs++ys).length c')) w'):wpList prog ops Q (o::rest) a w:=by
 obtain⟨i0,hi,p,j,Y⟩:=zS zEb;obtain⟨a2,c2,rfl,⟨h0,rfl,rfl⟩|⟨g2,rfl,P,q⟩⟩:=h2
 ·have hy:ys=[]:=jd.1 h0;subst hy;refine wpList_append_own_none y s x 61 ho base 33 i0 4 underlying61 hi _ xs.length (zl xs) hs k hx ?_;have:=h g c w (Ju k) (zE (yJ _ _) _);simpa using this
 ·refine wpList_append_own w y s x 61 ho base 33 i0 _ 4 40 underlying61 hi p j Y rfl Jd _ xs.length (zl xs) hs k (Qa g2 0) ys.length c2 (zl ys) hx (zDD ys) (zMz q) (zAi ys) Jm Jo K ?_;intro v' w' H J X;obtain⟨g',c',rfl⟩:=zDE H (by simp[X]);rw[<-zAS,<-yq] at H;have:=h g' c' w' H (by simpa[Value.ownBlock] using J);rw[<-yq];exact this
theorem zG0(v v':Value)(xs ys zs:List OpR)(D:Hid (zs=xs++ys))(w:JY)(hm:xs.length+ys.length<=1048576)(hx:ZS w v xs)(hy:ZS w v' ys):Calls prog 72 #[.agg #[v],.agg #[v']] w fun e w'=>(∃h cap,e=.returned (.agg #[Ql h (zA5 zs zs.length).length cap])/\w.heap.size<=h/\zBB w' h (zA5 zs zs.length) (zA5 zs zs.length).length)/\Qb w w':=by
 obtain⟨i0,hi,G,L,o⟩:=zS zEb;have F:=zNS w;have HX:Hid (∀o1 o2 o3 o4,ZS ((((w.alloc o1).alloc o2).alloc o3).alloc o4) v xs):=fun o1 o2 o3 o4=>hx.grown (row:=none) (zE ((((zC w o1).alloc Js o2).alloc Jq o3).alloc Jq o4) none) (fun g _ e=>by cases e)
 have HO:=zB F;have HY:=zB hy;have HI:=zB hi;have HZ:=zB (yK G (yK L o));have hb:=hx;have T:=hy;obtain⟨a1,c1,rfl,_⟩:=hb;obtain⟨a2,c2,rfl,_⟩:=T;clear F hx hy hi G L o;go_enter func72,ntmps72;go_wp2_with (at_builtin;refine zP9 rfl (.tmp 9) (.tmp 11) rfl (w.heap.size+3) _ _ [] xs _ rfl (zA HO _ _ _) rfl (zA HX _ _ _ _) Jq Js ?next);case next=>
  intro ga ca w1 hown1 P;try simp only[List.nil_append] at hown1
  try simp only[List.nil_append]
  have V:Below (w.heap.size+3) _ w1:=zH3 P Js (fun k hk=>by simp at hk;omega);have c:Qb w w1:=((((zC _ _).alloc Js _).alloc Jq _).alloc Jq _).trans (V.mono Jo);have d1:w1.cell? (Qa (w.heap.size+1) 0)=some (.slice a2 ys.length c2):=by rw[V.cell (p:=(Qa (w.heap.size+1) 0)) (show w.heap.size+1<_ by omega)];simp[go_sem]
  have d2:w1.cell? (Qa (w.heap.size+1+1) 0)=some (.slice none 0 0):=by rw[V.cell (p:=(Qa (w.heap.size+1+1) 0)) (show w.heap.size+1+1<_ by omega)];simp[go_sem]
  have d3:w1.frozen? (Qa (w.heap.size+1+1) 0)=false:=by rw[V.frozen (p:=(Qa (w.heap.size+1+1) 0)) (show w.heap.size+1+1<_ by omega)];simp[go_sem]
  have z1:w.heap.size+3<=w1.heap.size:=Jz V.size
  have hc:=(hown1.lt ga rfl).1;have O:=zB hown1;have m:=zB (HY.grown (row:=none) (zE c none) (fun g _ e=>by cases e));clear hown1 P V HY HX HO;go_wp2_with (at_builtin;refine zP9 rfl (.tmp 13) (.tmp 15) rfl (w.heap.size+3) ga ca xs ys _ rfl O rfl m hm z1 ?next);case next=>
   intro gb cb w2 hown2 J;have U:Below (w.heap.size+3) w1 w2:=zH3 J z1 (fun k hk=>by injection hk with hk;omega);have M:Qb w w2:=c.trans (U.mono Jo);have e2:w2.cell? (Qa (w.heap.size+1+1) 0)=some (.slice none 0 0):=(U.cell (p:=(Qa (w.heap.size+1+1) 0)) (show w.heap.size+1+1<_ by omega)).trans d2;have e3:w2.frozen? (Qa (w.heap.size+1+1) 0)=false:=(U.frozen (p:=(Qa (w.heap.size+1+1) 0)) (show w.heap.size+1+1<_ by omega)).trans d3;have z2:w.heap.size+3<=w2.heap.size:=yw z1 U.size;have R:zs.length<=1048576:=by rw[zA D];simp;omega
   have a:xs.length+ys.length=zs.length:=by rw[zA D];simp
   rw[a];rw[<-zA D,a] at hown2;clear a;obtain⟨hj,A⟩:=zDl hown2;obtain⟨hg,W⟩:=zRo hown2;have HF:=zB A;have I:=A.1;have f:(w2.alloc (.cells #[] 33)).ownsRow w2.heap.size 33 4 (Ql w2.heap.size 0 0) 0 (zl []):=by
    rw[zOi];simpa using yG (base:=w2.heap.size) (e:=33) (size:=4) w2 #[] 0 (yk _) (ym _) rfl
   have N:=zB f;clear hown2 J U O m d1 d2 d3 hc hm A f c z1;go_wp2_with fail;go_loopw [6,7] (fun hd i wr=>∃(k go co:Nat),k<=zs.length/\i=Qi k/\hd = Ql go (zA5 zs k).length co/\Hid (wr.ownsRow w2.heap.size 33 4 (Ql go (zA5 zs k).length co) (zA5 zs k).length (zl (zA5 zs k)))/\Qb w2 wr) (fun _ i _=>zs.length-(intOf i).toNat);case atStart=>exact⟨0,w2.heap.size,0,ym _,rfl,rfl,N,zC _ _⟩
   case round=>
    clear N;obtain⟨k,go,co,hk,rfl,rfl,j,H⟩:=hrel;by_cases Z:k<zs.length
    ·have u:=HF.ops.below H HF.1;obtain⟨a0,a1,a2,a3⟩:=u k Z;simp only[yY] at a0 a1 a2 a3;have hh:(k:Int)<(zs.length:Int):=Jo;have hf:(k:Int)<=(cb:Int):=Jo;have zgb:gb<wr.heap.size:=yl I H.size;have r:=zB u;clear u;go_wp2_with fail;go_region_held (fun w'=>w'.cell? (Qa gb (k*4))=some (Qs (atO zs k).s)/\w'.cell? (Qa gb (k*4+1))=some (Qi (atO zs k).k)/\w'.cell? (Qa gb (k*4+2))=some (Qi (atO zs k).l)/\w'.cell? (Qa gb (k*4+3))=some (Qi (atO zs k).sd)) (go_keep)
      (first|(go_at_call 22;refine(zKv gb _ k zs (atO zs k) _ R Jo (show Ops wr.drew gb 0 zs from r) zgb).mono ?_;rintro e w3 ⟨⟨v,rfl,hv⟩,hb3⟩;have HV:=zB hv;have X:=zB ((yJ wr.heap.size wr).drew.trans hb3);have q0:=(hb3.cell (p:=(Qa gb (k*4))) zgb).trans (show wr.drew.cell? (Qa gb (k*4))=_ from a0);have q1:=(hb3.cell (p:=(Qa gb (k*4+1))) zgb).trans (show wr.drew.cell? (Qa gb (k*4+1))=_ from a1);have q2:=(hb3.cell (p:=(Qa gb (k*4+2))) zgb).trans (show wr.drew.cell? (Qa gb (k*4+2))=_ from a2);have q3:=(hb3.cell (p:=(Qa gb (k*4+3))) zgb).trans (show wr.drew.cell? (Qa gb (k*4+3))=_ from a3);clear hv hb3))
     have K:=H.trans (X.mono H.size);have x:=zB (j.kept (w':=w3) (row:=none) ⟨X.os,X.tape,X.output,X.size,fun i hi _=>X.block i hi⟩ (yU Jb));have hl:=zPr zs k;clear j X H a0 a1 a2 a3;cases v
     ·have C:=zB (zM9 (fun h=>Bool.false_ne_true (HV.2 h)));clear HV;go_wp2_with (at_builtin;refine wpList_append_own _ rfl (.tmp 33) (.tmp 38) 61 rfl w2.heap.size 33 i0 _ 4 40 underlying61 HI HZ.1 HZ.2.1 HZ.2.2 rfl Jd _ (zA5 zs k).length (zl (zA5 zs k)) rfl (x.alloc _) (Qa w3.heap.size 0) 1 1 (zl [atO zs k]) rfl rfl (zD9 w3 (atO zs k)) (zAi _) ?b1 ?b2 ?b3 ?next);case b1=>exact Jm
      case b2=>omega
      case b3=>have:=K.size;simp;omega
      case next=>
       intro v4 w4 Q Y b;have S:=x.lt go rfl;have d:Qb w2 w4:=(K.alloc K.size _).grown Y (by have:=K.size;simp;omega) (fun q hq=>by simp[Value.ownBlock] at hq;omega);obtain⟨g4,c4,rfl⟩:=zDE Q (by simp[b]);have y:(zA5 zs (k+1)).length=(zA5 zs k).length+1:=by rw[zA C];simp
       rw[<-zAS,<-zA C,<-y] at Q;have ha:=zB Q;rw[<-y];clear Q Y b x y C;go_wp2;exact⟨⟨k+1,g4,c4,Jo,Jn,rfl,ha,d⟩,Ji⟩
     ·have n:=zB (zPq (HV.1 rfl));clear HV;go_wp2;refine⟨⟨k+1,go,co,Jo,Jn,?_,?_,K⟩,Ji⟩
      ·rw[zA n]
      ·rw[zA n];exact x
    ·have B:k=zs.length:=Jo;have c2:wr.cell? (Qa (w.heap.size+1+1) 0)=some (.slice none 0 0):=(H.cell (p:=(Qa (w.heap.size+1+1) 0)) (show w.heap.size+1+1<_ by omega)).trans e2;have c3:wr.frozen? (Qa (w.heap.size+1+1) 0)=false:=(H.frozen (p:=(Qa (w.heap.size+1+1) 0)) (show w.heap.size+1+1<_ by omega)).trans e3;obtain⟨S,E⟩:=zDl j;have t:=zB E;have he:=zB B;clear E j B e2 e3;go_wp2;have B:=zA he;subst B;refine yN (v:=.agg #[Ql go (zA5 zs zs.length).length co]) (by simp[results,results72,go_sem,c2]) rfl ⟨⟨go,co,rfl,Jo,?_⟩,?_⟩
     ·exact t.setCell _ _ Jq
     ·exact(M.trans (H.mono Jo)).setCell Jq _
theorem zJU:zO [] 0:=yU ⟨Js,yU ⟨fun j h=>by simp at h,yU ⟨fun⟨i,j,_,h,_⟩=>by simp at h,yU ⟨rfl,fun⟨i,j,_,h,_⟩=>by simp at h⟩⟩⟩⟩
theorem zIX(a:Option Addr)(c:Nat)(w:JY):Calls prog 23 #[.agg #[.slice a 0 c]] w fun e w'=>e=.returned (Qi 0)/\Qb w w':=by
 go_enter func23,ntmps23;go_wp2;refine wp_loop_rounds 1 ?_;rw[rounds_succ];go_wp2;refine wp_loop_rounds 3 ?_;rw[rounds_succ];go_wp2;refine wp_loop_rounds 1 ?_;rw[rounds_succ];go_wp2;rw[rounds_succ];go_wp2;refine wp_loop_rounds 1 ?_;rw[rounds_succ];go_wp2;rw[rounds_succ];go_wp2;go_ret;exact⟨rfl,zC _ _⟩
theorem zFQ(v:Value)(xs:List OpR)(w:JY)(hm:xs.length<=1048576)(hw:ZS w v xs)(hs:ZA xs):Calls prog 23 #[.agg #[v]] w fun e w'=>(∃c,e=.returned (Qi c)/\zO xs c)/\Qb w w':=by
 obtain⟨a,c,rfl,⟨h0,_⟩|⟨g,rfl,hg,h⟩⟩:=hw
 ·have e:xs=[]:=jd.1 h0;subst e;go_call zIX a c w as e w' ⟨rfl,hb⟩;exact⟨⟨0,rfl,zJU⟩,hb⟩
 ·exact zAM g 0 c xs w hm h hs hg
open Go.Shelf
def zID:Go.Shelf.Ren:=⟨fun|156=>109|165=>158|166=>159|169=>160|240=>197|241=>198|276=>218|277=>219|n=>n,fun|31=>87|9=>9|3=>3|4=>4|0=>0|20=>20|72=>229|76=>225|70=>227|37=>102|75=>224|127=>274|164=>299|5=>5|80=>231|n=>n,fun|n=>n⟩
theorem zUQ:Go.Proofs.Lays.n156 prog zID:=by constructor<;>first|kernel_rfl|(intro w;kernel_rfl)
theorem zG1:Builder.Extra prog zID:={
 sizeBuilder:=Jk
 liesBuilder:=Jk
 t5:=underlying5
 a5:=Tryz.isAgg5
 z5:=Tryz.sizeOf5
 v5:=Tryz.zeroValue5
 infoByte:=Jk
 cellsByte:=Jk
 sizeByte:=Jk
 neB5:=by decide }
theorem zNT(bk o c:Nat)(xs:List JZ)(sep:JZ)(w:JY)(h:∀(j:Nat) x,xs[j]?=some x->w.cell? (Qa bk (o+j))=some (Qs x))(K:bk<w.heap.size)(hN:xs.length<=140737488355328)(H:xs.length<=c)(k:(Lib.join (xs.map (·.data.toList)) sep.data.toList).length<=140737488355328):Calls prog 109 #[.slice (some (Qa bk o)) xs.length c,Qs sep] w fun e w'=>e=.returned (Qs ⟨(Lib.join (xs.map (·.data.toList)) sep.data.toList).toArray⟩)/\Qb w w':=Any.strings_Join zUQ zG1 bk o c xs sep w h K hN H k
end Go.Proofs.YtadiaghhackbjaaGreatDoor
