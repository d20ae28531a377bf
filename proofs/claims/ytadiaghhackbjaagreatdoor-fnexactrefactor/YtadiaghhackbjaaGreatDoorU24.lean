import Derived.Shelf.Strings.Cut
import Derived.Shelf.Strings.Split
import Derived.Shelf.Strconv.Atoi
import Derived.Lib.SmallJoins
import Derived.Deep.DeepCutAuto
import Derived.Deep.AppendLies
import Derived.Test.YtadiaghhackbjaaGreatDoorU02
namespace Go.Proofs.YtadiaghhackbjaaGreatDoor
set_option linter.all false
set_option maxHeartbeats 0
set_option maxRecDepth 100000
open Proofs.Tryz RowKit Shelf
variable{w:World}
def zN9:Go.Shelf.Ren:=⟨fun|145=>171|220=>203|219=>211|217=>207|225=>228|224=>229|267=>230|266=>226|314=>242|n=>n,fun|9=>9|4=>4|59=>241|3=>3|5=>5|46=>305|146=>324|51=>323|n=>n,fun|1=>0|n=>n⟩
theorem zVH:Go.Proofs.Lays.n145 prog zN9:=by constructor<;>first|kernel_rfl|(intro w;kernel_rfl)
def zOA:Go.Shelf.Ren:=⟨fun|146=>105|221=>151|268=>191|138=>192|143=>193|195=>208|197=>209|218=>210|219=>211|260=>227|217=>207|225=>228|224=>229|267=>230|266=>226|314=>242|n=>n,fun|9=>9|31=>87|3=>3|4=>4|0=>0|105=>290|21=>21|5=>5|46=>305|119=>319|139=>322|138=>321|146=>324|51=>323|n=>n,fun|1=>0|3=>3|4=>4|n=>n⟩
theorem zQc:Go.Proofs.Lays.n146 prog zOA:=by constructor<;>first|kernel_rfl|(intro w;kernel_rfl)
def zOB:Go.Shelf.Ren:=⟨fun|172=>153|244=>194|245=>195|247=>212|279=>213|280=>214|281=>215|282=>216|287=>231|316=>232|171=>156|205=>233|321=>243|322=>244|243=>196|246=>217|283=>234|284=>235|285=>236|286=>237|129=>246|317=>245|318=>247|319=>248|320=>249|337=>250|338=>251|n=>n,fun|9=>9|3=>3|75=>224|76=>225|4=>4|5=>5|167=>292|37=>102|0=>0|85=>293|2=>2|168=>295|53=>306|175=>307|46=>305|210=>310|127=>274|145=>329|143=>327|21=>21|171=>312|173=>315|212=>331|51=>323|20=>20|213=>332|232=>336|233=>337|80=>231|n=>n,fun|15=>1|16=>2|17=>5|18=>6|19=>7|n=>n⟩
theorem zVI:Go.Proofs.Lays.n172 prog zOB:=by constructor<;>first|kernel_rfl|(intro w;kernel_rfl)
def zD7(w:JY):Prop:=∃m:Int,w.cell? (Qa 0 0)=some (Qi m)
theorem zD7.lt(h:zD7 w):0<w.heap.size:=by
 obtain⟨m,h⟩:=h;exact World.block_lt_of_cell? _ _ h
theorem zD7.below{w':JY}(h:zD7 w)(hb:Qb w w'):zD7 w':=by
 have hl:=h.lt;obtain⟨m,h⟩:=h;exact⟨m,Jc hb hl h⟩
theorem zD7.below'{w':JY}{B:Nat}(h:zD7 w)(hb:Below B w w')(hB:0<B):zD7 w':=by
 obtain⟨m,h⟩:=h;exact⟨m,Jc hb hB h⟩
theorem zHM{B:Nat}{a:JY}(h:Below B a w)(n:Nat):Below B a (w.drewN n):=h.trans ⟨rfl,rfl,rfl,yk _,fun _ _=>rfl⟩
theorem zWh(s r:JZ)(a:Nat)(hr:r=s.extract a s.size)(ha:a<=s.size)(hs:s.size<=20000)(w:JY)(hm:zD7 w):Calls prog 171 #[Qs r,Qs ⟨#[10]⟩] w fun e w'=>e=.returned (.tuple #[Qs (s.extract a (nx 10 s a)),Qs (zBa s (nx 10 s a)),.bool (decide (nx 10 s a<s.size))])/\Qb w w':=by
 obtain⟨m,hm⟩:=hm;subst hr;obtain⟨e1,e2,e3⟩:=zV8 s a ha;go_call Any.strings_Cut zVH (s.extract a s.size) ⟨#[10]⟩ m w (by rw[Za];omega) hm as e w' ⟨rfl,n,rfl⟩;refine⟨?_,zHM (yJ _ _) n⟩;have e1':(⟨(Lib.cut (s.extract a s.size).data.toList (⟨#[10]⟩:JZ).data.toList).1.toArray⟩:JZ)=s.extract a (nx 10 s a):=e1;have e2':(⟨(Lib.cut (s.extract a s.size).data.toList (⟨#[10]⟩:JZ).data.toList).2.1.toArray⟩:JZ)=zBa s (nx 10 s a):=e2;have e3':(Lib.cut (s.extract a s.size).data.toList (⟨#[10]⟩:JZ).data.toList).2.2=decide (nx 10 s a<s.size):=e3;rw[e1',e2',e3']
theorem zRK(s:JZ)(hs:s.size<=20000)(w:JY)(hm:zD7 w):Calls prog 105 #[Qs s,Qs ⟨#[32]⟩] w fun e w'=>∃ps:List JZ,Hid (zI2 ps=wds s)/\ps.length<=s.size+1/\e=.returned (Ql w.heap.size ps.length ps.length)/\w'=w.alloc (.cells (ps.map Value.string).toArray 9):=by
 obtain⟨m,hm⟩:=hm;have h1:1<=(⟨#[32]⟩:JZ).size:=yk _;go_call Any.strings_Split zQc Jk s ⟨#[32]⟩ m w Jo hm h1 as e w' ⟨rfl,rfl⟩;have hl:=Lib.splitB_all ⟨#[32]⟩ h1 0 _ s rfl;have hc:=Lib.countB_le ⟨#[32]⟩ h1 s.size s (yk _);refine⟨Lib.splitB ⟨#[32]⟩ 0 (Lib.countB s ⟨#[32]⟩) s,zB (zOk s),Jo,by rw[hl],rfl⟩
theorem zOC(t:JZ)(h:∀i,i<t.size->48<=(bt t i).toNat/\(bt t i).toNat<=57):∀k,k<=t.size->Lib.decFrom 0 (t.data.toList.take k)=some (zAY t k)
 |0,_=>by simp[Lib.decFrom,zAY]
 |k+1,hk=>by
  refine Lib.decFrom_take t.data.toList k 0 (zAY t k) (bt t k) _ (zOC t h k Jo) (zIh Jo) ?_;unfold Lib.digitVal;rw[yQ (h k Jo)]
theorem zTL(t:JZ)(h:zRn t):Lib.atoi t.data.toList=some (zAY t t.size:Int):=by
 obtain⟨h1,h2,h3⟩:=h;have hd:=zOC t h3 t.size (yk _);rw[List.take_of_length_le (by exact yk _)] at hd;have h0:=zIh (s:=t) (j:=0) Jo;obtain⟨b,r,hl⟩:∃b r,t.data.toList=b::r:=by
  cases hx:t.data.toList with
  |nil=>rw[hx] at h0;simp at h0
  |cons b r=>exact⟨b,r,rfl⟩
 rw[hl] at hd h0 ⊢;have hb:b=bt t 0:=Ju h0
 have hz:=h3 0 Jo;rw[<-hb] at hz;have n45:(b==45)=false:=by
  simp only[yX,ne_eq];rintro rfl;exact yR hz.1 Jd
 have n43:(b==43)=false:=by
  simp only[yX,ne_eq];rintro rfl;exact yR hz.1 Jd
 unfold Lib.atoi Lib.decNat;simp[n45,n43,hd]
theorem zVJ(t:JZ)(h:zFN t=true)(w:JY):Calls prog 153 #[Qs t] w fun e w'=>e=.returned (.tuple #[Qi (zAY t t.size:Int),.nilIface])/\Qb w w':=by
 have hl:=(zEE t).1 h;go_call Any.strconv_Atoi zVI t _ (Jy hl.2.1) (zTL t hl) w as e w' ⟨rfl,u,rfl⟩;exact⟨rfl,Joins.below_bytesWorld _ _ _ _ (yk _)⟩
theorem zJ1(a:Option Addr)(c n:Nat)(w:JY)(hn:n<3):Calls prog 106 #[.slice a n c] w fun e w'=>(∃o:OpR,e=.returned (.tuple #[.agg #[Qs o.s,Qi o.k,Qi o.l,Qi o.sd],.bool false]))/\Qb w w':=by
 have h:(n:Int)<3:=Jo;go_enter func106,ntmps106;go_wp2;refine yN (v:=.tuple #[.agg #[Qs ⟨#[]⟩,Qi 0,Qi 0,Qi 0],.bool false]) ?res rfl ⟨⟨OpR.zero,rfl⟩,?_⟩;case res=>simp[results,results106,go_sem]
 exact zC _ _
theorem zVK{k:JZ}:(zDO k=1/\k=zAl)\/(zDO k=2/\k=zBj)\/(zDO k=3/\k=Z9)\/(zDO k=0/\k≠zAl/\k≠zBj/\k≠Z9):=by
 unfold zDO;by_cases h1:k=zAl
 ·rw[yQ h1];exact yS ⟨rfl,h1⟩
 by_cases h2:k=zBj
 ·rw[yP h1,yQ h2];exact yU (yS ⟨rfl,h2⟩)
 by_cases h3:k=Z9
 ·rw[yP h1,yP h2,yQ h3];exact yU (yU (yS ⟨rfl,h3⟩))
 ·rw[yP h1,yP h2,yP h3];exact yU (yU (yU ⟨rfl,h1,h2,h3⟩))
theorem zIe(g c n:Nat)(k t l sd:JZ)(w:JY)(hn:3<=n)(d:l.size<=maxLen)(c0:w.cell? (Qa g 0)=some (Qs k))(c1:w.cell? (Qa g 1)=some (Qs t))(c2:w.cell? (Qa g 2)=some (Qs l))(c3:4<=n->w.cell? (Qa g 3)=some (Qs sd)):Calls prog 106 #[Ql g n c] w (zLt w n k t l sd):=by
 have hg:g<w.heap.size:=World.block_lt_of_cell? _ _ c0;have O:g≠w.heap.size:=Jo;have o:¬ (n:Int)<3:=Jo;have i:(0:Int)<(n:Int):=Jo;have L:(1:Int)<(n:Int):=Jo;have G:(2:Int)<(n:Int):=Jo;have C:=zB c3;clear c3;cases hl:zFN l
 ·have HX:Hid (∀W:JY,Calls prog 152 #[Qs l] W fun e w'=>e=.returned (.bool false)/\w'=W):=fun W=>by have h:=zE4 l W d;rw[hl] at h;exact h
  have HA:=zB (zNM (n:=n) (k:=k) (t:=t) (sd:=sd) hl);clear hl;go_enter func106,ntmps106;go_wp2_with (go_at_call 152;(with_reducible refine((zA HX) _).mono ?_);rintro e w1 ⟨rfl,hx⟩;obtain rfl:=hx.symm;clear hx);refine yN (v:=.tuple #[.agg #[Qs ⟨#[]⟩,Qi 0,Qi 0,Qi 0],.bool false]) ?res rfl ⟨OpR.zero,false,rfl,yU ⟨rfl,HA⟩,?_⟩;case res=>simp[results,results106,go_sem]
  exact zC _ _
 obtain⟨V,hV⟩:∃V:Nat,V=zAY l l.size:=⟨_,rfl⟩;have HX:Hid (∀W:JY,Calls prog 152 #[Qs l] W fun e w'=>e=.returned (.bool true)/\w'=W):=fun W=>by have h:=zE4 l W d;rw[hl] at h;exact h
 have HT:Hid (∀W:JY,Calls prog 153 #[Qs l] W fun e w'=>e=.returned (.tuple #[Qi V,.nilIface])/\Qb W w'):=fun W=>by have h:=zVJ l hl W;rw[<-hV] at h;exact h
 have P:=zB hl;have HV:=zB hV;clear hl hV;obtain⟨KI,j⟩:∃KI:Int,KI=zDO k:=⟨_,rfl⟩;have HK:Hid (∀W:JY,Calls prog 154 #[Qs k] W fun e w'=>e=.returned (Qi KI)/\w'=W):=fun W=>by rw[j];exact zJJ k W
 have K:=zB j;clear j;have HZ:=zB (show zEo (w.alloc (.cells #[Qs ⟨#[]⟩,Qi 0,Qi 0,Qi 0] 33)) w.heap.size OpR.zero from⟨⟨by simp[go_sem,OpR.zero],by simp[go_sem,OpR.zero],by simp[go_sem,OpR.zero],by simp[go_sem,OpR.zero]⟩,Jg,Jg,Jg,Jg⟩);go_enter func106,ntmps106;go_wp2_with (first|(go_at_call 152;(with_reducible refine((zA HX) _).mono ?_);rintro e w1 ⟨rfl,hx⟩;obtain rfl:=hx.symm;clear hx)|(go_at_call 153;(with_reducible refine((zA HT) _).mono ?_);rintro e w1 ⟨rfl,hb1⟩;have X:=zB ((zC w _).trans (hb1.mono Js));have A:=zB (HZ.below hb1 Js);have z1:w.heap.size+1<=w1.heap.size:=(Jz hb1.size);clear hb1));have d0:w1.cell? (Qa g 0)=some (Qs k):=Jc X hg c0;have d1:w1.cell? (Qa g 1)=some (Qs t):=Jc X hg c1;have b:Hid (4<=n->w1.cell? (Qa g 3)=some (Qs sd)):=fun h=>Jc X hg (C h)
 clear c0 c1 c2 C HZ HX HT;go_cut [6] (fun s4 wc=>∃b4:Nat,s4 = Qp b4/\w.heap.size<b4/\b4<wc.heap.size/\Hid (zEo wc b4 ⟨t,KI,(V:Int),0⟩)/\Hid (Qb w1 wc));case first=>
  have m:g<w1.heap.size:=Jo;go_region_held (fun w'=>w'.cell? (Qa g 0)=some (Qs k)/\w'.cell? (Qa g 1)=some (Qs t)) (go_keep)
   (first|(go_at_call 154;have D:=(zA HK);(with_reducible refine(D _).mono ?_);rintro e w2 ⟨rfl,hx⟩;obtain rfl:=hx.symm;clear hx D))
  all_goals
   go_wp2_with fail
   go_meet
   case rel=>
    go_light;exact⟨w1.heap.size,rfl,Jo,Js,zB ⟨⟨Jg,Jg,Jg,Jg⟩,Jg,Jg,Jg,Jg⟩,zB ((zC _ _).drew)⟩
 case rest=>
  obtain⟨b4,rfl,M,I,u,y⟩:=hcut;have Q:=zB (X.trans (y.mono Jo));have U:=zB (A.below y Jo);obtain⟨⟨p0,p1,p2,p3⟩,f0,f1,f2,f3⟩:=zA u;obtain⟨⟨r0,r1,r2,r3⟩,z0,z1',z2,z3⟩:=zA U;simp only[OpR.zero] at p0 p1 p2 p3 r0 r1 r2 r3;have e1:b4≠w.heap.size:=Jo;have e2:w.heap.size≠b4:=Jo;have e3:b4≠g:=Jo;have e4:g≠b4:=Jo;have f:Hid (4<=n->wc.cell? (Qa g 3)=some (Qs sd)):=fun h=>Jc y Jh (b h)
  clear u U b d0 d1 HK A y X;rcases zVK (k:=k) with⟨hk,q⟩|⟨hk,q⟩|⟨hk,q⟩|⟨hk,a,B,E⟩
  ·have H:=zB (zJO (n:=n) (t:=t) (sd:=sd) P q);obtain rfl:KI=1:=K.trans hk;by_cases h3:n=3
   ·have HA:=zB (by rw[zA H,yQ h3,zA HV]:zAO n k t l sd=some ⟨t,1,(V:Int),0⟩);have J:((n:Int)==3)=true:=Jq;clear h3 H hk q K;go_wp2;refine yN (v:=.tuple #[.agg #[Qs t,Qi 1,Qi V,Qi 0],.bool true]) ?res rfl ⟨⟨t,1,(V:Int),0⟩,true,rfl,yS ⟨rfl,HA⟩,?_⟩;case res=>simp[results,results106,go_sem,r0,r1,r2,r3,e1,e2,e3,e4]
    exact zM (yk _) [Qs t,Qi 1,Qi V,Qi 0] 0 _ Q
   ·have HA:=zB (by rw[zA H,yP h3]:zAO n k t l sd=none);have J:((n:Int)==3)=false:=Jq;clear h3 H hk q K;go_wp2;refine yN (v:=.tuple #[.agg #[Qs t,Qi 1,Qi V,Qi 0],.bool false]) ?res rfl ⟨⟨t,1,(V:Int),0⟩,false,rfl,yU ⟨rfl,HA⟩,?_⟩;case res=>simp[results,results106,go_sem,r0,r1,r2,r3,e1,e2,e3,e4]
    exact zM (yk _) [Qs t,Qi 1,Qi V,Qi 0] 0 _ Q
  ·have H:=zB (zK2 (n:=n) (t:=t) (sd:=sd) P q);obtain rfl:KI=2:=K.trans hk;by_cases h4:n=4
   ·have F:((n:Int)==4)=true:=Jq;have N:(3:Int)<(n:Int):=Jo;have k3:=(zA f) Jo;obtain⟨S,hS⟩:∃S:Int,S=Z2 sd:=⟨_,rfl⟩;have HS:Hid (∀W:JY,Calls prog 155 #[Qs sd] W fun e w'=>e=.returned (Qi S)/\w'=W):=fun W=>by rw[hS];exact zJI sd W
    have HA:=zB (show ∀v:Bool,v=(S != 0)->(v=true/\zAO n k t l sd=some ⟨t,2,(V:Int),S⟩)\/(v=false/\zAO n k t l sd=none) from fun v hv=>by
     rw[zA H]
     by_cases Y:S=0
     ·right
      exact⟨by rw[hv];simp[Y],by rw[yP (fun x=>x.2 (hS.symm.trans Y))]⟩
     ·left
      exact⟨by rw[hv];simp[Y],by rw[yQ ⟨h4,fun x=>Y (hS.trans x)⟩,zA HV,hS]⟩)
    clear H hS h4 hk q K;go_wp2_with (first|(go_at_call 155;(with_reducible refine((zA HS) _).mono ?_);rintro e w2 ⟨rfl,hx⟩;obtain rfl:=hx.symm;clear hx));go_region;go_wp2;refine yN (v:=.tuple #[.agg #[Qs t,Qi 2,Qi V,Qi S],.bool (S != 0)]) ?res rfl ⟨⟨t,2,(V:Int),S⟩,(S != 0),rfl,HA _ rfl,?_⟩;case res=>simp[results,results106,go_sem,r0,r1,r2,r3,e1,e2,e3,e4]
    exact zM (yk _) [Qs t,Qi 2,Qi V,Qi S] 0 _ (Q.setCell (p:=Qa b4 3) (Jo:w.heap.size<=b4) _).drew
   ·have HA:=zB (by rw[zA H,yP (fun x=>h4 x.1)]:zAO n k t l sd=none);have F:((n:Int)==4)=false:=Jq;clear h4 H hk q K;go_wp2;refine yN (v:=.tuple #[.agg #[Qs ⟨#[]⟩,Qi 0,Qi 0,Qi 0],.bool false]) ?res rfl ⟨OpR.zero,false,rfl,yU ⟨rfl,HA⟩,?_⟩;case res=>simp[results,results106,go_sem,r0,r1,r2,r3]
    first
     |exact Q
     |exact zM (yk _) [Qs ⟨#[]⟩,Qi 0,Qi 0,Qi 0] 0 _ Q
  ·have H:=zB (zH8 (n:=n) (t:=t) (sd:=sd) P q);obtain rfl:KI=3:=K.trans hk;by_cases h3:n=3
   ·have HA:=zB (by rw[zA H,yQ h3,zA HV]:zAO n k t l sd=some ⟨t,3,(V:Int),0⟩);have J:((n:Int)==3)=true:=Jq;clear h3 H hk q K;go_wp2;refine yN (v:=.tuple #[.agg #[Qs t,Qi 3,Qi V,Qi 0],.bool true]) ?res rfl ⟨⟨t,3,(V:Int),0⟩,true,rfl,yS ⟨rfl,HA⟩,?_⟩;case res=>simp[results,results106,go_sem,r0,r1,r2,r3,e1,e2,e3,e4]
    exact zM (yk _) [Qs t,Qi 3,Qi V,Qi 0] 0 _ Q
   ·have HA:=zB (by rw[zA H,yP h3]:zAO n k t l sd=none);have J:((n:Int)==3)=false:=Jq;clear h3 H hk q K;go_wp2;refine yN (v:=.tuple #[.agg #[Qs t,Qi 3,Qi V,Qi 0],.bool false]) ?res rfl ⟨⟨t,3,(V:Int),0⟩,false,rfl,yU ⟨rfl,HA⟩,?_⟩;case res=>simp[results,results106,go_sem,r0,r1,r2,r3,e1,e2,e3,e4]
    exact zM (yk _) [Qs t,Qi 3,Qi V,Qi 0] 0 _ Q
  ·have HA:=zB (zK3 (n:=n) (t:=t) (l:=l) (sd:=sd) a E B);obtain rfl:KI=0:=K.trans hk;clear hk a B E K;go_wp2;refine yN (v:=.tuple #[.agg #[Qs ⟨#[]⟩,Qi 0,Qi 0,Qi 0],.bool false]) ?res rfl ⟨OpR.zero,false,rfl,yU ⟨rfl,HA⟩,?_⟩;case res=>simp[results,results106,go_sem,r0,r1,r2,r3]
   first
    |exact Q
    |exact zM (yk _) [Qs ⟨#[]⟩,Qi 0,Qi 0,Qi 0] 0 _ Q
theorem zFh(v:Value)(ws:List JZ)(w:JY)(hs:ZO w v ws)(hz:∀x∈ws,x.size<=maxLen):Calls prog 106 #[v] w (zOt w ws):=
 zP0 106 v ws w hs hz (fun a c n w h=>zJ1 a c n w h) (fun g c n k t l sd w h1 h2 h3 h4 h5 h6=>zIe g c n k t l sd w h1 h2 h3 h4 h5 h6)
def zF3(w:JY)(B U:Nat)(us:List JZ)(os:List OpR)(b:JZ)(ws:List JZ)(e:Ending)(w':JY):Prop:=
 ∃ok:Bool,e=.returned (.bool ok)/\((ok=true/\∃us' os' vu' vo',zBA ws us os us' os'/\UnM w' B U vu' vo' us' os' b/\us'.length<=us.length+1/\os'.length<=os.length+1)\/(ok=false/\∀us' os',¬ zBA ws us os us' os'))/\Below B w w'
theorem zTM{ws us:List JZ}{os:List OpR}(h0:ws≠[])(h2:∀x,ws≠[zMy,x])(ho:∀o,¬ OpW ws o):∀us' os',¬ zBA ws us os us' os':=by
 rintro us' os' (⟨e,_⟩|⟨x,e,_⟩|⟨o,e,_⟩)
 ·exact h0 e
 ·exact h2 x e
 ·exact ho o e
theorem zVL(B U:Nat)(vu vo:Value)(us:List JZ)(os:List OpR)(b:JZ)(ws:List JZ)(o:OpR){w w1 w4:JY}{g4 c4:Nat}(h:UnM w B U vu vo us os b)(ho:OpW ws o)(hb:Qb w w1)(H:w4.ownsRow B 33 4 (Ql g4 (os.length+1) c4) (os.length+1) (zl os++zl [o]))(hg:w1.grownBy w4 vo.ownBlock)(k:vo.ownBlock=some g4\/g4=w1.heap.size):zF3 w B U us os b ws (.returned (.bool true)) (w4.setCell (Qa U 1) (Ql g4 (os.length+1) c4)):=by
 have hr:zAo w4 B (Ql g4 (os.length+1) c4) (os++[o]):=by
  unfold zAo;rw[zAS,yq];exact H
 obtain⟨h1,h2⟩:=h.putO hb hg hr (k.imp (fun e=>e.symm) (fun e=>⟨g4,rfl,Jo⟩));exact⟨true,rfl,yS ⟨rfl,us,os++[o],_,_,yU (yU ⟨o,ho,rfl,rfl⟩),h1,Jo,Js⟩,h2⟩
theorem zTN(B U:Nat)(vu vo:Value)(us:List JZ)(os:List OpR)(b x:JZ){w w1 w4:JY}{g4 c4:Nat}(h:UnM w B U vu vo us os b)(hb:Qb w w1)(H:w4.ownsRow B 9 1 (Ql g4 (us.length+1) c4) (us.length+1) (ZM us++ZM [x]))(hg:w1.grownBy w4 vu.ownBlock)(k:vu.ownBlock=some g4\/g4=w1.heap.size):zF3 w B U us os b [zMy,x] (.returned (.bool true)) (w4.setCell (Qa U 0) (Ql g4 (us.length+1) c4)):=by
 have hr:Ze w4 B (Ql g4 (us.length+1) c4) (us++[x]):=by
  unfold Ze;rw[Zg,yq];exact H
 obtain⟨h1,h2⟩:=h.putU hb hg hr (k.imp (fun e=>e.symm) (fun e=>⟨g4,rfl,Jo⟩));exact⟨true,rfl,yS ⟨rfl,us++[x],os,_,_,yU (yS ⟨x,rfl,rfl,rfl⟩),h1,Js,Jo⟩,h2⟩
theorem zRL(B U:Nat)(vu vo v:Value)(us:List JZ)(os:List OpR)(b:JZ)(ws:List JZ)(w:JY)(h:UnM w B U vu vo us os b)(hs:ZO w v ws)(hz:∀x∈ws,x.size<=maxLen)(V:∀g,v.ownBlock=some g->g≠U/\vu.ownBlock≠some g)(W:us.length<=20001)(T:os.length<=20001)(ha:ws.length<=20001):Calls prog 172 #[Qp U,v] w (zF3 w B U us os b ws):=by
 have hl:=h.lt;have hh:=h.hB;have HU:=zB h;by_cases h0:ws.length=0
 ·have e0:ws=[]:=jd.1 h0;obtain⟨a,c,rfl,_⟩:=hs;rw[h0];have HP:=zB (show zF3 w B U us os b ws (.returned (.bool true)) w from⟨true,rfl,yS ⟨rfl,us,os,vu,vo,yS ⟨e0,rfl,rfl⟩,h,Jo,Jo⟩,yJ _ _⟩);clear h e0 h0;go_enter func172,ntmps172;go_wp2;go_ret;exact HP
 by_cases y:∃x,ws=[zMy,x]
 ·obtain⟨x,rfl⟩:=y;obtain⟨gw,c,rfl,S,hc⟩:=hs.lt Js;have k0:w.cell? (Qa gw 0)=some (Qs ⟨#[117,115,101]⟩):=hc 0 _ rfl;have k1:w.cell? (Qa gw 1)=some (Qs x):=hc 1 _ rfl;have r:[zMy,x].length=2:=rfl;rw[r];obtain⟨i0,m,f,F,L⟩:=zS zEd;have HI:=zB m;have HZ:=zB (yK f (yK F L));clear m f F L;have u0:=h.c0;have f0:=h.fz 0;obtain⟨au,cu,rfl⟩:=zR h.ru;have Z:=zB (V gw rfl).2;have hd:gw≠U:=(V gw rfl).1;have X:=zB (fun(w1 w4:JY)(hb:Qb w w1)(hg:w1.grownBy w4 (Value.slice au us.length cu).ownBlock)=>h.keep hb (yS rfl) hg);have Y:=zB (fun(w1 w4:JY)(g4 c4:Nat)=>@zTN B U (.slice au us.length cu) vo us os b x w w1 w4 g4 c4 h);have N:=zB h.ru;clear h hc hz hs V;go_enter func172,ntmps172;go_wp2_with fail;go_region_law (refine step_append_lies _ (by rfl) (.tmp 23) (.tmp 27) 87 (by rfl) B 9 i0 _ 1 16 underlying87 HI HZ.1 HZ.2.1 HZ.2.2 rfl Jd _ us.length (ZM us) (by rfl) (N.below ((zC _ _).drew)) (Qa w.heap.size 0) 1 1 (ZM [x]) (by rfl) rfl (fun j u hj=>zAz w x j u hj) (Z3 _) Jd Jm Jo Jq _ rfl ?_;intro g4 c4 w4 K H Q J;obtain⟨kc,kf⟩:=(zA X) _ _ (zC _ _).drew H;have m0:=(kc 0).trans u0;have g0:=kf 0;have E:=zB (Y _ _ _ _ (zC _ _).drew K H Q);clear K H Q J kc kf);all_goals
   go_wp2_with fail
   go_ret
   exact E
 have M:ws≠[]:=fun e=>h0 (by rw[e];rfl)
 have I:∀x,ws≠[zMy,x]:=fun x e=>y ⟨x,e⟩
 obtain⟨gw,c,rfl,S,hc⟩:=hs.lt Jo;have HD:=zB (zFh _ ws w hs hz);obtain⟨k,hk⟩:∃k,ws[0]?=some k:=⟨_,yr Jo⟩;have k0:=hc 0 k hk;have D:((ws.length:Int)==2)=false\/(((ws.length:Int)==2)=true/\(k.toList==[117,115,101])=false):=by
  by_cases e:ws.length=2
  ·right;refine⟨Jq,zGS (fun ek=>?_)⟩;match ws,e,hk with
   |[p,q],_,hk=>
    simp at hk;exact y ⟨q,by rw[hk,ek];rfl⟩
  ·left;simp;omega
 have he:((ws.length:Int)==0)=false:=Jq;have t:(0:Int)<(ws.length:Int):=Jo;obtain⟨iO,G,d,C,A⟩:=zS zEb;have HI:=zB G;have HZ:=zB (yK d (yK C A));clear G d C A;have u1:=h.c1;have f1:=h.fz 1;obtain⟨ao,co,rfl⟩:∃a c,vo=.slice a os.length c:=zR h.ro;have X:=zB (fun(w1 w4:JY)(hb:Qb w w1)(hg:w1.grownBy w4 (Value.slice ao os.length co).ownBlock)=>h.keep hb (yU rfl) hg);have Y:=zB (fun(o:OpR)(ho:OpW ws o)(w1 w4:JY)(g4 c4:Nat)=>@zVL B U vu (.slice ao os.length co) us os b ws o w w1 w4 g4 c4 h ho);have O:=zB h.ro;have i:=zB (fun(ho:∀o,¬ OpW ws o)=>zTM (us:=us) (os:=os) M I ho);clear h hc hz hs V y M I h0 hk;rcases D with R|⟨R,hf⟩;all_goals
  go_enter func172,ntmps172
  go_wp2_with fail
  go_call zA HD as e w1 ⟨o,ok,rfl,hcase,hb1⟩
  have P:=zB hb1
  have z1:=hb1.size
  have v1:w1.cell? (Qa U 1)=some (.slice ao os.length co):=Jc hb1 hl u1
  clear HD hb1 u1 f1 k0
  rcases hcase with⟨rfl,ho⟩|⟨rfl,ho⟩
  ·have HO:=zB ho
   clear ho
   go_wp2_with fail
   have n:U<w1.heap.size:=Jo
   have v2:(w1.alloc (.cells #[Qs o.s,Qi o.k,Qi o.l,Qi o.sd] 33)).cell? (Qa U 1)=some (.slice ao os.length co):=Jc (zC w1 _) n v1
   go_region_law (refine step_append_lies _ (by rfl) (.tmp 41) (.tmp 43) 61 (by rfl) B 33 iO _ 4 40 underlying61 HI HZ.1 HZ.2.1 HZ.2.2 rfl Jd _ os.length (zl os) (by rfl) (O.below ((P.alloc z1 _).alloc Jq _).drew) (Qa (w1.heap.size+1) 0) 1 1 (zl [o]) (by rfl) rfl (fun j u hj=>(Ju (zD9 (w1.alloc (.cells #[Qs o.s,Qi o.k,Qi o.l,Qi o.sd] 33)) o j u hj))) (zAi _) Jd Jm Jo Jq _ rfl ?_;intro g4 c4 w4 K H Q J;obtain⟨kc,kf⟩:=(zA X) _ _ ((P.alloc z1 _).alloc Jq _).drew H;have m0:w4.cell? (Qa U 1)=some (.slice ao os.length co):=(kc 1).trans ((P.cell (p:=Qa U 1) hl).symm.trans v1);have g1:=kf 1;have E:=zB (Y o HO _ _ _ _ ((P.alloc z1 _).alloc Jq _).drew K H Q);clear K H Q J kc kf)
   all_goals
    go_wp2_with fail
    go_ret
    exact E
  ·have HN:=zB (i ho)
   clear ho
   go_wp2_with fail
   go_ret
   exact⟨false,rfl,yU ⟨rfl,HN⟩,(P.mono Jo).alloc Jo _⟩
end Go.Proofs.YtadiaghhackbjaaGreatDoor
