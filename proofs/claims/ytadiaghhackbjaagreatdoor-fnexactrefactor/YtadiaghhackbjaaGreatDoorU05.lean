import Derived.Deep.DeepCutAuto
import Derived.Shelf.Strings.BuilderK
import Derived.Test.YtadiaghhackbjaaGreatDoorU02
namespace Go.Proofs.YtadiaghhackbjaaGreatDoor
set_option linter.all false
set_option maxHeartbeats 0
set_option maxRecDepth 100000
open Proofs.Tryz RowKit
theorem zOz(a:Option Addr)(c n:Nat)(w:JY)(hn:n<3):Calls prog 49 #[.slice a n c] w fun e w'=>(∃o:OpR,e=.returned (.tuple #[.agg #[Qs o.s,Qi o.k,Qi o.l,Qi o.sd],.bool false]))/\Qb w w':=by
 have h:(n:Int)<3:=Jo;go_enter func49,ntmps49;go_wp2;refine yN (v:=.tuple #[.agg #[Qs ⟨#[]⟩,Qi 0,Qi 0,Qi 0],.bool false]) ?res rfl ⟨⟨OpR.zero,rfl⟩,?_⟩;case res=>simp[results,results49,go_sem]
 exact zC _ _
theorem zNU(g c n:Nat)(k t l sd:JZ)(w:JY)(hn:3<=n)(y:l.size<=maxLen)(c0:w.cell? (Qa g 0)=some (Qs k))(c1:w.cell? (Qa g 1)=some (Qs t))(c2:w.cell? (Qa g 2)=some (Qs l))(c3:4<=n->w.cell? (Qa g 3)=some (Qs sd)):Calls prog 49 #[Ql g n c] w (zLt w n k t l sd):=by
 have hg:g<w.heap.size:=World.block_lt_of_cell? _ _ c0;have G:g≠w.heap.size:=Jo;have F:¬ (n:Int)<3:=Jo;have B:(0:Int)<(n:Int):=Jo;have d:(1:Int)<(n:Int):=Jo;have b:(2:Int)<(n:Int):=Jo;have J:=zB c3;clear c3;cases hl:zFN l
 ·have HL:=zB (by unfold zJK;rw[hl];rfl:zJK l = -1);have HA:=zB (zNM (n:=n) (k:=k) (t:=t) (sd:=sd) hl);clear hl;go_enter func49,ntmps49;go_wp2_with (go_at_call 81;refine(zFO l _ y).mono ?_;rw[zA HL];rintro e w1 ⟨rfl,hx⟩;obtain rfl:=hx.symm;clear hx);refine yN (v:=.tuple #[.agg #[Qs ⟨#[]⟩,Qi 0,Qi 0,Qi 0],.bool false]) ?res rfl ⟨OpR.zero,false,rfl,yU ⟨rfl,HA⟩,?_⟩;case res=>simp[results,results49,go_sem]
  exact zC _ _
 obtain⟨V,hV⟩:∃V:Nat,V=zAY l l.size:=⟨_,rfl⟩;have HL:=zB (by unfold zJK;rw[hl,hV];rfl:zJK l=(V:Int));have Y:=zB hl;have HX:Hid (∀W:JY,Calls prog 81 #[Qs l] W fun e w'=>e=.returned (Qi V)/\w'=W):=fun W=>by have h:=zFO l W y;rw[zA HL] at h;exact h
 have HV:=zB hV;clear hl hV;go_enter func49,ntmps49;go_wp2_with (go_at_call 81;refine(zFO l _ y).mono ?_;rw[zA HL];rintro e w1 ⟨rfl,hx⟩;obtain rfl:=hx.symm;clear hx);go_cut [4] (fun s4 wc=>∃b4:Nat,s4 = Qp b4/\w.heap.size<b4/\b4<wc.heap.size/\Hid (zEo wc b4 ⟨t,0,(V:Int),0⟩)/\Hid (zEo wc w.heap.size OpR.zero)/\Hid (Qb w wc));case first=>
  go_region_held (fun w'=>w'.cell? (Qa g 1)=some (Qs t)/\w'.cell? (Qa g 2)=some (Qs l)) (go_keep)
   (first|(go_at_call 81;have P:=(zA HX);(with_reducible refine(P _).mono ?_);rintro e w1 ⟨rfl,hx⟩;obtain rfl:=hx.symm;clear hx P))
  all_goals
   go_wp2_with fail
   go_meet
   case rel=>
    go_light;exact⟨w.heap.size+1,rfl,Jo,Js,zB ⟨⟨Jg,Jg,Jg,Jg⟩,Jg,Jg,Jg,Jg⟩,zB ⟨⟨by simp[go_sem,OpR.zero],by simp[go_sem,OpR.zero],by simp[go_sem,OpR.zero],by simp[go_sem,OpR.zero]⟩,Jg,Jg,Jg,Jg⟩,zB (((zC _ _).alloc Js _).drew)⟩
 case rest=>
  obtain⟨b4,rfl,E,C,u,j,H⟩:=hcut;have HS:=zB (fun W:World=>zOq sd W);obtain⟨⟨p0,p1,p2,p3⟩,f0,f1,f2,f3⟩:=zA u;obtain⟨⟨r0,r1,r2,r3⟩,z0,z1,z2,z3⟩:=zA j;simp only[OpR.zero] at p0 p1 p2 p3 r0 r1 r2 r3;have k0:wc.cell? (Qa g 0)=some (Qs k):=Jc H hg c0;have e1:b4≠w.heap.size:=Jo;have e2:w.heap.size≠b4:=Jo;have e3:b4≠g:=Jo;have e4:g≠b4:=Jo;have U:Hid (4<=n->wc.cell? (Qa g 3)=some (Qs sd)):=fun h=>Jc H hg (J h)
  clear u j J c0 c1 c2 HX HL;cases q1:(k.toList==[112,114,101,102,105,120])
  case true=>
   have q2:(k.toList==[112,111,115,116,102,105,120])=false:=zGS (by rw[Zw q1];decide);have q3:(k.toList==[105,110,102,105,120])=false:=zGS (by rw[Zw q1];decide);have K:=zB (zJO (n:=n) (t:=t) (sd:=sd) Y (Zw q1));by_cases h3:n=3
   ·have HA:=zB (by rw[zA K,yQ h3,zA HV]:zAO n k t l sd=some ⟨t,1,(V:Int),0⟩);have X:((n:Int)==3)=true:=Jq;clear h3 K;go_wp2;refine yN (v:=.tuple #[.agg #[Qs t,Qi 1,Qi V,Qi 0],.bool true]) ?res rfl ⟨⟨t,1,(V:Int),0⟩,true,rfl,yS ⟨rfl,HA⟩,?_⟩;case res=>simp[results,results49,go_sem,r0,r1,r2,r3,e1,e2,e3,e4]
    first
     |exact zM (yk _) [Qs t,Qi 1,Qi V,Qi 0] 0 _ (H.setCell (p:=Qa b4 1) (Jo:w.heap.size<=b4) _)
     |exact zM (yk _) [Qs t,Qi 1,Qi V,Qi 0] 0 _ ((H.setCell (p:=Qa b4 1) (Jo:w.heap.size<=b4) _).setCell (p:=Qa b4 3) (Jo:w.heap.size<=b4) _)
   ·have HA:=zB (by rw[zA K,yP h3]:zAO n k t l sd=none);have X:((n:Int)==3)=false:=Jq;clear h3 K;go_wp2_with (first|(go_at_call 82;(with_reducible refine((zA HS) _).mono ?_);rintro e w1 ⟨rfl,hx⟩;obtain rfl:=hx.symm;clear hx));refine yN (v:=.tuple #[.agg #[Qs ⟨#[]⟩,Qi 0,Qi 0,Qi 0],.bool false]) ?res rfl ⟨OpR.zero,false,rfl,yU ⟨rfl,HA⟩,?_⟩;case res=>simp[results,results49,go_sem,r0,r1,r2,r3]
    first
     |exact H
     |exact zM (yk _) [Qs ⟨#[]⟩,Qi 0,Qi 0,Qi 0] 0 _ H
  cases q2:(k.toList==[112,111,115,116,102,105,120])
  case true=>
   have q3:(k.toList==[105,110,102,105,120])=false:=zGS (by rw[Zw q2];decide);have K:=zB (zH8 (n:=n) (t:=t) (sd:=sd) Y (Zw q2));by_cases h3:n=3
   ·have HA:=zB (by rw[zA K,yQ h3,zA HV]:zAO n k t l sd=some ⟨t,3,(V:Int),0⟩);have X:((n:Int)==3)=true:=Jq;clear h3 K;go_wp2;refine yN (v:=.tuple #[.agg #[Qs t,Qi 3,Qi V,Qi 0],.bool true]) ?res rfl ⟨⟨t,3,(V:Int),0⟩,true,rfl,yS ⟨rfl,HA⟩,?_⟩;case res=>simp[results,results49,go_sem,r0,r1,r2,r3,e1,e2,e3,e4]
    first
     |exact zM (yk _) [Qs t,Qi 3,Qi V,Qi 0] 0 _ (H.setCell (p:=Qa b4 1) (Jo:w.heap.size<=b4) _)
     |exact zM (yk _) [Qs t,Qi 3,Qi V,Qi 0] 0 _ ((H.setCell (p:=Qa b4 1) (Jo:w.heap.size<=b4) _).setCell (p:=Qa b4 3) (Jo:w.heap.size<=b4) _)
   ·have HA:=zB (by rw[zA K,yP h3]:zAO n k t l sd=none);have X:((n:Int)==3)=false:=Jq;clear h3 K;go_wp2_with (first|(go_at_call 82;(with_reducible refine((zA HS) _).mono ?_);rintro e w1 ⟨rfl,hx⟩;obtain rfl:=hx.symm;clear hx));refine yN (v:=.tuple #[.agg #[Qs ⟨#[]⟩,Qi 0,Qi 0,Qi 0],.bool false]) ?res rfl ⟨OpR.zero,false,rfl,yU ⟨rfl,HA⟩,?_⟩;case res=>simp[results,results49,go_sem,r0,r1,r2,r3]
    first
     |exact H
     |exact zM (yk _) [Qs ⟨#[]⟩,Qi 0,Qi 0,Qi 0] 0 _ H
  cases q3:(k.toList==[105,110,102,105,120])
  case true=>
   have K:=zB (zK2 (n:=n) (t:=t) (sd:=sd) Y (Zw q3));by_cases h4:n=4
   ·have a:((n:Int)==4)=true:=Jq;have f:(3:Int)<(n:Int):=Jo;have k3:=(zA U) Jo;obtain⟨S,hS⟩:∃S:Int,S=Z2 sd:=⟨_,rfl⟩;have D:=zB hS;have Q:=zJN sd;rw[<-hS] at Q HS;by_cases q:S=0
    ·have HA:=zB (by rw[zA K,yP (fun x=>x.2 (hS.symm.trans q))]:zAO n k t l sd=none);have A:¬ (0:Int)<S:=Jo;clear q K hS Q h4;go_wp2_with (first|(go_at_call 82;(with_reducible refine((zA HS) _).mono ?_);rintro e w1 ⟨rfl,hx⟩;obtain rfl:=hx.symm;clear hx));refine yN (v:=.tuple #[.agg #[Qs ⟨#[]⟩,Qi 0,Qi 0,Qi 0],.bool false]) ?res rfl ⟨OpR.zero,false,rfl,yU ⟨rfl,HA⟩,?_⟩;case res=>simp[results,results49,go_sem,r0,r1,r2,r3]
     first
      |exact H
      |exact zM (yk _) [Qs ⟨#[]⟩,Qi 0,Qi 0,Qi 0] 0 _ H
    ·have HA:=zB (by rw[zA K,yQ ⟨h4,fun x=>q (hS.trans x)⟩,zA HV,hS]:zAO n k t l sd=some ⟨t,2,(V:Int),S⟩);have A:(0:Int)<S:=Jo;clear q K hS Q h4;go_wp2_with (first|(go_at_call 82;(with_reducible refine((zA HS) _).mono ?_);rintro e w1 ⟨rfl,hx⟩;obtain rfl:=hx.symm;clear hx));refine yN (v:=.tuple #[.agg #[Qs t,Qi 2,Qi V,Qi S],.bool true]) ?res rfl ⟨⟨t,2,(V:Int),S⟩,true,rfl,yS ⟨rfl,HA⟩,?_⟩;case res=>simp[results,results49,go_sem,r0,r1,r2,r3,e1,e2,e3,e4]
     exact zM (yk _) [Qs t,Qi 2,Qi V,Qi S] 0 _ ((H.setCell (p:=Qa b4 1) (Jo:w.heap.size<=b4) _).setCell (p:=Qa b4 3) (Jo:w.heap.size<=b4) _)
   ·have HA:=zB (by rw[zA K,yP (fun x=>h4 x.1)]:zAO n k t l sd=none);have a:((n:Int)==4)=false:=Jq;clear h4 K;go_wp2_with (first|(go_at_call 82;(with_reducible refine((zA HS) _).mono ?_);rintro e w1 ⟨rfl,hx⟩;obtain rfl:=hx.symm;clear hx));refine yN (v:=.tuple #[.agg #[Qs ⟨#[]⟩,Qi 0,Qi 0,Qi 0],.bool false]) ?res rfl ⟨OpR.zero,false,rfl,yU ⟨rfl,HA⟩,?_⟩;case res=>simp[results,results49,go_sem,r0,r1,r2,r3]
    first
     |exact H
     |exact zM (yk _) [Qs ⟨#[]⟩,Qi 0,Qi 0,Qi 0] 0 _ H
  have HA:=zB (zK3 (n:=n) (t:=t) (l:=l) (sd:=sd) (ZI q1) (ZI q2) (ZI q3));go_wp2_with (first|(go_at_call 82;(with_reducible refine((zA HS) _).mono ?_);rintro e w1 ⟨rfl,hx⟩;obtain rfl:=hx.symm;clear hx));refine yN (v:=.tuple #[.agg #[Qs ⟨#[]⟩,Qi 0,Qi 0,Qi 0],.bool false]) ?res rfl ⟨OpR.zero,false,rfl,yU ⟨rfl,HA⟩,?_⟩;case res=>simp[results,results49,go_sem,r0,r1,r2,r3]
  first
   |exact H
   |exact zM (yk _) [Qs ⟨#[]⟩,Qi 0,Qi 0,Qi 0] 0 _ H
open Go.Shelf
def zSK:Go.Shelf.Ren:=⟨fun|169=>160|n=>n,fun|70=>227|9=>9|0=>0|72=>229|37=>102|127=>274|3=>3|5=>5|n=>n,fun|n=>n⟩
theorem zUR:Go.Proofs.Lays.n169 prog zSK:={
 mixed:=Jk
 f169:=Tryz.func160.trans (yV some Jk)
 t0:=underlying0
 a0:=Tryz.isAgg0
 z0:=Tryz.sizeOf0
 v0:=Tryz.zeroValue0
 t3:=underlying3
 a3:=Tryz.isAgg3
 z3:=Tryz.sizeOf3
 v3:=Tryz.zeroValue3
 t9:=underlying9
 a9:=Tryz.isAgg9
 z9:=Tryz.sizeOf9
 v9:=Tryz.zeroValue9
 t37:=underlying102
 a37:=Tryz.isAgg102
 z37:=Tryz.sizeOf102
 v37:=Tryz.zeroValue102
 t70:=underlying227
 a70:=Tryz.isAgg227
 z70:=Tryz.sizeOf227
 v70:=Tryz.zeroValue227
 t72:=underlying229
 a72:=Tryz.isAgg229
 z72:=Tryz.sizeOf229
 v72:=Tryz.zeroValue229
 t127:=underlying274
 a127:=Tryz.isAgg274
 z127:=Tryz.sizeOf274
 v127:=Tryz.zeroValue274 }
theorem zG2:Builder.Extra prog zSK:={
 sizeBuilder:=Jk
 liesBuilder:=Jk
 t5:=underlying5
 a5:=Tryz.isAgg5
 z5:=Tryz.sizeOf5
 v5:=Tryz.zeroValue5
 infoByte:=Jk
 cellsByte:=Jk
 sizeByte:=Jk
 neB5:=by decide }
def Bld(B b:Nat)(l:List UInt8)(w:JY):Prop:=Lib.IsBuilderF 229 5 B b (ZN l) w
theorem zKY(B b:Nat)(l:List UInt8)(w:JY)(h:Bld B b l w)(H:B<=w.heap.size):Calls prog 160 #[Qp b] w fun e w'=>e=.returned (Qs ⟨l.toArray⟩)/\Bld B b l w'/\Below B w w'/\Lib.OthersKept 5 (some b) w w':=
 Any.Builder_String_any_k zUR zG2 B b l w h H
theorem zKZ(b:Nat)(w:JY)(h0:w.cell? (Qa b 0)=some (Qp b)):Calls prog 197 #[Qp b] w fun e w'=>e=.returned (.tuple #[])/\w'=w:=by
 obtain⟨j,hj,_⟩:=Option.map_eq_some_iff.1 zG2.sizeBuilder;go_enter func197,ntmps197;go_wp2;rw[Lib.run_neq_ptr_same w _ underlying227 hj];go_wp2;go_end0;exact⟨rfl,rfl⟩
theorem zJV(b:Nat)(w:JY)(h0:w.cell? (Qa b 0)=some (.pointer none))(h:w.shape? b=some (229,2))(k:w.frozen? (Qa b 0)=false):Calls prog 197 #[Qp b] w fun e w'=>e=.returned (.tuple #[])/\w'=w.setCell (Qa b 0) (Qp b):=by
 obtain⟨j,hj,H⟩:=Option.map_eq_some_iff.1 zG2.sizeBuilder;go_enter func197,ntmps197;go_wp2;rw[Lib.run_to_unsafe w (Qa b 0) underlying227 underlying299 hj (by rw[H];decide) h (Nat.zero_lt_succ 1)];simp only[Result.andThen];rw[Oper.upon_value];go_wp2;rw[run_callFunc_extern func218 Jk Jk Jk (e:=Extern.AbiNoEscape.same) Jk];rw[Lib.run_noEscape];simp only[Result.andThen];rw[Oper.upon_value];go_wp2;rw[Lib.run_from_unsafe w (Qa b 0) underlying299 underlying227 hj h zG2.liesBuilder];simp only[Result.andThen];rw[Oper.upon_value];go_wp2;go_end0;exact⟨rfl,rfl⟩
theorem zLy(B b:Nat)(bs:List Value)(w:JY)(h:Lib.IsBuilderF 229 5 B b bs w):Calls prog 197 #[Qp b] w fun e w'=>e=.returned (.tuple #[])/\(Lib.BuilderAtF 229 5 B b (Qp b) bs w'/\Below B w w'/\Lib.OthersKept 5 (some b) w w'):=by
 rcases h with h|h
 ·go_call zJV b w h.cell0 h.shape h.frozen0 as e w' ⟨rfl,rfl⟩;exact⟨rfl,h.used _,(yJ B w).setCell (p:=Qa b 0) h.1 _,(Lib.OthersKept.refl _ _ w).setCell (Qa b 0) rfl _⟩
 ·go_call zKZ b w h.cell0 as e w' ⟨rfl,rfl⟩;exact⟨rfl,h,yJ B _,Lib.OthersKept.refl _ _ _⟩
theorem zO0(s:JZ):Lib.strCells s=ZN s.data.toList:=by
 rfl
theorem zG3(B b:Nat)(l:List UInt8)(s:JZ)(w:JY)(h:Bld B b l w)(X:l.length+s.size<=140737488355328)(U:B<=w.heap.size):Calls prog 159 #[Qp b,Qs s] w fun e w'=>(∃v,e=.returned v)/\Bld B b (l++s.data.toList) w'/\Below B w w'/\Lib.OthersKept 5 (some b) w w':=by
 obtain⟨i0,hi,V,j,Y⟩:=info_parts infoByte;go_enter func159,ntmps159;go_wp2_with fail;go_call zLy B b (ZN l) _ h as e w1 ⟨rfl,h1,hb1,hk1⟩;obtain⟨hB,v,x,K,y⟩:=h1;have J:(ZN l).length+s.size<=140737488355328:=by rw[zBl];exact X
 have c0:w1.cell? (Qa b 0)=some (Qp b):=by rw[Lib.cell_of_heap x];rfl
 have c1:w1.cell? (Qa b 1)=some v:=by rw[Lib.cell_of_heap x];rfl
 go_wp2_with (at_builtin;refine Lib.wpList_append_own_stringF _ rfl _ _ 102 9 rfl B 5 i0 underlying102 underlying9 hi V j Y _ _ _ rfl K s rfl ?c3 ?c4 ?c5 ?_);case c3=>exact Jm
 case c4=>omega
 case c5=>have:=hb1.size;omega
 intro v' w2 q H _;have P:b<w1.heap.size:=block_lt_of_cell c0;have Q:w2.heap[b]?=some (.cells #[Qp b,v] 229 (0,0)):=by
  rw[H.block b P (fun e=>y e.symm)];exact x
 have d0:w2.cell? (Qa b 0)=some (Qp b):=by rw[Lib.cell_of_heap Q];rfl
 have d1:w2.cell? (Qa b 1)=some v:=by rw[Lib.cell_of_heap Q];rfl
 have f1:w2.frozen? (Qa b 1)=false:=Lib.frozen_of_heap Q 1;obtain⟨ao,n',cap,rfl⟩:∃ao n' cap,v'=.slice ao n' cap:=by
  rcases q.2 with⟨hv,_⟩|⟨g,cap,u,fz,hv,_⟩
  ·exact⟨_,_,_,hv⟩
  ·exact⟨_,_,_,hv⟩
 go_wp2;go_ret2;refine⟨⟨_,rfl⟩,?_,?_,(hk1.grown H (Lib.ownsRowF_kind K)).setCell (Qa b 1) rfl _⟩
 ·exact yU (Lib.BuilderAtF.put (T:=229) (e:=5) hB Q (bs':=ZN (l++s.data.toList)) (by rw[zA1,<-zO0];simpa[Lib.strCells_length] using q) Jd)
 ·exact(hb1.grown H (Jy hb1.size) (fun k hk=>(K.lt k hk).1)).setCell (p:=Qa b 1) hB _
theorem zQy(w:JY):Bld w.heap.size w.heap.size [] (w.alloc (.cells #[.pointer none,.slice none 0 0] 229)):=
 Lib.IsBuilderF.of (yS ⟨yk _,.slice none 0 0,heap_alloc_new w _,World.ownsRow_nil _ _ _ _,Jb⟩)
theorem Bld.alloc{B b:Nat}{l:List UInt8}{w:JY}(h:Bld B b l w)(o:Obj):Bld B b l (w.alloc o):=Lib.IsBuilderF.alloc h o
theorem zWI{B b:Nat}{l:List UInt8}{w:JY}(h:Bld B b l w):b<w.heap.size:=by
 rcases h with h|h
 ·exact h.lt
 ·exact h.lt
theorem zJW(b X cap:Nat)(xs:List zU)(w:JY)(hm:xs.length+Zf xs xs.length<=1048576)(hw:zDf w b X xs)(hB:b<w.heap.size):Calls prog 181 #[.slice (some (Qa b X)) xs.length cap] w fun e w'=>e=.returned (Qs ⟨(Zy xs xs.length).toArray⟩)/\Qb w w':=by
 have HW:=zB hw;have HO:=zB (zQy w);clear hw;go_enter func181,ntmps181;go_wp2;go_loopw [8] (fun i wr=>∃k:Nat,k<=xs.length/\i=Qi k/\Hid (Bld w.heap.size w.heap.size (Zy xs k) wr)/\Qb w wr) (fun i _=>xs.length-(intOf i).toNat);case atStart=>exact⟨0,ym _,rfl,HO,zC _ _⟩
 case round=>
  clear HO;obtain⟨k,hk,rfl,K,h⟩:=hrel;by_cases p:k<xs.length
  ·obtain⟨a0,a1,a2⟩:=((HW) k p).below h hB;have j:=zDH xs k;have Q:Zf xs (k+1)<=Zf xs xs.length:=zFI xs _ _ Jo;simp only[Zf,zRr] at Q;have x:(Zy xs k).length+(atT xs k).g.size<=1048576:=Jo;have Y:(Zy xs k++(atT xs k).g.data.toList).length+(atT xs k).t.size<=1048576:=by
    rw[yq];have:(atT xs k).g.data.toList.length=(atT xs k).g.size:=Js;omega
   have P:=zB (K.alloc (.cells #[Qi (atT xs k).k,Qs (atT xs k).g,Qs (atT xs k).t] 135));have L1:=zB x;have L2:=zB Y;have y:Hid (w.heap.size<wr.heap.size):=zWI K;clear j Q x Y K;go_wp2_with fail;go_call zG3 _ _ _ _ _ P (Jy (zA L1)) (by have:=h.size;simp;omega) as e w1 ⟨⟨v,rfl⟩,hb1,hbe1,hk1⟩;have J:=zB hb1;have u:wr.heap.size<w1.heap.size:=Jz hbe1.size
   have ht:w1.heap[wr.heap.size]?=some (.cells #[Qi (atT xs k).k,Qs (atT xs k).g,Qs (atT xs k).t] 135 (0,0)):=hk1 _ _ (heap_alloc_new wr _) (by have:=h.size;simp;have:=(zA y);omega) Js;have q2:w1.cell? (Qa wr.heap.size 2)=some (Qs (atT xs k).t):=by rw[Lib.cell_of_heap ht];rfl
   have H:Qb w w1:=(h.alloc h.size _).trans hbe1;clear hb1 hk1 ht hbe1;go_wp2_with fail;go_call zG3 _ _ _ _ _ J (Jy (zA L2)) H.size as e w2 ⟨⟨v2,rfl⟩,hb2,hbe2,_⟩;have V:Hid (Bld w.heap.size w.heap.size (Zy xs (k+1)) w2):=hb2;have q:=H.trans hbe2;clear hb2 hbe2;go_wp2;exact⟨⟨k+1,Jo,Jn,V,q⟩,Ji⟩
  ·have HK:=zB (Jo:k=xs.length);go_wp2_with fail;go_call zKY _ _ _ _ K h.size as e w1 ⟨rfl,_,hbe1,_⟩;go_wp2;go_ret;exact⟨zPn (by rw[zA HK]),h.trans hbe1⟩
def zIY(ts:List zU)(i:Nat):Nat:=Zf ts i+(atT ts i).g.size
theorem zJX{ts:List zU}{i j:Nat}(h:j<i):atT (ts.take i) j=atT ts j:=by
 simp[atT,List.getD,List.getElem?_take,h]
theorem zFR(ts:List zU)(i:Nat):∀k,k<=i->Zf (ts.take i) k=Zf ts k
 |0,_=>rfl
 |k+1,h=>by
  simp only[Zf];rw[zFR ts i k Jo,zJX Jo]
theorem zG4(g o c i:Nat)(ts:List zU)(w:JY)(hm:ts.length+Zf ts ts.length<=1048576)(hi:i<ts.length)(hc:ts.length<=c)(P:c<=maxLen)(hw:zDf w g o ts)(hB:g<w.heap.size)(hz:(atT ts i).g.size<=1048576):Calls prog 139 #[.slice (some (Qa g o)) ts.length c,Qi i] w fun e w'=>e=.returned (Qi (zIY ts i:Int))/\Qb w w':=by
 have k:(ts.take i).length=i:=Jq;have X:=zFI ts i ts.length Jo;have q:Qb w w.drew:=(yJ _ _).drew;have HX:=zJW g o c (ts.take i) w.drew (by rw[k,zFR ts i i (yk _)];omega) (fun j hj=>by
  rw[k] at hj
  have h:=(hw j Jo).below q hB
  unfold zGL at h ⊢
  rw[zJX hj]
  exact h) hB
 rw[k] at HX;have e0:(Zy (ts.take i) i).length=Zf ts i:=by rw[zDH,zFR ts i i (yk _)]
 obtain⟨S,hS⟩:∃S:JZ,S=⟨(Zy (ts.take i) i).toArray⟩:=⟨_,rfl⟩;rw[<-hS] at HX;have K:S.size=Zf ts i:=by rw[hS,<-e0];simp[ByteArray.size]
 obtain⟨k0,k1,k2⟩:=hw i hi;have Y:(i:Int)<(ts.length:Int):=Jo;have HS:=zB K;have Q:=zB (by unfold zIY;rw[K];omega:(zIY ts i:Int)=(S.size:Int)+((atT ts i).g.size:Int));have J:S.size<=1048576:=Jo;clear hS e0 K X k hw q;go_enter func139,ntmps139;go_wp2_with fail;have H:Hid (Qb w w.drew):=(yJ _ _).drew;go_region_held (fun w'=>w'.cell? (Qa g (o+i*3+1))=some (Qs (atT ts i).g)) (first|(go_keep;done)|exact(H.cell (p:=(Qa g (o+i*3+1))) hB).trans k1)
  (first|(go_at_call 181;refine HX.mono ?_;rintro x w1 ⟨rfl,hb⟩;replace H:=zB (H.trans hb);clear HX hb))
 have y:IntKind.i64.wrap ((S.size:Int)+((atT ts i).g.size:Int))=(S.size:Int)+((atT ts i).g.size:Int):=by rw[IntKind.wrap_i64];omega
 rw[y,<-zA Q];go_wp2_with fail;go_ret;exact⟨rfl,H⟩
end Go.Proofs.YtadiaghhackbjaaGreatDoor
