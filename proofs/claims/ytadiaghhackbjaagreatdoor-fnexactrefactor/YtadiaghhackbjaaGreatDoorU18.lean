import Derived.Test.YtadiaghhackbjaaGreatDoorU05
import Derived.Test.YtadiaghhackbjaaGreatDoorU08
namespace Go.Proofs.YtadiaghhackbjaaGreatDoor
set_option linter.all false
set_option maxHeartbeats 0
set_option maxRecDepth 100000
open Proofs.Tryz RowKit
theorem zHr(b Q cap bn H cn i:Nat)(xs:List OpR)(ns:List zD)(w:JY)(hm:xs.length<=1048576)(S:ns.length<=1048576)(hw:Ops w b Q xs)(B:ZA xs)(hB:b<w.heap.size)(D:Zv w bn H ns)(m:bn<w.heap.size)(hi:i<ns.length)(ho:Zh (atN ns i))(j:Nat)(hf:fnd xs (atN ns i).t ((atN ns i).k-2)=some j)(ka kb:Nat)(A:(atN ns i).a=(ka:Int))(C:(atN ns i).b=(kb:Int))(G:ka<ns.length)(g:kb<ns.length)(X:zY (atN ns i).k=1\/zY (atN ns i).k=2)(u:3<=(atN ns ka).k->(atN ns ka).k<=5->fnd xs (atN ns ka).t ((atN ns ka).k-2)≠none)(U:zY (atN ns i).k=2->3<=(atN ns kb).k->(atN ns kb).k<=5->fnd xs (atN ns kb).t ((atN ns kb).k-2)≠none):Calls prog 119 #[.agg #[.slice (some (Qa b Q)) xs.length cap],.slice (some (Qa bn H)) ns.length cn,Qi i] w fun e w'=>zBD e (zJF xs ns i)/\Qb w w':=by
 have T:(i:Int)<(ns.length:Int):=Jo;obtain⟨h0,h1,h2,h3⟩:=D i hi;have HW:=zB hw;have L:=zB D;have HZ:=zB B;have hj:=(zAg hf).1;have P:=zB (show zJF xs ns i↔zF6 xs j false<=zAN xs (atN ns ka)/\(zY (atN ns i).k=1\/zF6 xs j true<=zAN xs (atN ns kb)) by
  rw[zJi ho hf,A,C];simp)
 have HD:=zB (by rw[eq_comm,decide_eq_true_iff];exact ho:true=decide (3<=(atN ns i).k/\(atN ns i).k<=5));have HF:=zB hf;have N:=ho.1;have n:=ho.2;have E:=zB u;have f:=zB U;have d:=zB (B j hj);rw[A] at h2;rw[C] at h3;have R:(ka:Int)<(ns.length:Int):=Jo;have r:(kb:Int)<(ns.length:Int):=Jo;clear hw D B ho A C hf u U;go_enter func119,ntmps119;go_wp2_with fail;go_call zAp ⟨(atN ns i).k,(atN ns i).t,(ka:Int),(kb:Int)⟩ _ true HD as e w1 ⟨rfl,hb1⟩;have y:Qb w w1:=((zC _ _).alloc Js _).trans (hb1.mono Jq);have J:=zB (show Cs [(w.heap.size,0,.slice (some (Qa b Q)) xs.length cap),(w.heap.size+1,0,Qi (atN ns i).k),(w.heap.size+1,1,Qs (atN ns i).t),(w.heap.size+1,2,Qi ka),(w.heap.size+1,3,Qi kb)] w1 from fun p hp=>by
  simp only[List.mem_cons,List.not_mem_nil,or_false] at hp
  rcases hp with rfl|rfl|rfl|rfl|rfl
  ·exact Jc hb1 Jh Jg
  ·exact(hb1.cell (p:=(Qa (w.heap.size+1) 0)) Js).trans Jg
  ·exact(hb1.cell (p:=(Qa (w.heap.size+1) 1)) Js).trans Jg
  ·exact(hb1.cell (p:=(Qa (w.heap.size+1) 2)) Js).trans Jg
  ·exact(hb1.cell (p:=(Qa (w.heap.size+1) 3)) Js).trans Jg)
 clear hb1;have c0:=(zA J) (w.heap.size,0,.slice (some (Qa b Q)) xs.length cap) Js;have d0:=(zA J) (w.heap.size+1,0,Qi (atN ns i).k) Js;have d1:=(zA J) (w.heap.size+1,1,Qs (atN ns i).t) Js;have d2:=(zA J) (w.heap.size+1,2,Qi ka) Js;have d3:=(zA J) (w.heap.size+1,3,Qi kb) Js;simp only at c0 d0 d1 d2 d3;go_wp2_with fail;go_call zEv b Q cap xs ⟨(atN ns i).k,(atN ns i).t,(ka:Int),(kb:Int)⟩ j _ hm (HW.below y hB) (yl hB y.size) N n HF as e w2 ⟨rfl,hb2⟩;have x:=y.trans (hb2.mono y.size);have F:=zB (J.below hb2);clear hb2 J c0 d0 d1 d2 d3 y;have K:=zB (show Cs [(w.heap.size,0,.slice (some (Qa b Q)) xs.length cap),(w.heap.size+1,0,Qi (atN ns i).k),(w.heap.size+1,1,Qs (atN ns i).t),(w.heap.size+1,2,Qi ka),(w.heap.size+1,3,Qi kb),(w2.heap.size,0,Qs (atO xs j).s),(w2.heap.size,1,Qi (atO xs j).k),(w2.heap.size,2,Qi (atO xs j).l),(w2.heap.size,3,Qi (atO xs j).sd),(bn,H+ka*4,Qi (atN ns ka).k),(bn,H+ka*4+1,Qs (atN ns ka).t),(bn,H+ka*4+2,Qi (atN ns ka).a),(bn,H+ka*4+3,Qi (atN ns ka).b),(bn,H+kb*4,Qi (atN ns kb).k),(bn,H+kb*4+1,Qs (atN ns kb).t),(bn,H+kb*4+2,Qi (atN ns kb).a),(bn,H+kb*4+3,Qi (atN ns kb).b)] (w2.alloc (.cells #[Qs (atO xs j).s,Qi (atO xs j).k,Qi (atO xs j).l,Qi (atO xs j).sd] 33)).drew from fun p hp=>by
  simp only[List.mem_cons,List.not_mem_nil,or_false] at hp
  have Y:Cs [(w.heap.size,0,.slice (some (Qa b Q)) xs.length cap),(w.heap.size+1,0,Qi (atN ns i).k),(w.heap.size+1,1,Qs (atN ns i).t),(w.heap.size+1,2,Qi ka),(w.heap.size+1,3,Qi kb)] (w2.alloc (.cells #[Qs (atO xs j).s,Qi (atO xs j).k,Qi (atO xs j).l,Qi (atO xs j).sd] 33)).drew:=F.below ((zC _ _).drew)
  have v:=((L) ka G).below (x.trans (((zC w2 (.cells #[Qs (atO xs j).s,Qi (atO xs j).k,Qi (atO xs j).l,Qi (atO xs j).sd] 33)).drew).mono x.size)) m
  have V:=((L) kb g).below (x.trans (((zC w2 (.cells #[Qs (atO xs j).s,Qi (atO xs j).k,Qi (atO xs j).l,Qi (atO xs j).sd] 33)).drew).mono x.size)) m
  rcases hp with rfl|rfl|rfl|rfl|rfl|rfl|rfl|rfl|rfl|rfl|rfl|rfl|rfl|rfl|rfl|rfl|rfl
  ·exact Y _ Js
  ·exact Y _ Js
  ·exact Y _ Js
  ·exact Y _ Js
  ·exact Y _ Js
  ·exact(show(w2.alloc (.cells #[Qs (atO xs j).s,Qi (atO xs j).k,Qi (atO xs j).l,Qi (atO xs j).sd] 33)).cell? _=_ by simp[go_sem])
  ·exact(show(w2.alloc (.cells #[Qs (atO xs j).s,Qi (atO xs j).k,Qi (atO xs j).l,Qi (atO xs j).sd] 33)).cell? _=_ by simp[go_sem])
  ·exact(show(w2.alloc (.cells #[Qs (atO xs j).s,Qi (atO xs j).k,Qi (atO xs j).l,Qi (atO xs j).sd] 33)).cell? _=_ by simp[go_sem])
  ·exact(show(w2.alloc (.cells #[Qs (atO xs j).s,Qi (atO xs j).k,Qi (atO xs j).l,Qi (atO xs j).sd] 33)).cell? _=_ by simp[go_sem])
  ·exact v.1
  ·exact v.2.1
  ·exact v.2.2.1
  ·exact v.2.2.2
  ·exact V.1
  ·exact V.2.1
  ·exact V.2.2.1
  ·exact V.2.2.2)
 have q:Hid (Qb w (w2.alloc (.cells #[Qs (atO xs j).s,Qi (atO xs j).k,Qi (atO xs j).l,Qi (atO xs j).sd] 33)).drew):=x.trans (((zC w2 (.cells #[Qs (atO xs j).s,Qi (atO xs j).k,Qi (atO xs j).l,Qi (atO xs j).sd] 33)).drew).mono x.size);clear F x;have I:=zB (show zF6 xs j false=ZU (atO xs j).s (atO xs j).k (atO xs j).l (atO xs j).sd false from rfl);have M:=zB (show zF6 xs j true=ZU (atO xs j).s (atO xs j).k (atO xs j).l (atO xs j).sd true from rfl);rw[zA I,zA M] at P;clear I M;by_cases hA:zAN xs (atN ns ka)<ZU (atO xs j).s (atO xs j).k (atO xs j).l (atO xs j).sd false
 ·have HN:Hid (¬ zJF xs ns i):=fun h=>Jy ((P.1 h).1)
  clear P;go_wp2_with fail;go_region_held (fun w'=>w'.cell? (Qa w.heap.size 0)=some (.slice (some (Qa b Q)) xs.length cap)/\w'.cell? (Qa (w.heap.size+1) 2)=some (Qi ka)/\w'.cell? (Qa w2.heap.size 0)=some (Qs (atO xs j).s)/\w'.cell? (Qa w2.heap.size 1)=some (Qi (atO xs j).k)/\w'.cell? (Qa w2.heap.size 2)=some (Qi (atO xs j).l)/\w'.cell? (Qa w2.heap.size 3)=some (Qi (atO xs j).sd)/\w'.cell? (Qa bn (H+ka*4))=some (Qi (atN ns ka).k)/\w'.cell? (Qa bn (H+ka*4+1))=some (Qs (atN ns ka).t)/\w'.cell? (Qa bn (H+ka*4+2))=some (Qi (atN ns ka).a)/\w'.cell? (Qa bn (H+ka*4+3))=some (Qi (atN ns ka).b)) (first|(go_keep;done)|exact⟨K (w.heap.size,0,.slice (some (Qa b Q)) xs.length cap) Js,K (w.heap.size+1,2,Qi ka) Js,K (w2.heap.size,0,Qs (atO xs j).s) Js,K (w2.heap.size,1,Qi (atO xs j).k) Js,K (w2.heap.size,2,Qi (atO xs j).l) Js,K (w2.heap.size,3,Qi (atO xs j).sd) Js,K (bn,H+ka*4,Qi (atN ns ka).k) Js,K (bn,H+ka*4+1,Qs (atN ns ka).t) Js,K (bn,H+ka*4+2,Qi (atN ns ka).a) Js,K (bn,H+ka*4+3,Qi (atN ns ka).b) Js⟩)
   (first|(go_at_call 125;have HX:=zBv b Q cap xs (atN ns ka) _ hm (HW.below q hB) (yl hB q.size) E;refine HX.mono ?_;clear HX;rintro e w3 ⟨rfl,hb3⟩;replace K:=zB (K.below hb3);replace q:=zB (q.trans (hb3.mono q.size));clear hb3)|(go_at_call 124;refine(zBS (atO xs j).s (atO xs j).k (atO xs j).l (atO xs j).sd false _ d).mono ?_;rintro e w4 ⟨rfl,hb4⟩;replace K:=zB (K.below hb4);replace q:=zB (q.trans (hb4.mono q.size));clear hb4))
  all_goals go_wp2
  all_goals go_ret
  all_goals exact⟨⟨_,rfl,zQ HN⟩,q⟩
 ·go_wp2_with fail;go_region_held (fun w'=>w'.cell? (Qa w.heap.size 0)=some (.slice (some (Qa b Q)) xs.length cap)/\w'.cell? (Qa (w.heap.size+1) 2)=some (Qi ka)/\w'.cell? (Qa w2.heap.size 0)=some (Qs (atO xs j).s)/\w'.cell? (Qa w2.heap.size 1)=some (Qi (atO xs j).k)/\w'.cell? (Qa w2.heap.size 2)=some (Qi (atO xs j).l)/\w'.cell? (Qa w2.heap.size 3)=some (Qi (atO xs j).sd)/\w'.cell? (Qa bn (H+ka*4))=some (Qi (atN ns ka).k)/\w'.cell? (Qa bn (H+ka*4+1))=some (Qs (atN ns ka).t)/\w'.cell? (Qa bn (H+ka*4+2))=some (Qi (atN ns ka).a)/\w'.cell? (Qa bn (H+ka*4+3))=some (Qi (atN ns ka).b)) (first|(go_keep;done)|exact⟨K (w.heap.size,0,.slice (some (Qa b Q)) xs.length cap) Js,K (w.heap.size+1,2,Qi ka) Js,K (w2.heap.size,0,Qs (atO xs j).s) Js,K (w2.heap.size,1,Qi (atO xs j).k) Js,K (w2.heap.size,2,Qi (atO xs j).l) Js,K (w2.heap.size,3,Qi (atO xs j).sd) Js,K (bn,H+ka*4,Qi (atN ns ka).k) Js,K (bn,H+ka*4+1,Qs (atN ns ka).t) Js,K (bn,H+ka*4+2,Qi (atN ns ka).a) Js,K (bn,H+ka*4+3,Qi (atN ns ka).b) Js⟩)
   (first|(go_at_call 125;have HX:=zBv b Q cap xs (atN ns ka) _ hm (HW.below q hB) (yl hB q.size) E;refine HX.mono ?_;clear HX;rintro e w3 ⟨rfl,hb3⟩;replace K:=zB (K.below hb3);replace q:=zB (q.trans (hb3.mono q.size));clear hb3)|(go_at_call 124;refine(zBS (atO xs j).s (atO xs j).k (atO xs j).l (atO xs j).sd false _ d).mono ?_;rintro e w4 ⟨rfl,hb4⟩;replace K:=zB (K.below hb4);replace q:=zB (q.trans (hb4.mono q.size));clear hb4))
  rcases X with X|X
  ·have c:=zB X;have HY:Hid (zJF xs ns i):=P.2 ⟨Jo,yS X⟩;clear X P;have d0:=(zA K) (w.heap.size+1,0,Qi (atN ns i).k) Js;simp only at d0;go_wp2_with fail;go_quiet ((go_at_call 79;exact Calls.quiet_of_same (zf c 1 rfl _)));go_wp2;go_ret;exact⟨⟨_,rfl,Zb HY⟩,zEw q rfl rfl rfl rfl⟩
  ·have c:=zB X;have O:=zB (f X);have o:=zB (show zJF xs ns i↔ZU (atO xs j).s (atO xs j).k (atO xs j).l (atO xs j).sd true<=zAN xs (atN ns kb) by
    rw[zA P]
    constructor
    ·rintro⟨_,h|h⟩
     ·omega
     ·exact h
    ·intro h;exact⟨Jo,yU h⟩)
   clear X P;replace K:=zB (K.below (yJ _ _).drew);replace q:=zB q.drew;go_wp2_with fail;go_region_held (fun w'=>w'.cell? (Qa w.heap.size 0)=some (.slice (some (Qa b Q)) xs.length cap)/\w'.cell? (Qa (w.heap.size+1) 0)=some (Qi (atN ns i).k)/\w'.cell? (Qa (w.heap.size+1) 3)=some (Qi kb)/\w'.cell? (Qa w2.heap.size 0)=some (Qs (atO xs j).s)/\w'.cell? (Qa w2.heap.size 1)=some (Qi (atO xs j).k)/\w'.cell? (Qa w2.heap.size 2)=some (Qi (atO xs j).l)/\w'.cell? (Qa w2.heap.size 3)=some (Qi (atO xs j).sd)/\w'.cell? (Qa bn (H+kb*4))=some (Qi (atN ns kb).k)/\w'.cell? (Qa bn (H+kb*4+1))=some (Qs (atN ns kb).t)/\w'.cell? (Qa bn (H+kb*4+2))=some (Qi (atN ns kb).a)/\w'.cell? (Qa bn (H+kb*4+3))=some (Qi (atN ns kb).b)) (first|(go_keep;done)|exact⟨K (w.heap.size,0,.slice (some (Qa b Q)) xs.length cap) Js,K (w.heap.size+1,0,Qi (atN ns i).k) Js,K (w.heap.size+1,3,Qi kb) Js,K (w2.heap.size,0,Qs (atO xs j).s) Js,K (w2.heap.size,1,Qi (atO xs j).k) Js,K (w2.heap.size,2,Qi (atO xs j).l) Js,K (w2.heap.size,3,Qi (atO xs j).sd) Js,K (bn,H+kb*4,Qi (atN ns kb).k) Js,K (bn,H+kb*4+1,Qs (atN ns kb).t) Js,K (bn,H+kb*4+2,Qi (atN ns kb).a) Js,K (bn,H+kb*4+3,Qi (atN ns kb).b) Js⟩)
    (first|(go_at_call 79;refine(zf c 2 rfl _).mono ?_;rintro e w5 ⟨rfl,hx5⟩;obtain rfl:=hx5.symm)|(go_at_call 125;have HX:=zBv b Q cap xs (atN ns kb) _ hm (HW.below q hB) (yl hB q.size) O;refine HX.mono ?_;clear HX;rintro e w3 ⟨rfl,hb3⟩;replace K:=zB (K.below hb3);replace q:=zB (q.trans (hb3.mono q.size));clear hb3)|(go_at_call 124;refine(zBS (atO xs j).s (atO xs j).k (atO xs j).l (atO xs j).sd true _ d).mono ?_;rintro e w4 ⟨rfl,hb4⟩;replace K:=zB (K.below hb4);replace q:=zB (q.trans (hb4.mono q.size));clear hb4))
   all_goals go_wp2
   all_goals go_ret
   all_goals exact⟨⟨_,rfl,(by unfold zE9;rw[zA o];simp)⟩,q⟩
def zV2(code h:Int):Ending:=.panicked [{ v:=.iface 195 (.agg #[Qi code,Qi h]),recovered:=false }]
def zU5(ts:List zU)(x:Ending):Prop:=
 (∃i,i<ts.length/\(atT ts i).k=6/\(∀j,j<i->(atT ts j).k≠6)/\x=zV2 3 (zIY ts i:Int))\/((∀j,j<ts.length->(atT ts j).k≠6)/\x=.returned (.tuple #[]))
theorem zKd(g o c:Nat)(ts:List zU)(w:JY)(hm:ts.length+Zf ts ts.length<=1048576)(hc:ts.length<=c)(Y:c<=maxLen)(hw:zDf w g o ts)(hB:g<w.heap.size)(hz:∀i,i<ts.length->(atT ts i).g.size<=1048576):Calls prog 93 #[.slice (some (Qa g o)) ts.length c] w fun x w'=>zU5 ts x/\Qb w w':=by
 have HW:=zB hw;have HZ:=zB hz;clear hw hz;go_enter func93,ntmps93;go_wp2_with fail;go_loopw [6] (fun iv wr=>∃k:Nat,k<=ts.length/\iv=Qi k/\Hid (∀j,j<k->(atT ts j).k≠6)/\Qb w wr) (fun iv _=>ts.length-(intOf iv).toNat);case atStart=>exact⟨0,ym _,rfl,zB (fun j hj=>yR hj (yx j)),yJ _ _⟩
 case round=>
  obtain⟨k,hk,rfl,q,h⟩:=hrel;by_cases K:k<ts.length
  ·have J:(k:Int)<(ts.length:Int):=Jo;obtain⟨a0,a1,a2⟩:=((HW) k K).below h hB;have P:g<wr.heap.size:=Jy h.size
   have p:g≠wr.heap.size:=Jo;have H:Qb w (wr.alloc (.cells #[Qi (atT ts k).k,Qs (atT ts k).g,Qs (atT ts k).t] 135)):=h.alloc h.size _;by_cases h6:(atT ts k).k=6
   ·have hb:((atT ts k).k==6)=true:=by rw[h6];rfl
    have H6:=zB h6;have HX:=zG4 g o c k ts _ hm K hc Y (fun j hj=>(HW j hj).below H hB) Jq (HZ k K);clear h6;go_wp2_with fail;go_call HX as x w2 ⟨rfl,hb2⟩;have y:=H.trans (hb2.mono H.size);clear HX hb2;go_wp2_with fail;exact⟨rfl,yS ⟨k,K,H6,q,rfl⟩,y⟩
   ·have hb:((atT ts k).k==6)=false:=by simp[h6]
    have Q:=zB (show ∀j,j<k+1->(atT ts j).k≠6 from fun j hj=>by
     by_cases e:j=k
     ·rw[e];exact h6
     ·exact q j Jo)
    clear h6;go_wp2_with fail;exact⟨⟨k+1,Jo,Jn,Q,H⟩,Ji⟩
  ·have X:k=ts.length:=Jo;have Q:=zB (show ∀j,j<ts.length->(atT ts j).k≠6 from by rw[<-X];exact q);have v:¬ ((k:Int)<(ts.length:Int)):=Jo;clear X;go_wp2_with fail;go_end0;exact⟨yU ⟨Q,rfl⟩,h⟩
theorem zMS(code h:Int)(w:JY):Calls prog 90 #[.iface 195 (.agg #[Qi code,Qi h])] w fun x w'=>x=.returned (.tuple #[Qi code,Qi h])/\Qb w w':=by
 go_enter func90,ntmps90;have H:∀W:JY,(Instr.typeAssert (.iface 195 (.agg #[Qi code,Qi h])) 20 195 true).run prog W=.ok (.tuple #[.agg #[Qi code,Qi h],.bool true]) W:=fun W=>Jk
 go_wp2_with fail;go_region;go_wp2_with fail;refine yN (v:=.tuple #[Qi code,Qi h]) (by simp[results,results90,go_sem]) rfl ⟨rfl,?_⟩
 first
  |exact(zC _ _).drew
  |exact zC _ _
theorem zPP(p q:Addr)(w:JY):CallsD prog 89 #[.pointer (some p),.pointer (some q)] .returning w fun e u' w'=>e=.returned (.tuple #[])/\u'=.returning/\w'=w:=by
 refine callsD_of_wpS func89 rfl fun c₀ cs hu=>?_
 apply wpS_seq;apply wpS_region;simp[wpOpsS,go_sem,recoverD,hu,ntmps89,Exit.thenS];apply wpS_seq;apply wpS_region;simp[wpOpsS,go_sem,hu,ntmps89,Exit.thenS];refine wpS_cond (t:=false) (by simp[Act.eval,Array.replicate]) ?_;simp only[Bool.false_eq_true,if_false];refine wpS_of_wp (wp_skip ?_);cases c₀
 simp_all [bodyPostS,results,results89]
theorem zId(p q:Nat)(x y code h:Int)(w:JY)(hp:w.cell? (Qa p 0)=some (Qi x))(Q:w.frozen? (Qa p 0)=false)(hq:w.cell? (Qa q 0)=some (Qi y))(X:w.frozen? (Qa q 0)=false)(K:p≠q):CallsD prog 89 #[Qp p,Qp q] (.panicking [{ v:=.iface 195 (.agg #[Qi code,Qi h]),recovered:=false }]) w fun e u' w'=>
   e=.returned (.tuple #[])/\u'=.panicking [{ v:=.iface 195 (.agg #[Qi code,Qi h]),recovered:=true }]/\∃w1,Qb w w1/\w'=(w1.setCell (Qa p 0) (Qi code)).setCell (Qa q 0) (Qi h):=by
 have H:=block_lt_of_cell hp;have k:=block_lt_of_cell hq;refine callsD_of_wpS func89 rfl fun c₀ cs hu=>?_
 apply wpS_seq;apply wpS_region;simp[wpOpsS,go_sem,recoverD,hu,ntmps89,Exit.thenS];apply wpS_seq;apply wpS_region;simp[wpOpsS,go_sem,hu,ntmps89,Exit.thenS];refine wpS_cond (t:=true) (by simp[Act.eval,Array.replicate]) ?_;simp only[if_true];refine wpS_of_wp ?_;have HA:=zMS code h w;go_wp2_with fail;go_call HA as x1 w1 ⟨rfl,hb1⟩;have p1:=Jc hb1 H hp;have p2:=(hb1.frozen (p:=Qa p 0) H).trans Q;have q1:=Jc hb1 k hq;have q2:=(hb1.frozen (p:=Qa q 0) k).trans X;have q3:(w1.setCell (Qa p 0) (Qi code)).cell? (Qa q 0)=some (Qi y):=(yj _ _ _ _ (fun e=>K (by injection e))).trans q1;go_wp2_with fail;refine⟨rfl,_,rfl,.tuple #[],by simp[results,results89,go_sem],rfl,rfl,w1,hb1,rfl⟩
end Go.Proofs.YtadiaghhackbjaaGreatDoor
