import Derived.Test.YtadiaghhackbjaaGreatDoorU30
namespace Go.Proofs.YtadiaghhackbjaaGreatDoor
set_option linter.all false
set_option maxHeartbeats 0
set_option maxRecDepth 100000
open Proofs.Tryz RowKit Maps
variable{T:Nat -> List OpR}{ks:List ByteArray}{ms:List zH}{w w':World}
def zHw(w:JY)(am:Option Addr)(cm:Nat)(ms:List zH)(e:Ending)(w':JY):Prop:=
 (∃(s k:Nat)(c:Int),s<5/\k<ms.length/\c=(s:Int)+2/\e=.returned (.tuple #[.pointer none,Qi c,Qi k])/\Fl ms s k/\Qb w w') \/
 (e=.returned (.tuple #[Qp (w.heap.size+1),Qi 0,Qi 0])/\∃W X ob,St w W X ob am cm ms 4 ms.length w')
def Sx(w W:JY)(am:Option Addr)(cm:Nat)(ms:List zH)(s:Nat)(wr:JY):Prop:=(s<5/\∃X ob,St w W X ob am cm ms s 0 wr)\/(s=5/\∃X ob,St w W X ob am cm ms 4 ms.length wr)
theorem Sx.start(w:JY)(am:Option Addr)(cm:Nat)(ms:List zH):Sx w (((w.alloc (.map #[] 0)).alloc (.cells #[.slice am ms.length cm,.slice none 0 0,.slice none 0 0,.map none,.map (some w.heap.size),.slice none 0 0] 119)).alloc (.cells #[Qi 2,.func (.func 84) #[Qp (w.heap.size+1)] #[],Qi 3,.func (.func 85) #[Qp (w.heap.size+1)] #[],Qi 4,.func (.func 86) #[Qp (w.heap.size+1)] #[],Qi 5,.func (.func 87) #[Qp (w.heap.size+1)] #[],Qi 6,.func (.func 88) #[Qp (w.heap.size+1)] #[]] 154)) am cm ms 0 (((w.alloc (.map #[] 0)).alloc (.cells #[.slice am ms.length cm,.slice none 0 0,.slice none 0 0,.map none,.map (some w.heap.size),.slice none 0 0] 119)).alloc (.cells #[Qi 2,.func (.func 84) #[Qp (w.heap.size+1)] #[],Qi 3,.func (.func 85) #[Qp (w.heap.size+1)] #[],Qi 4,.func (.func 86) #[Qp (w.heap.size+1)] #[],Qi 5,.func (.func 87) #[Qp (w.heap.size+1)] #[],Qi 6,.func (.func 88) #[Qp (w.heap.size+1)] #[]] 154)):=by
 obtain⟨W1,h⟩:=Jx (w.alloc (.map #[] 0));have z1:W1.heap.size=w.heap.size+1:=by rw[h];simp
 have s1:Zx W1 w.heap.size 0 (fun _=>none):=by rw[h];exact Zx.made w
 rw[<-h];refine yS ⟨Jo,w.heap.size+2,.cells #[Qi 2,.func (.func 84) #[Qp (w.heap.size+1)] #[],Qi 3,.func (.func 85) #[Qp (w.heap.size+1)] #[],Qi 4,.func (.func 86) #[Qp (w.heap.size+1)] #[],Qi 5,.func (.func 87) #[Qp (w.heap.size+1)] #[],Qi 6,.func (.func 88) #[Qp (w.heap.size+1)] #[]] 154,⟨⟨?_,yk _,?_,rfl,Jq,?_⟩,fun i hi=>Jo,.slice none 0 0,[],[],rfl,?_,⟨rfl,fun i hi=>Jo⟩,Jb⟩⟩
 ·have:w.heap.size+2=(W1.alloc (.cells #[.slice am ms.length cm,.slice none 0 0,.slice none 0 0,.map none,.map (some w.heap.size),.slice none 0 0] 119)).heap.size:=by simp[z1]
  rw[this];exact zKK _ _
 ·rw[h];exact((zC _ _).alloc Js _).alloc Jq _
 ·have hz:w.heap.size+1=W1.heap.size:=z1.symm;exact⟨by rw[hz];simp[go_sem],by rw[hz];simp[go_sem]⟩
 ·have hz:w.heap.size+1=W1.heap.size:=z1.symm;refine⟨Jo,Jo,Jo,?_,?_,?_,?_,?_,?_,World.ownsRow_nil _ _ _ _,⟨rfl,fun i hi=>by simp at hi⟩,fun i hi=>by simp at hi,?_⟩
  ·rw[hz];simp[go_sem]
  ·rw[hz];simp[go_sem]
  ·rw[hz];simp[go_sem]
  ·rw[hz];simp[go_sem]
  ·rw[hz];simp[go_sem]
  ·intro o;rw[hz];simp[go_sem]
  ·exact(s1.kept (zE (zC _ _) none) Js).kept (zE (zC _ _) none) Js
theorem zIg(am:Option Addr)(cm:Nat)(ms:List zH)(w:JY)(g:LdG w am ms):Calls prog 51 #[.slice am ms.length cm] w (zHw w am cm ms):=by
 have U:=@run_makeMap prog;have u:∀(w:JY)(a:Addr)(fn:Fn)(x y:Array Value),(store a (.func fn x y)).run prog w=stored prog w a (.func fn x y) .plain:=fun w a fn x y=>run_store prog w a _ .plain rfl
 have hn:=g.hn;have A:¬ (100:Int)<(ms.length:Int):=Jo;have HG:=zB g;have HS:=zB (Sx.start w am cm ms);obtain⟨W0,v⟩:=Jx (((w.alloc (.map #[] 0)).alloc (.cells #[.slice am ms.length cm,.slice none 0 0,.slice none 0 0,.map none,.map (some w.heap.size),.slice none 0 0] 119)).alloc (.cells #[Qi 2,.func (.func 84) #[Qp (w.heap.size+1)] #[],Qi 3,.func (.func 85) #[Qp (w.heap.size+1)] #[],Qi 4,.func (.func 86) #[Qp (w.heap.size+1)] #[],Qi 5,.func (.func 87) #[Qp (w.heap.size+1)] #[],Qi 6,.func (.func 88) #[Qp (w.heap.size+1)] #[]] 154));rw[<-v] at HS;have V:=zB v;have p:=zB (show W0.heap[w.heap.size+2]?=some (.cells #[Qi 2,.func (.func 84) #[Qp (w.heap.size+1)] #[],Qi 3,.func (.func 85) #[Qp (w.heap.size+1)] #[],Qi 4,.func (.func 86) #[Qp (w.heap.size+1)] #[],Qi 5,.func (.func 87) #[Qp (w.heap.size+1)] #[],Qi 6,.func (.func 88) #[Qp (w.heap.size+1)] #[]] 154) by
  rw[v]
  have:w.heap.size+2=((w.alloc (.map #[] 0)).alloc (.cells #[.slice am ms.length cm,.slice none 0 0,.slice none 0 0,.map none,.map (some w.heap.size),.slice none 0 0] 119)).heap.size:=Js
  rw[this]
  exact zKK _ _)
 clear g v;go_enter func51,ntmps51;go_wp2_with fail;rw[<-zA V];go_loopw [33] (fun x wr=>∃s:Nat,s<=5/\x=Qi s/\Hid (Sx w W0 am cm ms s wr)) (fun x _=>5-(intOf x).toNat);case atStart=>exact⟨0,Jo,rfl,HS⟩
 case round=>
  clear HS;obtain⟨s,hs,hx,HS⟩:=hrel;rcases(Jo:s=5\/s=0\/s=1\/s=2\/s=3\/s=4) with rfl|rfl|rfl|rfl|rfl|rfl
  ·have J:_=Value.int .i64 5:=hx;subst J;clear hx;have HF:=zB (show ∃W X ob,St w W X ob am cm ms 4 ms.length wr by
    rcases zA HS with⟨h,_⟩|⟨_,h⟩
    ·omega
    ·exact⟨W0,h⟩)
   go_wp2_with fail;go_ret3;exact yU ⟨rfl,HF⟩
  ·have J:_=Value.int .i64 0:=hx;subst J;clear hx;obtain⟨X0,ob0,K⟩:∃X ob,St w W0 X ob am cm ms 0 0 wr:=by
    rcases zA HS with⟨_,h⟩|⟨h,_⟩
    ·exact h
    ·omega
   have H:=K.ldk.row.trans p;have q0:wr.cell? (Qa (w.heap.size+1+1) 0)=some (Qi 2):=ZH H rfl;have q1:wr.cell? (Qa (w.heap.size+1+1) 1)=some (.func (.func 84) #[Qp (w.heap.size+1)] #[]):=ZH H rfl;have P:w.heap.size+1+1<wr.heap.size:=K.ldk.siz;have HA:=zB (K.alloc (.cells #[Qi 2,.func (.func 84) #[Qp (w.heap.size+1)] #[]] 154));clear K H HS;go_wp2_with fail;obtain⟨wo,rfl⟩:=Jx wr;go_loopw [39] (fun y wi=>∃k:Nat,k<=ms.length/\y=Qi k/\Hid (St w W0 wo.heap.size (.cells #[Qi 2,.func (.func 84) #[Qp (w.heap.size+1)] #[]] 154) am cm ms 0 k wi)) (fun y _=>ms.length-(intOf y).toNat);case atStart=>exact⟨0,ym _,rfl,HA⟩
   case round=>
    clear HA q0 q1;obtain⟨k,hk,rfl,HK⟩:=hrel;by_cases Y:k<ms.length
    ·have j:(k:Int)<(ms.length:Int):=Jo;have b0:wr.cell? (Qa wo.heap.size 0)=some (Qi 2):=ZH HK.ldk.box rfl;have b1:wr.cell? (Qa wo.heap.size 1)=some (.func (.func 84) #[Qp (w.heap.size+1)] #[]):=ZH HK.ldk.box rfl;have HX:=zB (zVd HG Y HK);clear HK;go_wp2_with fail;go_call zA HX as e w1 ⟨b,rfl,ht,hf⟩;cases b
     ·obtain⟨Q,q⟩:=hf rfl;have d0:w1.cell? (Qa wo.heap.size 0)=some (Qi 2):=ZH q.box rfl;have HR:Hid (zHw w am cm ms (.returned (.tuple #[.pointer none,Qi 2,Qi k])) w1.drew):=yS ⟨0,k,2,Jo,Y,rfl,rfl,Q,q.bel.drew⟩;clear ht hf Q q b0 b1;go_wp2_with fail;go_region;go_wp2_with fail;go_ret3;exact HR
     ·have HN:=zB (ht rfl);clear ht hf b0 b1;go_wp2_with fail;exact⟨⟨k+1,Jo,Jn,HN⟩,Ji⟩
    ·have j:¬ (k:Int)<(ms.length:Int):=Jo;obtain rfl:k=ms.length:=Jo;have HN:=zB (show Sx w W0 am cm ms 1 wr from(by have h:=zA HK;exact yS ⟨Jo,_,_,zTg h⟩));clear HK;go_wp2_with fail;exact⟨⟨1,Jo,by first|rfl|go_num,HN⟩,by simp[intOf]⟩
  ·have J:_=Value.int .i64 1:=hx;subst J;clear hx;obtain⟨X0,ob0,K⟩:∃X ob,St w W0 X ob am cm ms 1 0 wr:=by
    rcases zA HS with⟨_,h⟩|⟨h,_⟩
    ·exact h
    ·omega
   have H:=K.ldk.row.trans p;have q0:wr.cell? (Qa (w.heap.size+1+1) 2)=some (Qi 3):=ZH H rfl;have q1:wr.cell? (Qa (w.heap.size+1+1) 3)=some (.func (.func 85) #[Qp (w.heap.size+1)] #[]):=ZH H rfl;have P:w.heap.size+1+1<wr.heap.size:=K.ldk.siz;have HA:=zB (K.alloc (.cells #[Qi 3,.func (.func 85) #[Qp (w.heap.size+1)] #[]] 154));clear K H HS;go_wp2_with fail;obtain⟨wo,rfl⟩:=Jx wr;go_loopw [39] (fun y wi=>∃k:Nat,k<=ms.length/\y=Qi k/\Hid (St w W0 wo.heap.size (.cells #[Qi 3,.func (.func 85) #[Qp (w.heap.size+1)] #[]] 154) am cm ms 1 k wi)) (fun y _=>ms.length-(intOf y).toNat);case atStart=>exact⟨0,ym _,rfl,HA⟩
   case round=>
    clear HA q0 q1;obtain⟨k,hk,rfl,HK⟩:=hrel;by_cases Y:k<ms.length
    ·have j:(k:Int)<(ms.length:Int):=Jo;have b0:wr.cell? (Qa wo.heap.size 0)=some (Qi 3):=ZH HK.ldk.box rfl;have b1:wr.cell? (Qa wo.heap.size 1)=some (.func (.func 85) #[Qp (w.heap.size+1)] #[]):=ZH HK.ldk.box rfl;have HX:=zB (zVe HG Y HK);clear HK;go_wp2_with fail;go_call zA HX as e w1 ⟨b,rfl,ht,hf⟩;cases b
     ·obtain⟨Q,q⟩:=hf rfl;have d0:w1.cell? (Qa wo.heap.size 0)=some (Qi 3):=ZH q.box rfl;have HR:Hid (zHw w am cm ms (.returned (.tuple #[.pointer none,Qi 3,Qi k])) w1.drew):=yS ⟨1,k,3,Jo,Y,rfl,rfl,Q,q.bel.drew⟩;clear ht hf Q q b0 b1;go_wp2_with fail;go_region;go_wp2_with fail;go_ret3;exact HR
     ·have HN:=zB (ht rfl);clear ht hf b0 b1;go_wp2_with fail;exact⟨⟨k+1,Jo,Jn,HN⟩,Ji⟩
    ·have j:¬ (k:Int)<(ms.length:Int):=Jo;obtain rfl:k=ms.length:=Jo;have HN:=zB (show Sx w W0 am cm ms 2 wr from(by have h:=zA HK;exact yS ⟨Jo,_,_,zTh h⟩));clear HK;go_wp2_with fail;exact⟨⟨2,Jo,by first|rfl|go_num,HN⟩,by simp[intOf]⟩
  ·have J:_=Value.int .i64 2:=hx;subst J;clear hx;obtain⟨X0,ob0,K⟩:∃X ob,St w W0 X ob am cm ms 2 0 wr:=by
    rcases zA HS with⟨_,h⟩|⟨h,_⟩
    ·exact h
    ·omega
   have H:=K.ldk.row.trans p;have q0:wr.cell? (Qa (w.heap.size+1+1) 4)=some (Qi 4):=ZH H rfl;have q1:wr.cell? (Qa (w.heap.size+1+1) 5)=some (.func (.func 86) #[Qp (w.heap.size+1)] #[]):=ZH H rfl;have P:w.heap.size+1+1<wr.heap.size:=K.ldk.siz;have HA:=zB (K.alloc (.cells #[Qi 4,.func (.func 86) #[Qp (w.heap.size+1)] #[]] 154));clear K H HS;go_wp2_with fail;obtain⟨wo,rfl⟩:=Jx wr;go_loopw [39] (fun y wi=>∃k:Nat,k<=ms.length/\y=Qi k/\Hid (St w W0 wo.heap.size (.cells #[Qi 4,.func (.func 86) #[Qp (w.heap.size+1)] #[]] 154) am cm ms 2 k wi)) (fun y _=>ms.length-(intOf y).toNat);case atStart=>exact⟨0,ym _,rfl,HA⟩
   case round=>
    clear HA q0 q1;obtain⟨k,hk,rfl,HK⟩:=hrel;by_cases Y:k<ms.length
    ·have j:(k:Int)<(ms.length:Int):=Jo;have b0:wr.cell? (Qa wo.heap.size 0)=some (Qi 4):=ZH HK.ldk.box rfl;have b1:wr.cell? (Qa wo.heap.size 1)=some (.func (.func 86) #[Qp (w.heap.size+1)] #[]):=ZH HK.ldk.box rfl;have HX:=zB (zVf HG Y HK);clear HK;go_wp2_with fail;go_call zA HX as e w1 ⟨b,rfl,ht,hf⟩;cases b
     ·obtain⟨Q,q⟩:=hf rfl;have d0:w1.cell? (Qa wo.heap.size 0)=some (Qi 4):=ZH q.box rfl;have HR:Hid (zHw w am cm ms (.returned (.tuple #[.pointer none,Qi 4,Qi k])) w1.drew):=yS ⟨2,k,4,Jo,Y,rfl,rfl,Q,q.bel.drew⟩;clear ht hf Q q b0 b1;go_wp2_with fail;go_region;go_wp2_with fail;go_ret3;exact HR
     ·have HN:=zB (ht rfl);clear ht hf b0 b1;go_wp2_with fail;exact⟨⟨k+1,Jo,Jn,HN⟩,Ji⟩
    ·have j:¬ (k:Int)<(ms.length:Int):=Jo;obtain rfl:k=ms.length:=Jo;have HN:=zB (show Sx w W0 am cm ms 3 wr from(by have h:=zA HK;exact yS ⟨Jo,_,_,zTi h⟩));clear HK;go_wp2_with fail;exact⟨⟨3,Jo,by first|rfl|go_num,HN⟩,by simp[intOf]⟩
  ·have J:_=Value.int .i64 3:=hx;subst J;clear hx;obtain⟨X0,ob0,K⟩:∃X ob,St w W0 X ob am cm ms 3 0 wr:=by
    rcases zA HS with⟨_,h⟩|⟨h,_⟩
    ·exact h
    ·omega
   have H:=K.ldk.row.trans p;have q0:wr.cell? (Qa (w.heap.size+1+1) 6)=some (Qi 5):=ZH H rfl;have q1:wr.cell? (Qa (w.heap.size+1+1) 7)=some (.func (.func 87) #[Qp (w.heap.size+1)] #[]):=ZH H rfl;have P:w.heap.size+1+1<wr.heap.size:=K.ldk.siz;have HA:=zB (K.alloc (.cells #[Qi 5,.func (.func 87) #[Qp (w.heap.size+1)] #[]] 154));clear K H HS;go_wp2_with fail;obtain⟨wo,rfl⟩:=Jx wr;go_loopw [39] (fun y wi=>∃k:Nat,k<=ms.length/\y=Qi k/\Hid (St w W0 wo.heap.size (.cells #[Qi 5,.func (.func 87) #[Qp (w.heap.size+1)] #[]] 154) am cm ms 3 k wi)) (fun y _=>ms.length-(intOf y).toNat);case atStart=>exact⟨0,ym _,rfl,HA⟩
   case round=>
    clear HA q0 q1;obtain⟨k,hk,rfl,HK⟩:=hrel;by_cases Y:k<ms.length
    ·have j:(k:Int)<(ms.length:Int):=Jo;have b0:wr.cell? (Qa wo.heap.size 0)=some (Qi 5):=ZH HK.ldk.box rfl;have b1:wr.cell? (Qa wo.heap.size 1)=some (.func (.func 87) #[Qp (w.heap.size+1)] #[]):=ZH HK.ldk.box rfl;have HX:=zB (zVg HG Y HK);clear HK;go_wp2_with fail;go_call zA HX as e w1 ⟨b,rfl,ht,hf⟩;cases b
     ·obtain⟨Q,q⟩:=hf rfl;have d0:w1.cell? (Qa wo.heap.size 0)=some (Qi 5):=ZH q.box rfl;have HR:Hid (zHw w am cm ms (.returned (.tuple #[.pointer none,Qi 5,Qi k])) w1.drew):=yS ⟨3,k,5,Jo,Y,rfl,rfl,Q,q.bel.drew⟩;clear ht hf Q q b0 b1;go_wp2_with fail;go_region;go_wp2_with fail;go_ret3;exact HR
     ·have HN:=zB (ht rfl);clear ht hf b0 b1;go_wp2_with fail;exact⟨⟨k+1,Jo,Jn,HN⟩,Ji⟩
    ·have j:¬ (k:Int)<(ms.length:Int):=Jo;obtain rfl:k=ms.length:=Jo;have HN:=zB (show Sx w W0 am cm ms 4 wr from(by have h:=zA HK;exact yS ⟨Jo,_,_,zTj h⟩));clear HK;go_wp2_with fail;exact⟨⟨4,Jo,by first|rfl|go_num,HN⟩,by simp[intOf]⟩
  ·have J:_=Value.int .i64 4:=hx;subst J;clear hx;obtain⟨X0,ob0,K⟩:∃X ob,St w W0 X ob am cm ms 4 0 wr:=by
    rcases zA HS with⟨_,h⟩|⟨h,_⟩
    ·exact h
    ·omega
   have H:=K.ldk.row.trans p;have q0:wr.cell? (Qa (w.heap.size+1+1) 8)=some (Qi 6):=ZH H rfl;have q1:wr.cell? (Qa (w.heap.size+1+1) 9)=some (.func (.func 88) #[Qp (w.heap.size+1)] #[]):=ZH H rfl;have P:w.heap.size+1+1<wr.heap.size:=K.ldk.siz;have HA:=zB (K.alloc (.cells #[Qi 6,.func (.func 88) #[Qp (w.heap.size+1)] #[]] 154));clear K H HS;go_wp2_with fail;obtain⟨wo,rfl⟩:=Jx wr;go_loopw [39] (fun y wi=>∃k:Nat,k<=ms.length/\y=Qi k/\Hid (St w W0 wo.heap.size (.cells #[Qi 6,.func (.func 88) #[Qp (w.heap.size+1)] #[]] 154) am cm ms 4 k wi)) (fun y _=>ms.length-(intOf y).toNat);case atStart=>exact⟨0,ym _,rfl,HA⟩
   case round=>
    clear HA q0 q1;obtain⟨k,hk,rfl,HK⟩:=hrel;by_cases Y:k<ms.length
    ·have j:(k:Int)<(ms.length:Int):=Jo;have b0:wr.cell? (Qa wo.heap.size 0)=some (Qi 6):=ZH HK.ldk.box rfl;have b1:wr.cell? (Qa wo.heap.size 1)=some (.func (.func 88) #[Qp (w.heap.size+1)] #[]):=ZH HK.ldk.box rfl;have HX:=zB (zVh HG Y HK);clear HK;go_wp2_with fail;go_call zA HX as e w1 ⟨b,rfl,ht,hf⟩;cases b
     ·obtain⟨Q,q⟩:=hf rfl;have d0:w1.cell? (Qa wo.heap.size 0)=some (Qi 6):=ZH q.box rfl;have HR:Hid (zHw w am cm ms (.returned (.tuple #[.pointer none,Qi 6,Qi k])) w1.drew):=yS ⟨4,k,6,Jo,Y,rfl,rfl,Q,q.bel.drew⟩;clear ht hf Q q b0 b1;go_wp2_with fail;go_region;go_wp2_with fail;go_ret3;exact HR
     ·have HN:=zB (ht rfl);clear ht hf b0 b1;go_wp2_with fail;exact⟨⟨k+1,Jo,Jn,HN⟩,Ji⟩
    ·have j:¬ (k:Int)<(ms.length:Int):=Jo;obtain rfl:k=ms.length:=Jo;have HN:=zB (show Sx w W0 am cm ms 5 wr from(by have h:=zA HK;exact yU ⟨rfl,_,_,h⟩));clear HK;go_wp2_with fail;exact⟨⟨5,Jo,by first|rfl|go_num,HN⟩,by simp[intOf]⟩
theorem ScM.grw{C bs:Nat}{G:ByteArray->Option Value}{row:Option Nat}(h:ScM w C bs ms T G)(hg:w.grownBy w' row)(hb:row≠some bs)(hd:∀j,j<ms.length->∀x,G (atM ms j).n=some (.agg #[x])->∀g,x.ownBlock=some g->row≠some g):ScM w' C bs ms T G:=by
 refine⟨?_,fun j hj x hx=>?_,h.apt⟩
 ·obtain⟨m,M,hm,hM⟩:=h.mp;exact⟨m,M,hm.kept hg (fun e=>hb e.symm),hM⟩
 ·obtain⟨v,rfl,hv,H⟩:=h.at' j hj x hx;have hz:=hg.size;exact⟨v,rfl,hv.grown hg (fun g e=>hd j hj v hx g e),fun g e=>⟨(H g e).1,Jy ((H g e).2)⟩⟩
theorem ScH.put{B0 C P bs B:Nat}{am:Option Addr}{cm:Nat}{v1:Value}{vs:List UvR}{U:List UnR}{kv:Value}{pv:Option Nat}(h:ScH w B0 C P bs am cm ms v1 vs U kv pv ks)(hz:w.heap.size<=w'.heap.size)(k:C<=B)(K:B<=w.heap.size)(kl:∀g,kv.ownBlock=some g->g<B)(pl:∀g,pv=some g->g<B)(hs:∀q,q<B->q≠P->w'.heap[q]?=w.heap[q]?)(hc:∀o,o≠5->w'.cell? (Qa P o)=w.cell? (Qa P o)/\w'.frozen? (Qa P o)=w.frozen? (Qa P o)):ScH w' B0 C P bs am cm ms v1 vs U kv pv ks:=by
 have hP:=h.hP;have H:=h.hBC;have n:=h.nm;refine⟨h.pg.keep hz (fun i h1 h2=>hs i Jo Jo) (hc 0 Jd).1 (hc 1 Jd).1,⟨(hc 2 Jd).1.trans n.c0,(hc 3 Jd).1.trans n.c1,(hc 2 Jd).2.trans n.f0,(hc 3 Jd).2.trans n.f1,zCj n.row (fun g e=>hs g (kl g e) (fun x=>by rw[x] at e;exact n.nk e)),?_,n.nk,n.np,n.nn⟩,(hc 4 Jd).1.trans h.c4,Jy h.hC,hP,h.hbs,H,h.hne⟩;rcases n.mp with h'|⟨bm,e,h1,h2⟩
 ·exact yS h'
 ·exact yU ⟨bm,e,h1,h2.same (hs bm (pl bm e) (fun x=>by rw[x] at e;exact n.np e))⟩
structure RpI(w wr:JY)(B C:Nat)(am:Option Addr)(cm:Nat)(ms:List zH)(v1:Value)(vs:List UvR)(U:List UnR)(kv:Value)(pv:Option Nat)(ks:List JZ)(T:Nat->List OpR)(vv:Value)(tv:List Value)(ta:List (Option Addr))(out:List (List zD))(G':ByteArray->Option Value):Prop where
 sh:ScH wr (w.heap.size+3) C (w.heap.size+1) w.heap.size am cm ms v1 vs U kv pv ks
 sc:ScM wr C w.heap.size ms T G'
 bel:Qb w wr
 c5:wr.cell? (Qa (w.heap.size+1) 5)=some vv
 f5:wr.frozen? (Qa (w.heap.size+1) 5)=false
 tr:TrI wr B vv tv ta out
 hz:B<=wr.heap.size
 dj:∀j,j<ms.length->∀x,G' (atM ms j).n=some (.agg #[x])->∀g,x.ownBlock=some g->vv.ownBlock≠some g
theorem RpI.step{w wr W w6 w8 w4:JY}{B C cc q0:Nat}{am:Option Addr}{cm:Nat}{ms:List zH}{v1:Value}{vs:List UvR}{U:List UnR}{kv:Value}{pv:Option Nat}{ks:List JZ}{T:Nat->List OpR}{vv v4:Value}{tv:List Value}{ta:List (Option Addr)}{K:List (List zD)}{G' G'':ByteArray->Option Value}{a:Option Addr}{us:List zD}(h:RpI w wr B C am cm ms v1 vs U kv pv ks T vv tv ta K G')(X:C<=B)(kl:∀g,kv.ownBlock=some g->g<B)(pl:∀g,pv=some g->g<B)(hW:Qb wr W)(g2:ScM w6 C w.heap.size ms T G'')(g3:W.grownBy w6 (some w.heap.size))(g5:∀j,j<ms.length->∀x,G'' (atM ms j).n=some (.agg #[x])->G' (atM ms j).n=some (.agg #[x])\/∀g,x.ownBlock=some g->W.heap.size<=g)(h8:w6.grownBy w8 (some q0))(P:wr.heap.size<=q0)(y:q0<W.heap.size\/w6.heap.size<=q0)(ho:Zi w8 wr.heap.size a us)(hg:w8.grownBy w4 vv.ownBlock)(hr:zFe w4 B v4 (tv++[.slice a us.length cc]))(k:v4.ownBlock=vv.ownBlock\/∃q,v4.ownBlock=some q/\w8.heap.size<=q):RpI w (w4.setCell (Qa (w.heap.size+1) 5) v4) B C am cm ms v1 vs U kv pv ks T v4 (tv++[.slice a us.length cc]) (ta++[a]) (K++[us]) G'':=by
 have J:=h.sh.hBC;have hB:=h.hz;have z1:=hW.size;have z2:=g3.size;have z3:=h8.size;have z4:=hg.size;have zb:=h.bel.size;have vl:∀g,vv.ownBlock=some g->B<=g/\g<wr.heap.size:=fun g e=>World.ownsRow.lt h.tr.row g e
 have s8:∀q,q<wr.heap.size->q≠w.heap.size->w8.heap[q]?=wr.heap[q]?:=fun q h1 h2=>(h8.block q Jo (fun e=>by injection e with e;omega)).trans ((g3.block q Jo (fun e=>by injection e with e;exact h2 e)).trans (hW.block q h1))
 have s4:∀q,q<w8.heap.size->vv.ownBlock≠some q->w4.heap[q]?=w8.heap[q]?:=fun q h1 h2=>hg.block q h1 (fun e=>h2 e.symm)
 have nv:∀q,q<B->vv.ownBlock≠some q:=fun q hq e=>Jy ((vl q e).1)
 have zs:(w4.setCell (Qa (w.heap.size+1) 5) v4).heap.size=w4.heap.size:=Jt;have ss:∀q,q≠w.heap.size+1->(w4.setCell (Qa (w.heap.size+1) 5) v4).heap[q]?=w4.heap[q]?:=fun q hq=>je _ _ _ _ (Ju hq)
 have c4:∀o,w4.cell? (Qa (w.heap.size+1) o)=wr.cell? (Qa (w.heap.size+1) o):=fun o=>(yu (w:=w8) (s4 (w.heap.size+1) Jo (nv (w.heap.size+1) Jo))).trans (yu (w:=wr) (s8 (w.heap.size+1) Jo Jo))
 have f4:∀o,w4.frozen? (Qa (w.heap.size+1) o)=wr.frozen? (Qa (w.heap.size+1) o):=fun o=>(yD (w:=w8) (s4 (w.heap.size+1) Jo (nv (w.heap.size+1) Jo))).trans (yD (w:=wr) (s8 (w.heap.size+1) Jo Jo))
 have d6:∀j,j<ms.length->∀x,G'' (atM ms j).n=some (.agg #[x])->∀g,x.ownBlock=some g->vv.ownBlock≠some g:=fun j hj x hx g e e2=>by
  rcases g5 j hj x hx with h1|h1
  ·exact h.dj j hj x h1 g e e2
  ·have:=h1 g e;have:=(vl g e2).2;omega
 have lo:∀j,j<ms.length->∀x,G'' (atM ms j).n=some (.agg #[x])->∀g,x.ownBlock=some g->C<=g/\g<w6.heap.size:=fun j hj x hx g e=>by
  obtain⟨x',e1,_,H⟩:=g2.at' j hj _ hx;have e2:x=x':=Ju e1
  subst e2;exact H g e
 refine⟨?_,?_,?_,?_,?_,?_,Jo,?_⟩
 ·have s6:∀q,q<B->w4.heap[q]?=w6.heap[q]?:=fun q hq=>(s4 q Jo (nv q hq)).trans (h8.block q Jo (fun e=>by injection e with e;omega))
  refine((h.sh.below hW).keep g3).put (B:=B) Jo X Jo kl pl (fun q hq Q=>(ss q Q).trans (s6 q hq)) (fun o Y=>⟨?_,?_⟩)
  ·exact(yj _ _ _ _ (by intro x;injection x with _ x;omega)).trans (yu (w:=w6) (s6 (w.heap.size+1) Jo))
  ·exact(yv _ _ _ _).trans (yD (w:=w6) (s6 (w.heap.size+1) Jo))
 ·have nq:∀j,j<ms.length->∀x,G'' (atM ms j).n=some (.agg #[x])->∀g,x.ownBlock=some g->(some q0:Option Nat)≠some g:=fun j hj x hx g e e2=>by
   injection e2 with e2;have h6:=(lo j hj x hx g e).2;rcases g5 j hj x hx with h1|h1
   ·obtain⟨x',e1,_,H⟩:=h.sc.at' j hj _ h1;have e3:x=x':=Ju e1
    subst e3;have:=(H g e).2;omega
   ·have:=h1 g e;omega
  exact((g2.grw h8 (fun e=>by injection e with e;omega) nq).grw hg (nv _ Jo) d6).grw (ZJ w4 (w.heap.size+1) 5 v4) (fun e=>by injection e with e;omega) (fun j hj x hx g e e2=>by injection e2 with e2;have:=(lo j hj x hx g e).1;omega)
 ·exact((((h.bel.trans (hW.mono zb)).grown g3 Jo (fun q e=>by injection e with e;omega)).grown h8 Jo (fun q e=>by injection e with e;omega)).grown hg Jo (fun q e=>Jy ((vl q e).1))).setCell (p:=(Qa (w.heap.size+1) 5)) Js _
 ·exact yt _ _ _ ((c4 5).trans h.c5)
 ·exact(yv _ _ _ _).trans ((f4 5).trans h.f5)
 ·exact(h.tr.step hB Jo (fun q h1 h2=>s8 q h2 Jo) ho hg hr k).keep Jo (fun q h1 _=>ss q Jo)
 ·intro j hj x hx g e e2;rcases k with h3|⟨q,h3,h4⟩
  ·exact d6 j hj x hx g e (h3.symm.trans e2)
  ·rw[h3] at e2;injection e2 with e2;have:=(lo j hj x hx g e).2;omega
theorem zRV(hb:Qb w w')(q o:Nat)(v:Value):w.grownBy (w'.setCell (Qa q o) v) (some q):=
 ⟨hb.os,hb.tape,hb.output,by simp[World.setCell];exact hb.size,fun i hi h=>(je _ _ _ _ (fun e=>h (by rw[e]))).trans (hb.block i hi)⟩
theorem zPg{w'':JY}{row:Option Nat}(hg:w.grownBy w' row)(hb:Qb w' w''):w.grownBy w'' row:=
 ⟨hb.os.trans hg.os,hb.tape.trans hg.tape,hb.output.trans hg.output,yw hg.size hb.size,fun i hi h=>(hb.block i (yl hi hg.size)).trans (hg.block i hi h)⟩
structure RpB(w wr W8:JY)(B C cc:Nat)(am:Option Addr)(cm:Nat)(ms:List zH)(v1:Value)(vs:List UvR)(U:List UnR)(kv:Value)(pv:Option Nat)(ks:List JZ)(T:Nat->List OpR)(vv:Value)(tv:List Value)(ta:List (Option Addr))(out:List (List zD))(G'':ByteArray->Option Value)(a:Option Addr)(us:List zD):Prop where
 c5:W8.cell? (Qa (w.heap.size+1) 5)=some vv
 f5:W8.frozen? (Qa (w.heap.size+1) 5)=false
 row:zFe W8 B vv tv
 bel:Qb w W8
 siz:wr.heap.size<=W8.heap.size
 step:∀(w8 w4:JY)(v4:Value),Qb W8 w8->w8.grownBy w4 vv.ownBlock->zFe w4 B v4 (tv++[.slice a us.length cc])->(v4.ownBlock=vv.ownBlock\/∃q,v4.ownBlock=some q/\w8.heap.size<=q)->RpI w (w4.setCell (Qa (w.heap.size+1) 5) v4) B C am cm ms v1 vs U kv pv ks T v4 (tv++[.slice a us.length cc]) (ta++[a]) (out++[us]) G''
theorem RpI.read{wr W w6 W8:JY}{B C cc q0:Nat}{am:Option Addr}{cm:Nat}{v1:Value}{vs:List UvR}{U:List UnR}{kv:Value}{pv:Option Nat}{vv:Value}{tv:List Value}{ta:List (Option Addr)}{H:List (List zD)}{G' G'':ByteArray->Option Value}{a:Option Addr}{us:List zD}(h:RpI w wr B C am cm ms v1 vs U kv pv ks T vv tv ta H G')(k:C<=B)(kl:(∀g,kv.ownBlock=some g->g<B)/\∀g,pv=some g->g<B)(hW:Qb wr W)(hg:ScM w6 C w.heap.size ms T G''/\W.grownBy w6 (some w.heap.size)/\∀j,j<ms.length->∀x,G'' (atM ms j).n=some (.agg #[x])->G' (atM ms j).n=some (.agg #[x])\/∀g,x.ownBlock=some g->W.heap.size<=g)(h8:w6.grownBy W8 (some q0))(y:wr.heap.size<=q0)(K:q0<W.heap.size\/w6.heap.size<=q0)(ho:Zi W8 wr.heap.size a us):RpB w wr W8 B C cc am cm ms v1 vs U kv pv ks T vv tv ta H G'' a us:=by
 have Y:=h.sh.hBC;have hB:=h.hz;have z1:=hW.size;have z2:=hg.2.1.size;have z3:=h8.size;have zb:=h.bel.size;have s8:∀q,q<wr.heap.size->q≠w.heap.size->W8.heap[q]?=wr.heap[q]?:=fun q h1 h2=>(h8.block q Jo (fun e=>by injection e with e;omega)).trans ((hg.2.1.block q Jo (fun e=>by injection e with e;exact h2 e)).trans (hW.block q h1))
 refine⟨(yu (w:=wr) (s8 (w.heap.size+1) Jo Jo)).trans h.c5,(yD (w:=wr) (s8 (w.heap.size+1) Jo Jo)).trans h.f5,zBx h.tr.row (fun g e=>s8 g (World.ownsRow.lt h.tr.row g e).2 (Jy ((World.ownsRow.lt h.tr.row g e).1))),?_,Jo,fun w8 w4 v4 hb X hr Q=>?_⟩
 ·exact((h.bel.trans (hW.mono zb)).grown hg.2.1 Jo (fun q e=>by injection e with e;omega)).grown h8 Jo (fun q e=>by injection e with e;omega)
 ·exact h.step k kl.1 kl.2 hW hg.1 hg.2.1 hg.2.2 (zPg h8 hb) y K (ho.step hb) X hr Q
end Go.Proofs.YtadiaghhackbjaaGreatDoor
