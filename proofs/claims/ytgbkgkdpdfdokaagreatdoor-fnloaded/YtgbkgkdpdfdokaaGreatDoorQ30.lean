import Derived.Test.YtgbkgkdpdfdokaaGreatDoorQ28
import Derived.Test.YtgbkgkdpdfdokaaGreatDoorQ29
namespace Go.Proofs.YtgbkgkdpdfdokaaGreatDoor
set_option linter.all false
set_option maxHeartbeats 16000000
set_option maxRecDepth 100000
open Go.RowKit
theorem zOz (rp cap p g c:Nat) (a:Option Addr) (bs:List UInt8) (ms:List zF) (w0 w:JY) (h:SpS w0 w rp cap a bs g c ms p) (hl:bs.length<=1200) (N:1<=ms.length) (s:ms.length<=4) (hz:MsZ 3 2000000000000 ms) (V:nxt bs p%16≠8/\nxt bs p%16≠15/\nxt bs p%8≠0/\nxt bs p%8≠1/\nxt bs p%8≠2/\nxt bs p%8≠3/\nxt bs p%8≠4/\nxt bs p%8≠5/\nxt bs p%16≠6/\nxt bs p%16≠14) :
  Calls Tryz.prog 23 #[.pointer (some ⟨rp,0,none⟩),.slice (some ⟨g,0,none⟩) ms.length c] w (zAi w0 rp cap a bs (fun ms'=>ms'=zBE bs p ms)):=by
 have H:=zB h
 have b:=zB hz
 clear h hz
 go_enter Tryz.func23,Tryz.ntmps23
 go_wp2_with fail
 (with_reducible refine (zM rp cap p a bs _ (zA H).rd hl).mono ?_)
 rintro e w1 ⟨⟨k,rfl,hk,HK⟩,H1,HP1⟩
 have u:=zB ((zA H).read (zA HP1) (zA H1))
 clear H H1 HP1
 go_wp2_with fail
 (with_reducible refine (zM rp cap (adv bs p) a bs _ (zA u).rd hl).mono ?_)
 rintro e w2 ⟨⟨ik,rfl,hik,HIK⟩,H2,HP2⟩
 have U:=zB ((zA u).read (zA HP2) (zA H2))
 clear u H2 HP2
 obtain ⟨i,HI⟩:∃ i,Hid (i=ik%ms.length):=⟨_,zB rfl⟩
 have hi:i<ms.length:=by rw [zA HI]; exact Nat.mod_lt _ (by omega)
 have O:(i:Int)<(ms.length:Int):=by omega
 have l:((ms.length:Int)==0)=false:=yU.2 (by omega)
 have tmi:(ik:Int).tmod (ms.length:Int)=(i:Int):=by rw [yu (by omega),zA HI]; simp
 have tmj:(ik:Int)%(ms.length:Int)=(i:Int):=by rw [zA HI]; simp
 go_wp2_with fail
 (with_reducible refine (zM rp cap (adv bs (adv bs p)) a bs _ (zA U).rd hl).mono ?_)
 rintro e w3 ⟨⟨v,rfl,hv,HV⟩,H3,HP3⟩
 have X:=zB ((zA U).read (zA HP3) (zA H3))
 clear U H3 HP3 tmi tmj l
 have L:=zB V
 rw [<- zA HK] at V
 have t0:((k:Int)%16==8)=false:=by simp; omega
 have t1:((k:Int)%16==15)=false:=by simp; omega
 have t2:((k:Int)%8==0)=false:=by simp; omega
 have t3:((k:Int)%8==1)=false:=by simp; omega
 have t4:((k:Int)%8==2)=false:=by simp; omega
 have t5:((k:Int)%8==3)=false:=by simp; omega
 have t6:((k:Int)%8==4)=false:=by simp; omega
 have t7:((k:Int)%8==5)=false:=by simp; omega
 have t8:((k:Int)%16==6)=false:=by simp; omega
 have t9:((k:Int)%16==14)=false:=by simp; omega
 obtain ⟨c0,c1,f0,f1⟩:=(zA X).cells hi
 obtain ⟨nm,y⟩:∃ nm,nm=(atM ms i).n:=⟨_,rfl⟩
 obtain ⟨tx,Q⟩:∃ tx,tx=(atM ms i).t:=⟨_,rfl⟩
 have f:=(zA b) i
 rw [<- y,<- Q] at f
 obtain ⟨R,o⟩:=f
 rw [<- y] at c0
 rw [<- Q] at c1
 have G:=zB (yH y Q)
 clear y Q
 clear V
 have d:=zC w3 (.cells #[.string nm,.string tx] 29)
 obtain ⟨i2,B,E,D,C⟩:=info_parts zEP
 have Y:=zB ((zA X).row.below d)
 have r:w0.heap.size<=w3.heap.size:=(zA X).kp.size
 have HQ:=zB (yH B (yH E (yH D C)))
 clear B E D C
 go_wp2_with (at_builtin; refine yJ _ rfl (.tmp 231) (.tmp 236) 23 rfl w0.heap.size 29 i2 _ 2 32 Tryz.underlying23 (zA HQ).1 (zA HQ).2.1 (zA HQ).2.2.1 (zA HQ).2.2.2 rfl (by decide) _ ms.length (zY ms) rfl (zA Y) ⟨w3.heap.size,0,none⟩ 1 1 (zY [⟨nm,tx⟩]) rfl rfl (Z6 w3 ⟨nm,tx⟩) (Z9 _) ?b1 ?b2 ?b3 ?next)
 case b1=>unfold maxLen; omega
 case b2=>omega
 case b3=>simp; omega
 case next=>
  intro v6 w6 q K J A
  obtain ⟨g6,c6,I,j,rfl,F⟩:=((zA X).below d).app (vs:=[⟨nm,tx⟩]) (by simp) q K
  have m:=zB F
  have P:=zB j
  clear q K J A j F Y
  go_wp2_with fail
  go_ret
  have M:I.length=ms.length+1:=by rw [zA P]; simp
  refine zJO (zA m) (by omega) (by omega) ?_ ?_
  ·rw [zA P]
   exact ((zA b).mono (by decide) (by decide)).snoc (by show nm.size<=_; omega) (by show tx.size<=_; omega)
  ·rw [zA P]
   have hc:=zA L
   unfold zBE
   rw [yN (by omega),yN (by omega),yN (by omega),yN (by omega),yN (by omega),yN (by omega),yN (fun x=>yP x.1 (by omega)),yN (by omega),yN (by omega),yN (by omega),<- zA HIK,<- zA HI]
   rw [(zA G).1,(zA G).2]
theorem zO0 (rp cap p g c:Nat) (a:Option Addr) (bs:List UInt8) (ms:List zF) (w0 w:JY) (h:SpS w0 w rp cap a bs g c ms p) (hl:bs.length<=1200) (o:1<=ms.length) (T:ms.length<=4) (hz:MsZ 3 2000000000000 ms) (y:nxt bs p%16≠8/\nxt bs p%16≠15/\nxt bs p%8≠0/\nxt bs p%8≠1/\nxt bs p%8≠2/\nxt bs p%8≠3/\nxt bs p%8=4/\(atM ms (nxt bs (adv bs p)%ms.length)).t.size=0) :
  Calls Tryz.prog 23 #[.pointer (some ⟨rp,0,none⟩),.slice (some ⟨g,0,none⟩) ms.length c] w (zAi w0 rp cap a bs (fun ms'=>ms'=zBE bs p ms)):=by
 have H:=zB h
 have C:=zB hz
 clear h hz
 go_enter Tryz.func23,Tryz.ntmps23
 go_wp2_with fail
 (with_reducible refine (zM rp cap p a bs _ (zA H).rd hl).mono ?_)
 rintro e w1 ⟨⟨k,rfl,hk,HK⟩,H1,HP1⟩
 have u:=zB ((zA H).read (zA HP1) (zA H1))
 clear H H1 HP1
 go_wp2_with fail
 (with_reducible refine (zM rp cap (adv bs p) a bs _ (zA u).rd hl).mono ?_)
 rintro e w2 ⟨⟨ik,rfl,hik,HIK⟩,H2,HP2⟩
 have U:=zB ((zA u).read (zA HP2) (zA H2))
 clear u H2 HP2
 obtain ⟨i,HI⟩:∃ i,Hid (i=ik%ms.length):=⟨_,zB rfl⟩
 have hi:i<ms.length:=by rw [zA HI]; exact Nat.mod_lt _ (by omega)
 have r:(i:Int)<(ms.length:Int):=by omega
 have L:((ms.length:Int)==0)=false:=yU.2 (by omega)
 have tmi:(ik:Int).tmod (ms.length:Int)=(i:Int):=by rw [yu (by omega),zA HI]; simp
 have tmj:(ik:Int)%(ms.length:Int)=(i:Int):=by rw [zA HI]; simp
 go_wp2_with fail
 (with_reducible refine (zM rp cap (adv bs (adv bs p)) a bs _ (zA U).rd hl).mono ?_)
 rintro e w3 ⟨⟨v,rfl,hv,HV⟩,H3,HP3⟩
 have X:=zB ((zA U).read (zA HP3) (zA H3))
 clear U H3 HP3 tmi tmj L
 have m:=zB y
 rw [<- zA HK] at y
 have t0:((k:Int)%16==8)=false:=by simp; omega
 have t1:((k:Int)%16==15)=false:=by simp; omega
 have t2:((k:Int)%8==0)=false:=by simp; omega
 have t3:((k:Int)%8==1)=false:=by simp; omega
 have t4:((k:Int)%8==2)=false:=by simp; omega
 have t5:((k:Int)%8==3)=false:=by simp; omega
 have t6:((k:Int)%8==4)=true:=by simp; omega
 have t7:((k:Int)%8==5)=false:=by simp; omega
 have t8:((k:Int)%16==6)=false:=by simp; omega
 have t9:((k:Int)%16==14)=false:=by simp; omega
 have b:(atM ms i).t.size=0:=by rw [zA HI,zA HIK]; exact y.2.2.2.2.2.2.2
 obtain ⟨c0,c1,f0,f1⟩:=(zA X).cells hi
 obtain ⟨nm,Y⟩:∃ nm,nm=(atM ms i).n:=⟨_,rfl⟩
 obtain ⟨tx,Q⟩:∃ tx,tx=(atM ms i).t:=⟨_,rfl⟩
 have G:=(zA C) i
 rw [<- Y,<- Q] at G
 obtain ⟨S,O⟩:=G
 rw [<- Y] at c0
 rw [<- Q] at c1
 have A:=zB (yH Y Q)
 clear Y Q
 clear y
 rw [<- (zA A).2] at b
 have R:¬ (0:Int)<(tx.size:Int):=by omega
 have E:=zC w3 (.cells #[.string nm,.string tx] 29)
 obtain ⟨i2,d,F,f,D⟩:=info_parts zEP
 have j:=zB ((zA X).row.below E)
 have s:w0.heap.size<=w3.heap.size:=(zA X).kp.size
 have HQ:=zB (yH d (yH F (yH f D)))
 clear d F f D
 go_wp2_with (at_builtin; refine yJ _ rfl (.tmp 231) (.tmp 236) 23 rfl w0.heap.size 29 i2 _ 2 32 Tryz.underlying23 (zA HQ).1 (zA HQ).2.1 (zA HQ).2.2.1 (zA HQ).2.2.2 rfl (by decide) _ ms.length (zY ms) rfl (zA j) ⟨w3.heap.size,0,none⟩ 1 1 (zY [⟨nm,tx⟩]) rfl rfl (Z6 w3 ⟨nm,tx⟩) (Z9 _) ?b1 ?b2 ?b3 ?next)
 case b1=>unfold maxLen; omega
 case b2=>omega
 case b3=>simp; omega
 case next=>
  intro v6 w6 q K P B
  obtain ⟨g6,c6,l,J,rfl,I⟩:=((zA X).below E).app (vs:=[⟨nm,tx⟩]) (by simp) q K
  have M:=zB I
  have V:=zB J
  clear q K P B J I j
  go_wp2_with fail
  go_ret
  have N:l.length=ms.length+1:=by rw [zA V]; simp
  refine zJO (zA M) (by omega) (by omega) ?_ ?_
  ·rw [zA V]
   exact ((zA C).mono (by decide) (by decide)).snoc (by show nm.size<=_; omega) (by show tx.size<=_; omega)
  ·rw [zA V]
   have hc:=zA m
   have h0:=hc.2.2.2.2.2.2.2
   unfold zBE
   rw [yN (by omega),yN (by omega),yN (by omega),yN (by omega),yN (by omega),yN (by omega),yN (fun x=>yP x.2 (by omega)),yN (by omega),yN (by omega),yN (by omega),<- zA HIK,<- zA HI]
   rw [(zA A).1,(zA A).2]
theorem zO1 (rp cap p g c:Nat) (a:Option Addr) (bs:List UInt8) (ms:List zF) (w0 w:JY) (h:SpS w0 w rp cap a bs g c ms p) (hl:bs.length<=1200) (D:1<=ms.length) (B:ms.length<=4) (hz:MsZ 3 2000000000000 ms) (Q:nxt bs p%16≠8/\nxt bs p%16≠15/\nxt bs p%8≠0/\nxt bs p%8≠1/\nxt bs p%8≠2/\nxt bs p%8≠3/\nxt bs p%8=4/\0<(atM ms (nxt bs (adv bs p)%ms.length)).t.size) :
  Calls Tryz.prog 23 #[.pointer (some ⟨rp,0,none⟩),.slice (some ⟨g,0,none⟩) ms.length c] w (zAi w0 rp cap a bs (fun ms'=>ms'=zBE bs p ms)):=by
 have H:=zB h
 have P:=zB hz
 clear h hz
 go_enter Tryz.func23,Tryz.ntmps23
 go_wp2_with fail
 (with_reducible refine (zM rp cap p a bs _ (zA H).rd hl).mono ?_)
 rintro e w1 ⟨⟨k,rfl,hk,HK⟩,H1,HP1⟩
 have Y:=zB ((zA H).read (zA HP1) (zA H1))
 clear H H1 HP1
 go_wp2_with fail
 (with_reducible refine (zM rp cap (adv bs p) a bs _ (zA Y).rd hl).mono ?_)
 rintro e w2 ⟨⟨ik,rfl,hik,HIK⟩,H2,HP2⟩
 have j:=zB ((zA Y).read (zA HP2) (zA H2))
 clear Y H2 HP2
 obtain ⟨i,HI⟩:∃ i,Hid (i=ik%ms.length):=⟨_,zB rfl⟩
 have hi:i<ms.length:=by rw [zA HI]; exact Nat.mod_lt _ (by omega)
 have F:(i:Int)<(ms.length:Int):=by omega
 have A:((ms.length:Int)==0)=false:=yU.2 (by omega)
 have tmi:(ik:Int).tmod (ms.length:Int)=(i:Int):=by rw [yu (by omega),zA HI]; simp
 have tmj:(ik:Int)%(ms.length:Int)=(i:Int):=by rw [zA HI]; simp
 go_wp2_with fail
 (with_reducible refine (zM rp cap (adv bs (adv bs p)) a bs _ (zA j).rd hl).mono ?_)
 rintro e w3 ⟨⟨v,rfl,hv,HV⟩,H3,HP3⟩
 have y:=zB ((zA j).read (zA HP3) (zA H3))
 clear j H3 HP3 tmi tmj A
 have b:=zB Q
 rw [<- zA HK] at Q
 have t0:((k:Int)%16==8)=false:=by simp; omega
 have t1:((k:Int)%16==15)=false:=by simp; omega
 have t2:((k:Int)%8==0)=false:=by simp; omega
 have t3:((k:Int)%8==1)=false:=by simp; omega
 have t4:((k:Int)%8==2)=false:=by simp; omega
 have t5:((k:Int)%8==3)=false:=by simp; omega
 have t6:((k:Int)%8==4)=true:=by simp; omega
 have K:0<(atM ms i).t.size:=by rw [zA HI,zA HIK]; exact Q.2.2.2.2.2.2.2
 obtain ⟨c0,c1,f0,f1⟩:=(zA y).cells hi
 obtain ⟨nm,X⟩:∃ nm,nm=(atM ms i).n:=⟨_,rfl⟩
 obtain ⟨tx,q⟩:∃ tx,tx=(atM ms i).t:=⟨_,rfl⟩
 have V:=(zA P) i
 rw [<- X,<- q] at V
 obtain ⟨M,E⟩:=V
 rw [<- X] at c0
 rw [<- q] at c1
 have J:=zB (yH X q)
 clear X q
 clear Q
 rw [<- (zA J).2] at K
 have l:(0:Int)<(tx.size:Int):=by omega
 have N:((tx.size:Int)==0)=false:=yU.2 (by omega)
 have f:¬ tx=ByteArray.empty:=fun e=>by rw [e] at K; exact yP K (by decide)
 have d:¬ (tx.size:Int)=0:=by omega
 have U:=zB (zM rp cap _ a bs w3.drew ((zA y).rd.below (yG _ _).drew) hl)
 go_upto_region 24 with fail
 go_region_held3 (fun W=>W.cell? ⟨g,i*2+1,none⟩=some (.string tx)) (first | (go_keep; done) | exact c1a) (first
  | (go_at_call 21; (with_reducible refine (zA U).mono ?_); rintro e w5 ⟨⟨x,rfl,hx,HX5⟩,H5,HP5⟩; have u:=zB (((zA y).below (yG _ _).drew).read (zA HP5) (zA H5)); obtain ⟨_,c1a,_,f1a⟩:=(zA u).cells hi; rw [<- (zA J).2] at c1a; obtain ⟨m,HM⟩:∃ m,Hid (m=(v*256+x)%tx.size):=⟨_,zB rfl⟩; have I:m<tx.size:=(by rw [zA HM]; exact Nat.mod_lt _ K); have tm1:IntKind.i64.wrap ((v:Int)*256)=((v*256:Nat):Int):=(by rw [Go.IntWalk.i64_in _ (by omega)]; omega); have tm2:IntKind.i64.wrap (((v*256:Nat):Int)+(x:Int))=((v*256+x:Nat):Int):=(by rw [Go.IntWalk.i64_in _ (by omega)]; omega); have tm3:((v*256+x:Nat):Int).tmod (tx.size:Int)=(m:Int):=(by rw [yu (by omega),zA HM]; simp); have tm4:((v:Int)*256+(x:Int)).tmod (tx.size:Int)=(m:Int):=(by rw [<- tm3]; congr 1); have tm5:(IntKind.i64.wrap ((v:Int)*256+(x:Int))).tmod (tx.size:Int)=(m:Int):=(by rw [Go.IntWalk.i64_in _ (by omega)]; exact tm4); have tm6:((v:Int)*256+(x:Int))%(tx.size:Int)=(m:Int):=(by rw [<- yu (by omega)]; exact tm4); clear H5 HP5))
 all_goals
  have m1:(0:Int)<=(m:Int):=by omega
  have m2:(m:Int)<=(tx.size:Int):=by omega
  have m3:(m:Int)+1<=(tx.size:Int):=by omega
  have m4:IntKind.i64.wrap ((m:Int)+1)=(m:Int)+1:=Go.IntWalk.i64_in _ (by omega)
  have m5:((m:Int)+1).toNat=m+1:=by omega
  have m6:(0:Int)<=(m:Int)+1:=by omega
  have G:(tx.extract 0 m).size<=2000000000000:=by rw [yw]; omega
  have L:(tx.extract (m+1) tx.size).size<=2000000000000:=by rw [yw]; omega
  have C:(tx.extract 0 m).size+(tx.extract (m+1) tx.size).size<=2000000000000:=by rw [yw,yw]; omega
  go_upto_region 25 with fail
  try rw [tm5]
  try rw [tm6]
  clear tm1 tm2 tm3 tm4 tm5 tm6
  go_region
  all_goals
   go_wp2_with fail
   go_ret
   refine zDv ((zA u).below (yG _ _).drew) hi (zA P) B ?_ ?_
   ·rw [za]; show (tx.extract 0 m).size+(tx.extract (m+1) tx.size).size<=_; omega
   ·have hc:=zA b
    have h0:=hc.2.2.2.2.2.2.2
    unfold zBE
    rw [yN (by omega),yN (by omega),yN (by omega),yN (by omega),yN (by omega),yN (by omega),yO ⟨by omega,h0⟩,<- zA HIK,<- zA HI,<- zA HV,<- zA HX5,<- (zA J).2,<- zA HM]
theorem zLn {n:Nat}:∀ {f:Nat} {ms:List zF},n<=ms.length->zFx n f ms=ms
 | 0,ms,_=>rfl
 | f+1,ms,h=>by simp only [zFx]; rw [yN (by omega)]
theorem zO2 (rp cap p g c:Nat) (a:Option Addr) (bs:List UInt8) (ms:List zF) (w0 w:JY) (h:SpS w0 w rp cap a bs g c ms p) (hl:bs.length<=1200) (z:1<=ms.length) (h3:ms.length<=4) (hz:MsZ 3 2000000000000 ms) (V:nxt bs p%16≠8/\nxt bs p%16≠15/\nxt bs p%8≠0/\nxt bs p%8≠1/\nxt bs p%8≠2/\nxt bs p%8≠3/\nxt bs p%8≠4/\nxt bs p%8≠5/\nxt bs p%16=6) :
  Calls Tryz.prog 23 #[.pointer (some ⟨rp,0,none⟩),.slice (some ⟨g,0,none⟩) ms.length c] w (zAi w0 rp cap a bs (fun ms'=>ms'=zBE bs p ms)):=by
 have H:=zB h
 have E:=zB hz
 clear h hz
 go_enter Tryz.func23,Tryz.ntmps23
 go_wp2_with fail
 (with_reducible refine (zM rp cap p a bs _ (zA H).rd hl).mono ?_)
 rintro e w1 ⟨⟨k,rfl,hk,HK⟩,H1,HP1⟩
 have U:=zB ((zA H).read (zA HP1) (zA H1))
 clear H H1 HP1
 go_wp2_with fail
 (with_reducible refine (zM rp cap (adv bs p) a bs _ (zA U).rd hl).mono ?_)
 rintro e w2 ⟨⟨ik,rfl,hik,HIK⟩,H2,HP2⟩
 have A:=zB ((zA U).read (zA HP2) (zA H2))
 clear U H2 HP2
 obtain ⟨i,HI⟩:∃ i,Hid (i=ik%ms.length):=⟨_,zB rfl⟩
 have hi:i<ms.length:=by rw [zA HI]; exact Nat.mod_lt _ (by omega)
 have hw:(i:Int)<(ms.length:Int):=by omega
 have hg:((ms.length:Int)==0)=false:=yU.2 (by omega)
 have tmi:(ik:Int).tmod (ms.length:Int)=(i:Int):=by rw [yu (by omega),zA HI]; simp
 have tmj:(ik:Int)%(ms.length:Int)=(i:Int):=by rw [zA HI]; simp
 go_wp2_with fail
 (with_reducible refine (zM rp cap (adv bs (adv bs p)) a bs _ (zA A).rd hl).mono ?_)
 rintro e w3 ⟨⟨v,rfl,hv,HV⟩,H3,HP3⟩
 have P:=zB ((zA A).read (zA HP3) (zA H3))
 clear A H3 HP3 tmi tmj hg
 have hj:=zB V
 rw [<- zA HK] at V
 have t0:((k:Int)%16==8)=false:=by simp; omega
 have t1:((k:Int)%16==15)=false:=by simp; omega
 have t2:((k:Int)%8==0)=false:=by simp; omega
 have t3:((k:Int)%8==1)=false:=by simp; omega
 have t4:((k:Int)%8==2)=false:=by simp; omega
 have t5:((k:Int)%8==3)=false:=by simp; omega
 have t6:((k:Int)%8==4)=false:=by simp; omega
 have t7:((k:Int)%8==5)=false:=by simp; omega
 have t8:((k:Int)%16==6)=true:=by simp; omega
 obtain ⟨c0,c1,f0,f1⟩:=(zA P).cells hi
 obtain ⟨nm,Y⟩:∃ nm,nm=(atM ms i).n:=⟨_,rfl⟩
 obtain ⟨tx,y⟩:∃ tx,tx=(atM ms i).t:=⟨_,rfl⟩
 have r:=(zA E) i
 rw [<- Y,<- y] at r
 obtain ⟨h0,hr⟩:=r
 rw [<- Y] at c0
 rw [<- y] at c1
 have h1:=zB (yH Y y)
 clear Y y
 clear V
 obtain ⟨N,hN⟩:∃ N,N=100+v%2:=⟨_,rfl⟩
 have hq:(100:Int)+(v:Int)%2=(N:Int):=by omega
 have ht:N<=101:=by omega
 have hs:100<=N:=by omega
 have HN:=zB hN
 have R:=zB (show zFx N 101 ms=zBE bs p ms by
  have hc:=zA hj
  unfold zBE
  rw [yN (by omega),yN (by omega),yN (by omega),yN (by omega),yN (by omega),yN (by omega),yN (fun x=>yP x.1 (by omega)),yN (by omega),yO (by omega),<- zA HV,<- hN])
 obtain ⟨i2,G,O,M,m⟩:=info_parts zEP
 have HQ:=zB (yH G (yH O (yH M m)))
 have I:=zB (show MsZ 100 3000000000000 ms from (zA E).mono (by decide) (by decide))
 clear G O M m hN c0 c1 f0 f1
 go_wp2_with fail
 go_loopg [1] (101) (fun f mv wr=>∃ (F g c:Nat) (us:List zF),F=f/\mv = .slice (some ⟨g,0,none⟩) us.length c/\1<=us.length/\us.length<=N/\N-us.length<=F/\Hid (zFx N F us=zBE bs p ms)/\Hid (MsZ 100 3000000000000 us)/\Hid (SpS w0 wr rp cap a bs g c us (adv bs (adv bs (adv bs p)))))
 case atStart=>exact ⟨101,g,c,ms,rfl,rfl,z,by omega,by omega,R,I,P⟩
 case round=>
  clear R I P
  obtain ⟨F,g,c,us,hx,rfl,W,h2,hu,HF,S,HS⟩:=hrel
  obtain ⟨wo,Z⟩:∃ wo,wo=wr:=⟨_,rfl⟩
  subst Z
  by_cases hf:us.length<N
  ·have l:(us.length:Int)<(N:Int):=by omega
   have u:=zB (zFX 7 us.length wo (by omega) (by decide) (by decide) (by omega))
   have hn:=zGM 7 us.length
   obtain ⟨D,hD⟩:∃ D,D=zBr 7 us.length:=⟨_,rfl⟩
   rw [<- hD] at u hn
   have HD:=zB hD
   clear hD
   go_wp2_with fail
   (with_reducible refine (zA u).mono ?_)
   rintro e w5 ⟨rfl,hb5⟩
   obtain ⟨nz,B⟩:∃ nz,nz=(⟨#[122]⟩:JZ)++D:=⟨_,rfl⟩
   have hp:nz.size<=8:=by rw [B,za]; show 1+D.size<=8; omega
   have b:=zB ((zA HS).below hb5)
   have L:=zC w5 (.cells #[.string nz,.string bg1] 29)
   have j:=zB ((zA b).row.below L)
   have hy:w0.heap.size<=w5.heap.size:=(zA b).kp.size
   have C:=zB B
   clear hb5 u B
   go_wp2_with (at_builtin; rw [<- zA C]; refine yJ _ rfl (.tmp 199) (.tmp 205) 23 rfl w0.heap.size 29 i2 _ 2 32 Tryz.underlying23 (zA HQ).1 (zA HQ).2.1 (zA HQ).2.2.1 (zA HQ).2.2.2 rfl (by decide) _ us.length (zY us) rfl (zA j) ⟨w5.heap.size,0,none⟩ 1 1 (zY [⟨nz,bg1⟩]) rfl rfl (Z6 w5 ⟨nz,bg1⟩) (Z9 _) ?b1 ?b2 ?b3 ?next)
   case b1=>unfold maxLen; omega
   case b2=>omega
   case b3=>simp; omega
   case next=>
    intro v6 w6 X Q J d
    obtain ⟨g6,c6,K,q,rfl,s⟩:=((zA b).below L).app (vs:=[⟨nz,bg1⟩]) (by simp) X Q
    have ho:=zB s
    have T:K.length=us.length+1:=by rw [q]; simp
    obtain ⟨f',he⟩:∃ f',F=f'+1:=⟨F-1,by omega⟩
    have hm:=zB (show zFx N f' K=zBE bs p ms by
     rw [<- zA HF,q,zA C,zA HD,he]
     conv=>rhs; simp only [zFx]
     rw [yO hf])
    have o:=zB (show MsZ 100 3000000000000 K by rw [q]; exact (zA S).snoc (by show nz.size<=_; omega) (by show bg1.size<=_; decide))
    have ha:1<=K.length:=by omega
    have hb:K.length<=N:=by omega
    have hd:N-K.length<=f':=by omega
    clear X Q J d q s j T
    go_wp2_with fail
    go_roundg f'
    case measure=>omega
    case rel=>exact ⟨f',g6,c6,K,rfl,rfl,ha,hb,hd,hm,o,ho⟩
  ·have l:¬ (us.length:Int)<(N:Int):=by omega
   have hh:=zB (show us=zBE bs p ms by rw [<- zA HF,zLn (by omega)])
   go_wp2_with fail
   go_ret
   exact zJO (zA HS) W (by omega) (zA S) (zA hh)
theorem zO3 (w:JY):zFZ (w.alloc (.cells #[] 5)) w.heap.size (.slice (some ⟨w.heap.size,0,none⟩) 0 0) []:=
 ⟨w.heap.size,0,rfl,yh _,by simp,yh _,yj _,fun j hj=>yP hj (yt _),fun j u hj=>by simp [cellsB] at hj⟩
theorem zKg (c:UInt8) (j:Nat):List.replicate j c++[c]=List.replicate (j+1) c:=by rw [List.replicate_succ']
theorem zFZ.str {w:JY} {B:Nat} {v:Value} {l:List UInt8} (h:zFZ w B v l):(convert 22 9 v).run Tryz.prog w = .ok (.string ⟨l.toArray⟩) w:=by
 obtain ⟨g,cap,rfl,_,_,_,_,_,h6⟩:=h
 exact zFl w g l.length cap l rfl (fun j u hj=>by rw [Addr.add_mid,yV]; exact h6 j u hj)
theorem zO4 (rp cap p g c:Nat) (a:Option Addr) (bs:List UInt8) (ms:List zF) (w0 w:JY) (h:SpS w0 w rp cap a bs g c ms p) (hl:bs.length<=1200) (R:1<=ms.length) (O:ms.length<=4) (hz:MsZ 3 2000000000000 ms) (y:nxt bs p%16=8) :
  Calls Tryz.prog 23 #[.pointer (some ⟨rp,0,none⟩),.slice (some ⟨g,0,none⟩) ms.length c] w (zAi w0 rp cap a bs (fun ms'=>ms'=zBE bs p ms)):=by
 have H:=zB h
 have P:=zB hz
 clear h hz
 go_enter Tryz.func23,Tryz.ntmps23
 go_wp2_with fail
 (with_reducible refine (zM rp cap p a bs _ (zA H).rd hl).mono ?_)
 rintro e w1 ⟨⟨k,rfl,hk,HK⟩,H1,HP1⟩
 have Y:=zB ((zA H).read (zA HP1) (zA H1))
 clear H H1 HP1
 go_wp2_with fail
 (with_reducible refine (zM rp cap (adv bs p) a bs _ (zA Y).rd hl).mono ?_)
 rintro e w2 ⟨⟨ik,rfl,hik,HIK⟩,H2,HP2⟩
 have J:=zB ((zA Y).read (zA HP2) (zA H2))
 clear Y H2 HP2
 obtain ⟨i,HI⟩:∃ i,Hid (i=ik%ms.length):=⟨_,zB rfl⟩
 have hi:i<ms.length:=by rw [zA HI]; exact Nat.mod_lt _ (by omega)
 have hb:(i:Int)<(ms.length:Int):=by omega
 have I:((ms.length:Int)==0)=false:=yU.2 (by omega)
 have tmi:(ik:Int).tmod (ms.length:Int)=(i:Int):=by rw [yu (by omega),zA HI]; simp
 have tmj:(ik:Int)%(ms.length:Int)=(i:Int):=by rw [zA HI]; simp
 go_wp2_with fail
 (with_reducible refine (zM rp cap (adv bs (adv bs p)) a bs _ (zA J).rd hl).mono ?_)
 rintro e w3 ⟨⟨v,rfl,hv,HV⟩,H3,HP3⟩
 have q:=zB ((zA J).read (zA HP3) (zA H3))
 clear J H3 HP3 tmi tmj I
 have m:=zB y
 rw [<- zA HK] at y
 have t0:((k:Int)%16==8)=true:=by simp; omega
 obtain ⟨c0,c1,f0,f1⟩:=(zA q).cells hi
 obtain ⟨nm,X⟩:∃ nm,nm=(atM ms i).n:=⟨_,rfl⟩
 obtain ⟨tx,Q⟩:∃ tx,tx=(atM ms i).t:=⟨_,rfl⟩
 have C:=(zA P) i
 rw [<- X,<- Q] at C
 obtain ⟨hd,s⟩:=C
 rw [<- X] at c0
 rw [<- Q] at c1
 have he:=zB (yH X Q)
 clear X Q
 clear y
 obtain ⟨l0,l1,lf0,lf1⟩:=(zA q).cells (i:=ms.length-1) (by omega)
 obtain ⟨z,hz⟩:∃ z,z=ms.length-1:=⟨_,rfl⟩
 have T:(ms.length:Int)-1=(z:Int):=by omega
 have hf:(z:Int)<(ms.length:Int):=by omega
 have d:z<ms.length:=by omega
 rw [<- hz] at l0 l1 lf0 lf1
 have HZ:=zB hz
 obtain ⟨N,hN⟩:∃ N,N=63+v%3:=⟨_,rfl⟩
 have r:(64:Int)+(v:Int)%3-1=(N:Int):=by omega
 have Z:N<=65:=by omega
 have HN:=zB hN
 have b:=zB (zO3 w3)
 clear hN hz c0 c1 f0 f1
 go_wp2_with fail
 go_loopw [8] (fun nv wr=>∃ (j gy cy:Nat) (l:List UInt8),j<=N/\nv = .slice (some ⟨gy,0,none⟩) l.length cy/\l.length<=N/\Hid (l=List.replicate j 109)/\Hid (zFZ wr w3.heap.size (.slice (some ⟨gy,0,none⟩) l.length cy) l)/\Hid (Below w3.heap.size w3 wr)) (fun nv _=>N-zMj nv)
 case atStart=>exact ⟨0,_,0,[],yj _,rfl,yj _,zB rfl,b,zB (zC _ _)⟩
 case round=>
  clear b
  obtain ⟨j,gy,cy,l,hj,rfl,S,HE,HR,HB⟩:=hrel
  have U:l.length=j:=by rw [zA HE]; simp
  have L:=(zA HB).size
  by_cases ha:l.length<N
  ·have A:(l.length:Int)<(N:Int):=by omega
   have u:=zB (show l++[109]=List.replicate (j+1) 109 by rw [zA HE]; exact zKg _ _)
   have D:j+1<=N:=by omega
   clear U
   go_wp2_with (at_builtin; refine zFy rfl (.tmp 32) (.tmp 33) rfl w3.heap.size _ l 109 rfl ((zA HR).below (zC _ _)) (by simp; omega) ⟨wr.heap.size,0,none⟩ rfl (by simp [Addr.add,go_sem]) (by omega) ?next)
   case next=>
    intro v6 w6 x V
    obtain ⟨g6,c6,rfl,_⟩:=id x
    obtain ⟨l6,K⟩:∃ l6,l6=l++[(109:UInt8)]:=⟨_,rfl⟩
    rw [<- K] at x u
    have F:l6.length<=N:=by rw [K]; simp; omega
    have M:=zB (show l6.length=l.length+1 by rw [K]; simp)
    have G:=zB x
    have E:=zB (((zA HB).alloc L (.cells #[.int .u8 109] 5)).trans V)
    rw [<- K]
    clear x V K HR HB
    go_wp2_with fail
    exact ⟨⟨j+1,g6,c6,l6,D,rfl,F,u,G,E⟩,by have:=zA M; simp [zMj]; omega⟩
  ·have A:¬ (l.length:Int)<(N:Int):=by omega
   have B:j=N:=by omega
   have W:=(zA HR).str
   have l0':=((zA HB).cell (p:=⟨g,z*2,none⟩) (zA q).gB.2).trans l0
   have lf0':=((zA HB).frozen (p:=⟨g,z*2,none⟩) (zA q).gB.2).trans lf0
   have f:=zB B
   clear B U
   go_wp2_with fail
   go_ret
   have o:(⟨l.toArray⟩:JZ).size<=100:=by show l.toArray.size<=100; rw [List.size_toArray]; omega
   refine zMc ((zA q).below (zA HB)) d (zA P) O o ?_
   have hc:=zA m
   unfold zBE
   rw [yO (by omega),<- zA HV,<- zA HN,<- zA HZ,zA HE,zA f]
   rfl
theorem zQS (rp cap p g c:Nat) (a:Option Addr) (bs:List UInt8) (ms:List zF) (w0 w:JY) (h:SpS w0 w rp cap a bs g c ms p) (hl:bs.length<=1200) (he:1<=ms.length) (hb:ms.length<=4) (hz:MsZ 3 2000000000000 ms) (P:nxt bs p%16≠8/\nxt bs p%16≠15/\nxt bs p%8≠0/\nxt bs p%8≠1/\nxt bs p%8≠2/\nxt bs p%8≠3/\nxt bs p%8≠4/\nxt bs p%8≠5/\nxt bs p%16≠6/\nxt bs p%16=14) :
  Calls Tryz.prog 23 #[.pointer (some ⟨rp,0,none⟩),.slice (some ⟨g,0,none⟩) ms.length c] w (zAi w0 rp cap a bs (fun ms'=>ms'=zBE bs p ms)):=by
 have H:=zB h
 have d:=zB hz
 clear h hz
 go_enter Tryz.func23,Tryz.ntmps23
 go_wp2_with fail
 (with_reducible refine (zM rp cap p a bs _ (zA H).rd hl).mono ?_)
 rintro e w1 ⟨⟨k,rfl,hk,HK⟩,H1,HP1⟩
 have A:=zB ((zA H).read (zA HP1) (zA H1))
 clear H H1 HP1
 go_wp2_with fail
 (with_reducible refine (zM rp cap (adv bs p) a bs _ (zA A).rd hl).mono ?_)
 rintro e w2 ⟨⟨ik,rfl,hik,HIK⟩,H2,HP2⟩
 have b:=zB ((zA A).read (zA HP2) (zA H2))
 clear A H2 HP2
 obtain ⟨i,HI⟩:∃ i,Hid (i=ik%ms.length):=⟨_,zB rfl⟩
 have hi:i<ms.length:=by rw [zA HI]; exact Nat.mod_lt _ (by omega)
 have hn:(i:Int)<(ms.length:Int):=by omega
 have S:((ms.length:Int)==0)=false:=yU.2 (by omega)
 have tmi:(ik:Int).tmod (ms.length:Int)=(i:Int):=by rw [yu (by omega),zA HI]; simp
 have tmj:(ik:Int)%(ms.length:Int)=(i:Int):=by rw [zA HI]; simp
 go_wp2_with fail
 (with_reducible refine (zM rp cap (adv bs (adv bs p)) a bs _ (zA b).rd hl).mono ?_)
 rintro e w3 ⟨⟨v,rfl,hv,HV⟩,H3,HP3⟩
 have Q:=zB ((zA b).read (zA HP3) (zA H3))
 clear b H3 HP3 tmi tmj S
 have W:=zB P
 rw [<- zA HK] at P
 have t0:((k:Int)%16==8)=false:=by simp; omega
 have t1:((k:Int)%16==15)=false:=by simp; omega
 have t2:((k:Int)%8==0)=false:=by simp; omega
 have t3:((k:Int)%8==1)=false:=by simp; omega
 have t4:((k:Int)%8==2)=false:=by simp; omega
 have t5:((k:Int)%8==3)=false:=by simp; omega
 have t6:((k:Int)%8==4)=false:=by simp; omega
 have t7:((k:Int)%8==5)=false:=by simp; omega
 have t8:((k:Int)%16==6)=false:=by simp; omega
 have t9:((k:Int)%16==14)=true:=by simp; omega
 obtain ⟨c0,c1,f0,f1⟩:=(zA Q).cells hi
 obtain ⟨nm,y⟩:∃ nm,nm=(atM ms i).n:=⟨_,rfl⟩
 obtain ⟨tx,q⟩:∃ tx,tx=(atM ms i).t:=⟨_,rfl⟩
 have m:=(zA d) i
 rw [<- y,<- q] at m
 obtain ⟨ho,hf⟩:=m
 rw [<- y] at c0
 rw [<- q] at c1
 have ha:=zB (yH y q)
 clear y q
 clear P
 obtain ⟨N,hN⟩:∃ N,N=20000+v%2:=⟨_,rfl⟩
 have hd:(20000:Int)+(v:Int)%2=(N:Int):=by omega
 have hh:N<=20001:=by omega
 have HN:=zB hN
 obtain ⟨vy,Wy,G,u,F⟩:=zOt w3 tx (by omega)
 obtain ⟨g0,k0,rfl,_⟩:=id u
 have U:=zB u
 have I:=zB F
 have B:tx.data.toList.length=tx.size:=by simp
 have J:=zB B
 clear hN u F
 rw [B] at G
 obtain ⟨L0,C⟩:∃ L0,L0=tx.data.toList:=⟨_,rfl⟩
 rw [<- C] at U J
 have o:=zB C
 clear C B
 have Y:L0.length=tx.size:=zA J
 rw [<- Y] at G
 clear Y
 go_wp2_with fail
 go_loopw [11] (fun nv wr=>∃ (j gy cy:Nat) (l:List UInt8),j<=N-tx.size/\nv = .slice (some ⟨gy,0,none⟩) l.length cy/\Hid (l=L0++List.replicate j 32)/\Hid (zFZ wr w3.heap.size (.slice (some ⟨gy,0,none⟩) l.length cy) l)/\Hid (Below w3.heap.size w3 wr)) (fun nv _=>N-zMj nv)
 case atStart=>exact ⟨0,g0,k0,L0,yj _,rfl,zB (by simp),U,I⟩
 case round=>
  clear U I
  obtain ⟨j,gy,cy,l,hj,rfl,HE,HR,HB⟩:=hrel
  have V:l.length=tx.size+j:=by rw [zA HE,<- zA J]; simp
  have T:=(zA HB).size
  by_cases hm:l.length<N
  ·have f:(l.length:Int)<(N:Int):=by omega
   have E:=zB (show l++[32]=L0++List.replicate (j+1) 32 by rw [zA HE,yx,zKg])
   have M:j+1<=N-tx.size:=by omega
   clear V
   go_wp2_with (at_builtin; refine zFy rfl (.tmp 222) (.tmp 223) rfl w3.heap.size _ l 32 rfl ((zA HR).below (zC _ _)) (by simp; omega) ⟨wr.heap.size,0,none⟩ rfl (by simp [Addr.add,go_sem]) (by omega) ?next)
   case next=>
    intro v6 w6 X D
    obtain ⟨g6,c6,rfl,_⟩:=id X
    obtain ⟨l6,K⟩:∃ l6,l6=l++[(32:UInt8)]:=⟨_,rfl⟩
    rw [<- K] at X E
    have z:=zB (show l6.length=l.length+1 by rw [K]; simp)
    have s:=zB X
    have O:=zB (((zA HB).alloc T (.cells #[.int .u8 32] 5)).trans D)
    rw [<- K]
    clear X D K HR HB
    go_wp2_with fail
    exact ⟨⟨j+1,g6,c6,l6,M,rfl,E,s,O⟩,by have:=zA z; simp [zMj]; omega⟩
  ·have f:¬ (l.length:Int)<(N:Int):=by omega
   have L:j=N-tx.size:=by omega
   have hg:=(zA HR).str
   have l1':=((zA HB).cell (p:=⟨g,i*2+1,none⟩) (zA Q).gB.2).trans c1
   have lf1':=((zA HB).frozen (p:=⟨g,i*2+1,none⟩) (zA Q).gB.2).trans f1
   have R:=zB L
   have r:=zB V
   clear L V
   go_wp2_with fail
   go_ret
   have Z:(⟨l.toArray⟩:JZ).size<=3000000000000:=by show l.toArray.size<=_; rw [List.size_toArray]; have:=zA r; omega
   refine zDv ((zA Q).below (zA HB)) hi (zA d) hb Z ?_
   have et:(⟨l.toArray⟩:JZ)=tx++zQQ 32 (N-tx.size):=by
    rw [zA HE,zA o,<- zA R]
    apply ByteArray.ext
    simp [zQQ,ByteArray.data_append]
   have hc:=zA W
   unfold zBE
   rw [yN (by omega),yN (by omega),yN (by omega),yN (by omega),yN (by omega),yN (by omega),yN (fun x=>yP x.1 (by omega)),yN (by omega),yN (by omega),yO (by omega),<- zA HIK,<- zA HI,<- zA HV,<- zA HN,<- (zA ha).2,et]
theorem zM7 (rp cap p g c:Nat) (a:Option Addr) (bs:List UInt8) (ms:List zF) (w0 w:JY) (h:SpS w0 w rp cap a bs g c ms p) (hl:bs.length<=1200) (h3:1<=ms.length) (hA:ms.length<=4) (hz:MsZ 3 2000000000000 ms) (G:nxt bs p%16≠8/\nxt bs p%16=15) :
  Calls Tryz.prog 23 #[.pointer (some ⟨rp,0,none⟩),.slice (some ⟨g,0,none⟩) ms.length c] w (zAi w0 rp cap a bs (fun ms'=>ms'=zBE bs p ms)):=by
 have H:=zB h
 have R:=zB hz
 clear h hz
 go_enter Tryz.func23,Tryz.ntmps23
 go_wp2_with fail
 (with_reducible refine (zM rp cap p a bs _ (zA H).rd hl).mono ?_)
 rintro e w1 ⟨⟨k,rfl,hk,HK⟩,H1,HP1⟩
 have l:=zB ((zA H).read (zA HP1) (zA H1))
 clear H H1 HP1
 go_wp2_with fail
 (with_reducible refine (zM rp cap (adv bs p) a bs _ (zA l).rd hl).mono ?_)
 rintro e w2 ⟨⟨ik,rfl,hik,HIK⟩,H2,HP2⟩
 have L:=zB ((zA l).read (zA HP2) (zA H2))
 clear l H2 HP2
 obtain ⟨i,HI⟩:∃ i,Hid (i=ik%ms.length):=⟨_,zB rfl⟩
 have hi:i<ms.length:=by rw [zA HI]; exact Nat.mod_lt _ (by omega)
 have h7:(i:Int)<(ms.length:Int):=by omega
 have ht:((ms.length:Int)==0)=false:=yU.2 (by omega)
 have tmi:(ik:Int).tmod (ms.length:Int)=(i:Int):=by rw [yu (by omega),zA HI]; simp
 have tmj:(ik:Int)%(ms.length:Int)=(i:Int):=by rw [zA HI]; simp
 go_wp2_with fail
 (with_reducible refine (zM rp cap (adv bs (adv bs p)) a bs _ (zA L).rd hl).mono ?_)
 rintro e w3 ⟨⟨v,rfl,hv,HV⟩,H3,HP3⟩
 have Q:=zB ((zA L).read (zA HP3) (zA H3))
 clear L H3 HP3 tmi tmj ht
 have hu:=zB G
 rw [<- zA HK] at G
 have t0:((k:Int)%16==8)=false:=by simp; omega
 have t1:((k:Int)%16==15)=true:=by simp; omega
 obtain ⟨c0,c1,f0,f1⟩:=(zA Q).cells hi
 obtain ⟨nm,d⟩:∃ nm,nm=(atM ms i).n:=⟨_,rfl⟩
 obtain ⟨tx,A⟩:∃ tx,tx=(atM ms i).t:=⟨_,rfl⟩
 have hh:=(zA R) i
 rw [<- d,<- A] at hh
 obtain ⟨h8,h4⟩:=hh
 rw [<- d] at c0
 rw [<- A] at c1
 have h9:=zB (yH d A)
 clear d A
 clear G
 clear c0 c1 f0 f1
 obtain ⟨i2,s,hf,z,T⟩:=info_parts zEP
 have HQ:=zB (yH s (yH hf (yH z T)))
 have hw:w0.heap.size<=w3.heap.size:=(zA Q).kp.size
 have I:=zC w3 (.cells #[.string mdX.n,.string mdX.t] 29)
 have he:=zB (show ZH (w3.alloc (.cells #[.string mdX.n,.string mdX.t] 29)) w0.heap.size (.slice (some ⟨w3.heap.size,0,none⟩) 1 1) [mdX] from by
  have:=yD (base:=w0.heap.size) (e:=29) (size:=2) w3 #[.string mdX.n,.string mdX.t] 1 hw (by decide) rfl
  simpa [ZH,zY] using this)
 have Z:=zB ((zA Q).row.ops.below I (zA Q).gB.2)
 obtain ⟨yl,V⟩:∃ yl,yl=mdL v:=⟨_,rfl⟩
 have D:yl.size=2:=by rw [V]; unfold mdL; split <;> rfl
 have eyl:(((v:Int)%2==1)=true/\yl=⟨#[121,50]⟩)\/(((v:Int)%2==1)=false/\yl=⟨#[121,49]⟩):=by
  by_cases e:v%2=1
  ·exact yQ ⟨by simp; omega,by rw [V]; unfold mdL; rw [yO e]⟩
  ·exact yR ⟨by simp; omega,by rw [V]; unfold mdL; rw [yN e]⟩
 have hq:=zB V
 have hs:=zB D
 clear s hf z T V D
 rcases eyl with ⟨e2,ey⟩ | ⟨e2,ey⟩
 all_goals
  have ho:=zB ey
  clear ey
  go_wp2_with (at_builtin; refine yJ _ rfl (.tmp 50) (.tmp 51) 23 rfl w0.heap.size 29 i2 _ 2 32 Tryz.underlying23 (zA HQ).1 (zA HQ).2.1 (zA HQ).2.2.1 (zA HQ).2.2.2 rfl (by decide) _ 1 (zY [mdX]) rfl (zA he) ⟨g,0,none⟩ ms.length c (zY ms) rfl (zC4 ms) (zBT (zA Z)) (Z9 _) ?b1 ?b2 ?b3 ?next)
  case b1=>unfold maxLen; omega
  case b2=>omega
  case b3=>simp; omega
  case next=>
   intro v6 w6 y q F O
   have S:Below w3.heap.size w3 w6:=I.grown q (by simp) (fun x hx=>by have r:some w3.heap.size=some x:=hx; injection r with r; omega)
   have C:ZH w6 w0.heap.size v6 ([mdX]++ms):=by
    unfold ZH
    rw [zAr,ym]
    exact y
   obtain ⟨g6,c6,rfl⟩:=C.has (by simp)
   obtain ⟨us,J⟩:∃ us,us=[mdX]++ms:=⟨_,rfl⟩
   rw [<- J] at C
   rw [<- J]
   have Y:=(zA Q).below S
   have hm:=zB (show SpS w0 w6 rp cap a bs g6 c6 us (adv bs (adv bs (adv bs p))) from ⟨C,Y.rd,Y.kp,Y.rpl⟩)
   have h2:us.length<=10:=by rw [J]; simp; omega
   have m:=zB J
   have h1:w0.heap.size<=w6.heap.size:=Y.kp.size
   clear y q F O S C J Y he Z Q I
   obtain ⟨ty,B⟩:∃ ty,ty=(⟨#[117,115,101,32]⟩:JZ)++yl++⟨#[10,98,101,103,105,110,10,49]⟩:=⟨_,rfl⟩
   have f:ty.size=14:=by rw [B,za,za]; have:=zA hs; show 4+yl.size+8=14; omega
   have ha:=zB f
   have N:=zC w6 (.cells #[.string ⟨#[121,49]⟩,.string ty,.string mdZ.n,.string mdZ.t] 29)
   have E:=zB ((zA hm).row.below N)
   have hb:=zB (show ∀ j u,(zY [(⟨⟨#[121,49]⟩,ty⟩:zF),mdZ])[j]?=some u->(w6.alloc (.cells #[.string ⟨#[121,49]⟩,.string ty,.string mdZ.n,.string mdZ.t] 29)).cell? ((⟨w6.heap.size,0,none⟩:Addr).add j)=some u from fun j u hj=>by
    rw [Addr.add_mid]
    have:=yz (w:=w6.alloc (.cells #[.string ⟨#[121,49]⟩,.string ty,.string mdZ.n,.string mdZ.t] 29)) (b:=w6.heap.size) (heap_alloc_new w6 _) 0 4
    exact this j u (by simpa [zY] using hj))
   have X:=B
   rw [zA ho] at X
   have hy:=zB X
   have W:=zB B
   clear B X f
   go_wp2_with (at_builtin; rw [<- zA hy]; refine yJ _ rfl (.tmp 53) (.tmp 59) 23 rfl w0.heap.size 29 i2 _ 2 32 Tryz.underlying23 (zA HQ).1 (zA HQ).2.1 (zA HQ).2.2.1 (zA HQ).2.2.2 rfl (by decide) _ us.length (zY us) rfl (zA E) ⟨w6.heap.size,0,none⟩ 2 2 (zY [⟨⟨#[121,49]⟩,ty⟩,mdZ]) rfl rfl (zA hb) (Z9 _) ?c1 ?c2 ?c3 ?next2)
   case c1=>unfold maxLen; omega
   case c2=>omega
   case c3=>simp; omega
   case next2=>
    intro v7 w7 U K M o
    obtain ⟨g7,c7,hr,P,rfl,hd⟩:=((zA hm).below N).app (vs:=[⟨⟨#[121,49]⟩,ty⟩,mdZ]) (by simp) U K
    have hp:=zB hd
    have hg:=zB P
    have hn:=zB (show hr.length=us.length+2 by rw [P]; simp)
    clear U K M o P hd E hb
    go_wp2_with fail
    go_ret
    have h5:=zA hn
    have h6:us.length=ms.length+1:=by rw [zA m,ym]; show 1+ms.length=_; omega
    refine zJO (zA hp) (by omega) (by omega) ?_ ?_
    ·rw [zA hg,zA m]
     have h0:MsZ 100 3000000000000 ([mdX]++ms):=fun j=>by
      cases j with
      | zero=>exact ⟨by show mdX.n.size<=_; decide,by show mdX.t.size<=_; decide⟩
      | succ j=>exact ((zA R).mono (by decide) (by decide)) j
     have e:[mdX]++ms++[(⟨⟨#[121,49]⟩,ty⟩:zF),mdZ]=([mdX]++ms++[(⟨⟨#[121,49]⟩,ty⟩:zF)])++[mdZ]:=by simp
     rw [e]
     exact (h0.snoc (by show (⟨#[121,49]⟩:JZ).size<=_; decide) (by show ty.size<=_; have:=zA ha; omega)).snoc (by decide) (by decide)
    ·rw [zA hg,zA m]
     have hc:=zA hu
     unfold zBE
     rw [yN (by omega),yO (by omega),<- zA HV]
     have e:mdY v=⟨⟨#[121,49]⟩,ty⟩:=by unfold mdY; rw [zA W,<- zA hq]; rfl
     rw [e]
theorem zKh (rp cap p g c:Nat) (a:Option Addr) (bs:List UInt8) (ms:List zF) (w0 w:JY) (h:SpS w0 w rp cap a bs g c ms p) (hl:bs.length<=1200) (k:1<=ms.length) (H:ms.length<=4) (hz:MsZ 3 2000000000000 ms) :
  Calls Tryz.prog 23 #[.pointer (some ⟨rp,0,none⟩),.slice (some ⟨g,0,none⟩) ms.length c] w (zAi w0 rp cap a bs (fun ms'=>ms'=zBE bs p ms)):=by
 by_cases h0:nxt bs p%16=8
 ·exact zO4 rp cap p g c a bs ms w0 w h hl k H hz (by omega)
 by_cases h1:nxt bs p%16=15
 ·exact zM7 rp cap p g c a bs ms w0 w h hl k H hz (by omega)
 by_cases h2:nxt bs p%8=0
 ·exact zOv rp cap p g c a bs ms w0 w h hl k H hz (by omega)
 by_cases h3:nxt bs p%8=1
 ·exact zQR rp cap p g c a bs ms w0 w h hl k H hz (by omega)
 by_cases h4:nxt bs p%8=2
 ·exact zOw rp cap p g c a bs ms w0 w h hl k H hz (by omega)
 by_cases h5:nxt bs p%8=3
 ·exact zOx rp cap p g c a bs ms w0 w h hl k H hz (by omega)
 by_cases h6:nxt bs p%8=4
 ·by_cases hs:0<(atM ms (nxt bs (adv bs p)%ms.length)).t.size
  ·exact zO1 rp cap p g c a bs ms w0 w h hl k H hz ⟨h0,h1,h2,h3,h4,h5,h6,hs⟩
  ·exact zO0 rp cap p g c a bs ms w0 w h hl k H hz ⟨h0,h1,h2,h3,h4,h5,h6,by omega⟩
 by_cases h7:nxt bs p%8=5
 ·exact zOy rp cap p g c a bs ms w0 w h hl k H hz (by omega)
 by_cases h8:nxt bs p%16=6
 ·exact zO2 rp cap p g c a bs ms w0 w h hl k H hz (by omega)
 by_cases h9:nxt bs p%16=14
 ·exact zQS rp cap p g c a bs ms w0 w h hl k H hz (by omega)
 ·exact zOz rp cap p g c a bs ms w0 w h hl k H hz (by omega)
def swp2 (ms:List zF) (i:Nat):List zF:=(ms.set i (atM ms (i+1))).set (i+1) (atM ms i)
theorem zO5 (ms:List zF) (i:Nat):(swp2 ms i).length=ms.length:=by simp [swp2]
theorem SpS.setM {w0 wr:JY} {rp cap:Nat} {a:Option Addr} {bs:List UInt8} {g c:Nat} {ms:List zF} {q i:Nat} (h:SpS w0 wr rp cap a bs g c ms q) (hi:i<ms.length) (m:zF):SpS w0 ((wr.setCell ⟨g,i*2,none⟩ (.string m.n)).setCell ⟨g,i*2+1,none⟩ (.string m.t)) rp cap a bs g c (ms.set i m) q:=by
 have h2:=(h.setN hi m.n).setT (i:=i) (by rw [List.length_set]; exact hi) m.t
 rw [List.set_set,zMS hi,yO rfl] at h2
 exact h2
def zHa (ms:List zF):Nat->List zF
 | 0=>ms
 | k+1=>swp2 (zHa ms k) (2*k)
theorem zKi (ms:List zF):∀ k,(zHa ms k).length=ms.length
 | 0=>rfl
 | k+1=>by simp only [zHa]; rw [zO5,zKi ms k]
theorem zRg {ms:List zF} (h:ms.length<=4):zHa ms (ms.length/2)=swp ms:=by
 match ms,h with
 | [],_=>simp [zHa,swp]
 | [_],_=>simp [zHa,swp]
 | [_,_],_=>simp [zHa,swp,swp2,atM]
 | [_,_,_],_=>simp [zHa,swp,swp2,atM]
 | [_,_,_,_],_=>simp [zHa,swp,swp2,atM]
 | _::_::_::_::_::_,h=>simp at h
theorem MsZ.swp2 {n t:Nat} {ms:List zF} (h:MsZ n t ms) {i:Nat} (hi:i+1<ms.length):MsZ n t (swp2 ms i):=by
 unfold Go.Proofs.YtgbkgkdpdfdokaaGreatDoor.swp2
 exact (h.set (by omega) (h _).1 (h _).2).set (by rw [List.length_set]; exact hi) (h _).1 (h _).2
theorem zE5 (rp cap p:Nat) (a:Option Addr) (bs:List UInt8) (w:JY) (h:RdS w rp a cap bs p) (hl:bs.length<=1200) :
  Calls Tryz.prog 9 #[.pointer (some ⟨rp,0,none⟩)] w (zAi w rp cap a bs (fun ms=>zKf bs p ms)):=by
 have D:=h.lt
 have H:=zB h
 clear h
 go_enter Tryz.func9,Tryz.ntmps9
 go_wp2_with fail
 (with_reducible refine (zAj rp cap p a bs _ (zA H) hl).mono ?_)
 rintro e w1 ⟨⟨k,rfl,hk,HK⟩,H1,HP1⟩
 have V:=zB (zE4 rp cap (adv bs p) a bs w1 (zA H1) hl)
 clear H
 go_wp2_with fail
 (with_reducible refine (zA V).mono ?_)
 rintro e w2 ⟨g,c,q,ms,rfl,HR,hm1,hm4,HMZ,HD,H2,HP2⟩
 have K:=zB (show SpS w w2 rp cap a bs g c ms q from ⟨by
  have:=zA HR
  have h1:=(zA HP1).size
  obtain ⟨h0,h2 | ⟨g',J,d,hv,hg,h3⟩⟩:=this
  ·exact ⟨h0,yQ h2⟩
  ·exact ⟨h0,yR ⟨g',J,d,hv,by omega,h3⟩⟩,(zA H2).free,(zA HP1).trans (zA HP2),D⟩)
 clear V H1 HP1 HR H2 HP2
 by_cases h3:k%4=3
 ·have e3:((k:Int)%4==3)=true:=by simp; omega
  have e4:((k:Int)%8==4)=false:=by simp; omega
  obtain ⟨rc0,rc1,rfz,_⟩:=(zA K).rd
  obtain ⟨s,hs⟩:∃ s,s=1+k%7:=⟨_,rfl⟩
  have L:(1:Int)+(k:Int)%7=(s:Int):=by omega
  have b:=zB ((zA K).read (zA4 w2 rp 1 (.int .i64 (s:Int))) ((zA K).rd.move s _ rfl))
  have P:=zB (zKh rp cap s g c a bs ms w _ (zA b) hl hm1 hm4 (zA HMZ))
  have HC:=zB (show nxt bs p%4=3/\s=1+nxt bs p%7 by rw [<- zA HK]; exact ⟨h3,hs⟩)
  clear h3 hs
  go_wp2_with fail
  (with_reducible refine (zA P).mono ?_)
  rintro e w4 ⟨g4,c4,q4,ms4,rfl,hn1,hn2,HZ4,HD4,HS4⟩
  clear P
  go_wp2_with fail
  go_ret
  exact ⟨g4,c4,q4,ms4,rfl,hn1,hn2,HZ4,zB ⟨ms,q,zA HD,yQ ⟨(zA HC).1,by rw [<- (zA HC).2]; exact zA HD4⟩⟩,HS4⟩
 ·have e3:((k:Int)%4==3)=false:=by simp; omega
  have B:=zB (show ¬ nxt bs p%4=3 by rw [<- zA HK]; exact h3)
  by_cases h4:k%8=4
  ·have e4:((k:Int)%8==4)=true:=by simp; omega
   have j:=zB (show nxt bs p%8=4 by rw [<- zA HK]; exact h4)
   clear h3 h4
   go_wp2_with fail
   go_loopw [5] (fun iv wr=>∃ (i:Nat) (us:List zF),iv = .int .i64 (i:Int)/\i<=ms.length/\Hid (i%2=0/\us=zHa ms (i/2))/\Hid (MsZ 3 2000000000000 us)/\Hid (SpS w wr rp cap a bs g c us q)) (fun iv _=>ms.length-(intOf iv).toNat)
   case atStart=>exact ⟨0,ms,rfl,by omega,zB ⟨rfl,rfl⟩,HMZ,K⟩
   case round=>
    clear K
    obtain ⟨i,us,rfl,hj,HU,A,HS⟩:=hrel
    have Q:=zB (show us.length=ms.length by rw [(zA HU).2]; exact zKi ms _)
    by_cases C:i+1<ms.length
    ·have v:(i:Int)+1<(ms.length:Int):=by omega
     have G:(i:Int)<(ms.length:Int):=by omega
     have u:i<us.length:=by rw [zA Q]; omega
     have X:i+1<us.length:=by rw [zA Q]; exact C
     obtain ⟨c0,c1,f0,f1⟩:=(zA HS).cells u
     obtain ⟨d0,d1,g0,g1⟩:=(zA HS).cells X
     obtain ⟨x,hx⟩:∃ x,x=atM us i:=⟨_,rfl⟩
     obtain ⟨y,hy⟩:∃ y,y=atM us (i+1):=⟨_,rfl⟩
     rw [<- hx] at c0 c1
     rw [<- hy] at d0 d1
     have ei:((i:Int)+1).toNat=i+1:=by omega
     have E:(0:Int)<=(i:Int)+1:=by omega
     have I:=(zA HS).gB.2
     have f:¬ g=wr.heap.size:=by omega
     have F:¬ wr.heap.size=g:=by omega
     have l:=zB ((zA HS).below (zC wr (.cells #[.string x.n,.string x.t] 29)))
     have U:=zB (yH hx hy)
     clear hx hy
     go_wp2_with fail
     refine ⟨⟨i+2,swp2 us i,by go_num,by omega,zB ?_,zB ((zA A).swp2 X),zB ?_⟩,by simp [intOf]; omega⟩
     ·have h:=zA HU
      refine ⟨by omega,?_⟩
      have e:(i+2)/2=i/2+1:=by omega
      have e2:2*(i/2)=i:=by omega
      rw [e]
      simp only [zHa]
      rw [<- h.2,e2]
     ·have h:=((zA HS).setM u y).setM (i:=i+1) (by rw [List.length_set]; exact X) x
      have h2:=h.below (zC _ (.cells #[.string x.n,.string x.t] 29))
      have e:swp2 us i=(us.set i y).set (i+1) x:=by unfold swp2; rw [(zA U).1,(zA U).2]
      rw [e]
      exact h2
    ·have v:¬ (i:Int)+1<(ms.length:Int):=by omega
     have HE:=zB (show us=swp ms by
      have h:=zA HU
      rw [h.2,<- zRg hm4]
      congr 1
      omega)
     have Y:=zA Q
     clear Y
     go_wp2_with fail
     go_ret
     have Y:=zA Q
     refine ⟨g,c,q,us,by rw [Y]; rfl,by omega,by omega,zB ((zA A).mono (by decide) (by decide)),zB ⟨ms,q,zA HD,yR (yQ ⟨zA j,zA HE⟩)⟩,HS⟩
  ·have e4:((k:Int)%8==4)=false:=by simp; omega
   have j:=zB (show ¬ nxt bs p%8=4 by rw [<- zA HK]; exact h4)
   clear h3 h4
   go_wp2_with fail
   go_ret
   exact ⟨g,c,q,ms,rfl,hm1,by omega,zB ((zA HMZ).mono (by decide) (by decide)),zB ⟨ms,q,zA HD,yR (yR ⟨zA B,zA j,rfl⟩)⟩,K⟩
end Go.Proofs.YtgbkgkdpdfdokaaGreatDoor
