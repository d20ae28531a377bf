import Derived.Test.YtgbkgkdpdfdokaaGreatDoorQ22
namespace Go.Proofs.YtgbkgkdpdfdokaaGreatDoor
set_option linter.all false
set_option maxHeartbeats 16000000
set_option maxRecDepth 100000
open Go.RowKit
theorem zE3 (g o c i:Nat) (ts:List zX) (w:JY) (hm:ts.length+Z2 ts ts.length<=1048576) (hi:i<ts.length) (hc:ts.length<=c) (P:c<=maxLen) (hw:zFA w g o ts) (hB:g<w.heap.size) (hz:(atT ts i).g.size<=1048576) :
  Calls Tryz.prog 96 #[.slice (some ⟨g,o,none⟩) ts.length c,.int .i64 (i:Int)] w fun e w'=>e = .returned (.int .i64 (zLE ts i:Int))/\Below w.heap.size w w':=by
 have H:(ts.take i).length=i:=by simp; omega
 have y:=zGo ts i ts.length (by omega)
 have Q:Below w.heap.size w w.drew:=(yG _ _).drew
 have HX:=zHU g o c (ts.take i) w.drew (by rw [H,zGw ts i i (yh _)]; omega) (fun j hj=>by
  rw [H] at hj
  have h:=(hw j (by omega)).below Q hB
  unfold zE9 at h ⊢
  rw [zJ5 hj]
  exact h) hB
 rw [H] at HX
 have e0:(zAe (ts.take i) i).length=Z2 ts i:=by rw [zDP,zGw ts i i (yh _)]
 obtain ⟨S,hS⟩:∃ S:JZ,S=⟨(zAe (ts.take i) i).toArray⟩:=⟨_,rfl⟩
 rw [<- hS] at HX
 have K:S.size=Z2 ts i:=by rw [hS,<- e0]; simp [ByteArray.size]
 obtain ⟨k0,k1,k2⟩:=hw i hi
 have J:(i:Int)<(ts.length:Int):=by omega
 have HS:=zB K
 have q:=zB (show (zLE ts i:Int)=(S.size:Int)+((atT ts i).g.size:Int) by unfold zLE; rw [K]; omega)
 have Y:S.size<=1048576:=by omega
 clear hS e0 K y H hw Q
 go_enter Tryz.func96,Tryz.ntmps96
 go_wp2_with fail
 have k:=zB (show Below w.heap.size w w.drew from (yG _ _).drew)
 go_region_held (fun w'=>w'.cell? ⟨g,o+i*3+1,none⟩=some (.string (atT ts i).g)) (first | (go_keep; done) | exact ((zA k).cell (p:=⟨g,o+i*3+1,none⟩) hB).trans k1)
  (first | (go_at_call 115; refine HX.mono ?_; rintro x w1 ⟨rfl,hb⟩; replace k:=zB ((zA k).trans hb); clear HX hb))
 have X:IntKind.i64.wrap ((S.size:Int)+((atT ts i).g.size:Int))=(S.size:Int)+((atT ts i).g.size:Int):=by rw [IntKind.wrap_i64]; omega
 rw [X,<- zA q]
 go_wp2_with fail
 go_ret
 exact ⟨rfl,zA k⟩
theorem zKb (b H cap gt ot ct gr cr i j:Nat) (xs:List OpR) (ts:List zX) (us:List Int) (w:JY) (hm:xs.length<=1048576) (hw:Ops w b H xs) (hB:b<w.heap.size) (ht:zFA w gt ot ts) (Y:gt<w.heap.size) (hr:∀ i,i<us.length->w.cell? ⟨gr,i,none⟩=some (.int .i64 (atI us i))) (hi:i<ts.length) (q:i<us.length) (hf:fnd xs (atT ts i).t (atI us i)=some j) :
  Calls Tryz.prog 132 #[.agg #[.slice (some ⟨b,H,none⟩) xs.length cap],.slice (some ⟨gt,ot,none⟩) ts.length ct,.slice (some ⟨gr,0,none⟩) us.length cr,.int .i64 (i:Int)] w fun e w'=>e = .returned (.agg #[.string (atO xs j).s,.int .i64 (atO xs j).k,.int .i64 (atO xs j).l,.int .i64 (atO xs j).sd])/\Below w.heap.size w w':=by
 have hj:=(zBK hf).1
 have P:(j:Int)<(xs.length:Int):=by omega
 have V:(i:Int)<(ts.length:Int):=by omega
 have J:(i:Int)<(us.length:Int):=by omega
 have x:=zB (show fI (fnd xs (atT ts i).t (atI us i))=(j:Int) by rw [hf]; rfl)
 have X:gr<w.heap.size:=block_lt_of_cell (hr i q)
 obtain ⟨W,hW⟩:∃ W,W=(w.alloc (.cells #[.slice (some ⟨b,H,none⟩) xs.length cap] 33)).alloc (.cells #[.string ⟨#[]⟩,.int .i64 0,.int .i64 0,.int .i64 0] 57):=⟨_,rfl⟩
 have K:Below w.heap.size w W:=by rw [hW]; exact (zC _ _).alloc (by simp) _
 have h:=zB (show W.drew.heap.size=w.heap.size+2 by rw [hW]; show ((w.alloc _).alloc _).heap.size=_; simp)
 have y:W.heap.size=w.heap.size+2:=zA h
 have Q:=zB (show Below w.heap.size w W.drew from K.drew)
 have q0:W.cell? ⟨w.heap.size,0,none⟩=some (.slice (some ⟨b,H,none⟩) xs.length cap):=by rw [hW]; simp [go_sem]
 have q1:W.cell? ⟨gt,ot+i*3+2,none⟩=some (.string (atT ts i).t):=(K.cell (p:=⟨gt,ot+i*3+2,none⟩) Y).trans (ht i hi).2.2
 have q2:W.cell? ⟨gr,i,none⟩=some (.int .i64 (atI us i)):=(K.cell (p:=⟨gr,i,none⟩) X).trans (hr i q)
 obtain ⟨r0,r1,r2,r3⟩:=(hw j hj).below K hB
 have t0:W.cell? ⟨w.heap.size+1,0,none⟩=some (.string ⟨#[]⟩):=by rw [hW]; simp [go_sem]
 have u0:W.frozen? ⟨w.heap.size+1,0,none⟩=false:=by rw [hW]; simp [go_sem]
 have t1:W.cell? ⟨w.heap.size+1,1,none⟩=some (.int .i64 0):=by rw [hW]; simp [go_sem]
 have u1:W.frozen? ⟨w.heap.size+1,1,none⟩=false:=by rw [hW]; simp [go_sem]
 have t2:W.cell? ⟨w.heap.size+1,2,none⟩=some (.int .i64 0):=by rw [hW]; simp [go_sem]
 have u2:W.frozen? ⟨w.heap.size+1,2,none⟩=false:=by rw [hW]; simp [go_sem]
 have t3:W.cell? ⟨w.heap.size+1,3,none⟩=some (.int .i64 0):=by rw [hW]; simp [go_sem]
 have u3:W.frozen? ⟨w.heap.size+1,3,none⟩=false:=by rw [hW]; simp [go_sem]
 have HX:=zDq b H cap xs (atT ts i).t (atI us i) W.drew hm (hw.below (zA Q) hB) (by rw [zA h]; omega)
 rw [zA x] at HX
 have n1:b≠w.heap.size+1:=by omega
 have n2:w.heap.size+1≠b:=by omega
 have n3:gt≠w.heap.size+1:=by omega
 have n4:w.heap.size+1≠gt:=by omega
 have n5:gr≠w.heap.size+1:=by omega
 have n6:w.heap.size+1≠gr:=by omega
 have HW:=zB hW
 clear hW hf hw ht hr K y
 go_enter Tryz.func132,Tryz.ntmps132
 go_wp2_with fail
 rw [<- zA HW]
 go_region_held (fun w'=>w'.cell? ⟨w.heap.size,0,none⟩=some (.slice (some ⟨b,H,none⟩) xs.length cap)/\w'.cell? ⟨gt,ot+i*3+2,none⟩=some (.string (atT ts i).t)/\w'.cell? ⟨gr,i,none⟩=some (.int .i64 (atI us i))/\w'.cell? ⟨b,H+j*4,none⟩=some (.string (atO xs j).s)/\w'.cell? ⟨b,H+j*4+1,none⟩=some (.int .i64 (atO xs j).k)/\w'.cell? ⟨b,H+j*4+2,none⟩=some (.int .i64 (atO xs j).l)/\w'.cell? ⟨b,H+j*4+3,none⟩=some (.int .i64 (atO xs j).sd)) (first | (go_keep; done) | exact ⟨q0',q1',q2',r0',r1',r2',r3'⟩)
  (first | (go_at_call 106; refine HX.mono ?_; rintro e w2 ⟨rfl,hb2⟩; have q0':=(hb2.cell (p:=⟨w.heap.size,0,none⟩) (by simp only [zA h]; omega)).trans (show W.drew.cell? _=_ from q0); have q1':=(hb2.cell (p:=⟨gt,ot+i*3+2,none⟩) (by simp only [zA h]; omega)).trans (show W.drew.cell? _=_ from q1); have q2':=(hb2.cell (p:=⟨gr,i,none⟩) (by simp only [zA h]; omega)).trans (show W.drew.cell? _=_ from q2); have r0':=(hb2.cell (p:=⟨b,H+j*4,none⟩) (by simp only [zA h]; omega)).trans (show W.drew.cell? _=_ from r0); have r1':=(hb2.cell (p:=⟨b,H+j*4+1,none⟩) (by simp only [zA h]; omega)).trans (show W.drew.cell? _=_ from r1); have r2':=(hb2.cell (p:=⟨b,H+j*4+2,none⟩) (by simp only [zA h]; omega)).trans (show W.drew.cell? _=_ from r2); have r3':=(hb2.cell (p:=⟨b,H+j*4+3,none⟩) (by simp only [zA h]; omega)).trans (show W.drew.cell? _=_ from r3); have t0':=(hb2.cell (p:=⟨w.heap.size+1,0,none⟩) (by simp only [zA h]; omega)).trans (show W.drew.cell? _=_ from t0); have u0':=(hb2.frozen (p:=⟨w.heap.size+1,0,none⟩) (by simp only [zA h]; omega)).trans (show W.drew.frozen? _=_ from u0); have t1':=(hb2.cell (p:=⟨w.heap.size+1,1,none⟩) (by simp only [zA h]; omega)).trans (show W.drew.cell? _=_ from t1); have u1':=(hb2.frozen (p:=⟨w.heap.size+1,1,none⟩) (by simp only [zA h]; omega)).trans (show W.drew.frozen? _=_ from u1); have t2':=(hb2.cell (p:=⟨w.heap.size+1,2,none⟩) (by simp only [zA h]; omega)).trans (show W.drew.cell? _=_ from t2); have u2':=(hb2.frozen (p:=⟨w.heap.size+1,2,none⟩) (by simp only [zA h]; omega)).trans (show W.drew.frozen? _=_ from u2); have t3':=(hb2.cell (p:=⟨w.heap.size+1,3,none⟩) (by simp only [zA h]; omega)).trans (show W.drew.cell? _=_ from t3); have u3':=(hb2.frozen (p:=⟨w.heap.size+1,3,none⟩) (by simp only [zA h]; omega)).trans (show W.drew.frozen? _=_ from u3); have B2:=zB ((zA Q).trans (hb2.mono (by rw [zA h]; omega))); clear hb2))
 go_wp2_with fail
 refine yK (v:=.agg #[.string (atO xs j).s,.int .i64 (atO xs j).k,.int .i64 (atO xs j).l,.int .i64 (atO xs j).sd]) ?res rfl ⟨rfl,?_⟩
 case res=>simp [results,Tryz.results132,go_sem,t0',t1',t2',t3']
 exact zK (show w.heap.size<=w.heap.size+1 by omega) [.string (atO xs j).s,.int .i64 (atO xs j).k,.int .i64 (atO xs j).l,.int .i64 (atO xs j).sd] 0 w2 (zA B2)
def zOp (w:JY) (gr:Nat) (us:List Int):Prop:=gr<w.heap.size/\∀ i,i<us.length->w.cell? ⟨gr,i,none⟩=some (.int .i64 (atI us i))
theorem zOp.below {w w':JY} {gr B:Nat} {us:List Int} (h:zOp w gr us) (hb:Below B w w') (hB:gr<B):zOp w' gr us:=⟨yi h.1 hb.size,fun i hi=>(hb.cell (p:=⟨gr,i,none⟩) hB).trans (h.2 i hi)⟩
theorem zKc {ns:List OpR} {b x:Nat×SyR} (h:sLv ns x.2<sLv ns b.2\/(sLv ns x.2=sLv ns b.2/\sSo ns x.2≠2)):zBM ns (some b) x=some x:=yO h
theorem zMa {ns:List OpR} {b x:Nat×SyR} (h:¬ (sLv ns x.2<sLv ns b.2\/(sLv ns x.2=sLv ns b.2/\sSo ns x.2≠2))):zBM ns (some b) x=some b:=yN h
theorem zET {w w':JY} (hb:Below w.heap.size w w') {p0 p1 p2 p3 p4:Addr} {v0 v1 v2 v3 v4:Value} (h:w.cell? p0=some v0/\w.cell? p1=some v1/\w.cell? p2=some v2/\w.cell? p3=some v3/\w.cell? p4=some v4) :
  w'.cell? p0=some v0/\w'.cell? p1=some v1/\w'.cell? p2=some v2/\w'.cell? p3=some v3/\w'.cell? p4=some v4:=
 ⟨(hb.cell (block_lt_of_cell h.1)).trans h.1,(hb.cell (block_lt_of_cell h.2.1)).trans h.2.1,(hb.cell (block_lt_of_cell h.2.2.1)).trans h.2.2.1,(hb.cell (block_lt_of_cell h.2.2.2.1)).trans h.2.2.2.1,(hb.cell (block_lt_of_cell h.2.2.2.2)).trans h.2.2.2.2⟩
theorem zLk (b V cap gt ot ct gr cr lo hi:Nat) (xs:List OpR) (ts:List zX) (us:List Int) (w:JY) (hm:xs.length<=1048576) (hw:Ops w b V xs) (hB:b<w.heap.size) (ht:zFA w gt ot ts) (L:gt<w.heap.size) (hr:zOp w gr us) (N:us=Z0 xs ts ts.length) (hn:ts.length<=100000) (h9:lo<=hi) (h7:hi<=ts.length)
  (hF:∀ i,i<ts.length->TkF xs ts i/\1<=(atT ts i).k/\(atT ts i).k<=7/\(atT ts i).k≠6) :
  Calls Tryz.prog 118 #[.agg #[.slice (some ⟨b,V,none⟩) xs.length cap],.slice (some ⟨gt,ot,none⟩) ts.length ct,.slice (some ⟨gr,0,none⟩) us.length cr,.int .i64 (lo:Int),.int .i64 (hi:Int)] w fun e w'=>e = .returned (.int .i64 (zCP (rtF xs (sgs xs ts lo (hi-lo)) lo 0 none)))/\Below w.heap.size w w':=by
 have h3:us.length<=ts.length:=by rw [N,Z8]; exact yh _
 have hz:ts.length<=us.length:=by rw [N,Z8]; exact yh _
 have ha:=zB (show ∀ i,i<ts.length->atI us i=zi xs ts i from fun i hi=>by rw [N]; exact zBz hi)
 have HW:=zB hw
 have HT:=zB ht
 have HR:=zB hr
 have HF:=zB hF
 have hb:=hr.1
 clear hw ht hr hF N
 go_enter Tryz.func118,Tryz.ntmps118
 go_wp2_with fail
 go_loopw [11,12,13] (fun bv ov iv wr=>∃ n:Nat,n<=hi-lo/\iv = .int .i64 ((lo+n:Nat):Int)/\bv = .int .i64 (zCP (rtF xs (sgs xs ts lo n) lo 0 none))/\ov = .int .i64 (opL 0 (sgs xs ts lo n))/\Hid (wr.cell? ⟨w.heap.size,0,none⟩=some (.slice (some ⟨b,V,none⟩) xs.length cap))/\Hid (Below w.heap.size w wr)) (fun _ _ iv _=>hi-(intOf iv).toNat)
 case atStart=>exact ⟨0,yj _,rfl,rfl,rfl,zB (by simp [go_sem]),zB (zC _ _)⟩
 case round=>
  obtain ⟨n,hA,rfl,rfl,rfl,J,Q⟩:=hrel
  by_cases h8:n<hi-lo
  ·have r:((lo+n:Nat):Int)<(hi:Int):=by omega
   obtain ⟨i,C⟩:∃ i,i=lo+n:=⟨_,rfl⟩
   obtain ⟨B,O⟩:∃ B,B=rtF xs (sgs xs ts lo n) lo 0 none:=⟨_,rfl⟩
   obtain ⟨op,D⟩:∃ op,op=opL 0 (sgs xs ts lo n):=⟨_,rfl⟩
   have hit:i<ts.length:=by omega
   have hy:(i:Int)<(ts.length:Int):=by omega
   have h5:(i:Int)<(us.length:Int):=by omega
   have hh:-100000<=op/\op<=100000:=by
    have:=zOl (sgs xs ts lo n) 0
    rw [zDp,<- D] at this
    omega
   obtain ⟨h4,h6⟩:=hh
   obtain ⟨T,g,E,F⟩:=(zA HF) i hit
   have U:=zB T
   have P:=zB (show opL 0 (sgs xs ts lo (n+1))=op+(if (atT ts i).k=4 then 1 else 0)-(if (atT ts i).k=5 then 1 else 0) by
    rw [zMY,<- D,<- C]; exact zRa T ⟨g,E,F⟩ op)
   have u:=zB (show rtF xs (sgs xs ts lo (n+1)) lo 0 none=(if opL 0 (sgs xs ts lo (n+1))≠0\/¬ (3<=(sgT xs ts i).1/\(sgT xs ts i).1<=5) then B else zBM xs B (i,sgT xs ts i)) by
    rw [zQG,<- zMY,<- C,<- O])
   have R:=zB (show ∀ x,B=some x->lo<=x.1/\x.1<i/\x.2=sgT xs ts x.1/\(3<=x.2.1/\x.2.1<=5) from fun x hx=>by
    have:=zQH (O.symm.trans hx)
    rw [C]; exact this)
   have c0:=((zA HT).below (zA Q) L i hit).1
   have ur:=(((zA HR).below (zA Q) hb).2 i (by omega))
   rw [(zA ha) i hit] at ur
   have tc:=zA J
   have y:=zB C
   rw [<- O,<- D,<- C]
   rw [<- C] at r
   clear D O T C
   by_cases k4:(atT ts i).k=4
   ·have Y:=zB (show rtF xs (sgs xs ts lo (n+1)) lo 0 none=B by
     rw [zA u]
     rcases zA U with ⟨k3,_⟩ | ⟨_,_,A⟩
     ·omega
     ·exact yO (yR A))
    have I:zi xs ts i=0:=by
     rcases zA U with ⟨k3,_⟩ | ⟨_,h0,_⟩
     ·omega
     ·exact h0
    rw [yO k4,yN (by omega)] at P
    rw [k4] at c0
    rw [I] at ur
    clear k4 g E F U I u
    by_cases h0:op+1=0
    ·have e0:(op+1 != 0)=false:=by simpa using h0
     have c:=zB (show op+1-0=op+1 by omega)
     clear h0
     go_wp2_with fail
     refine ⟨⟨n+1,by omega,?_,by rw [zA Y],by rw [zA P,zA c],J,Q⟩,?_⟩
     ·first | (rw [zA y]; go_num) | (congr 1; have:=zA y; omega)
     ·simp [intOf]; omega
    ·have e0:(op+1 != 0)=true:=by simpa using h0
     have c:=zB (show op+1-0=op+1 by omega)
     clear h0
     go_wp2_with fail
     refine ⟨⟨n+1,by omega,?_,by rw [zA Y],by rw [zA P,zA c],J,Q⟩,?_⟩
     ·first | (rw [zA y]; go_num) | (congr 1; have:=zA y; omega)
     ·simp [intOf]; omega
   have e4:((atT ts i).k==4)=false:=by simpa using k4
   by_cases k5:(atT ts i).k=5
   ·have Y:=zB (show rtF xs (sgs xs ts lo (n+1)) lo 0 none=B by
     rw [zA u]
     rcases zA U with ⟨k3,_⟩ | ⟨_,_,A⟩
     ·omega
     ·exact yO (yR A))
    have I:zi xs ts i=0:=by
     rcases zA U with ⟨k3,_⟩ | ⟨_,h0,_⟩
     ·omega
     ·exact h0
    rw [yN k4,yO k5] at P
    rw [k5] at c0
    rw [I] at ur
    have c:=zB (show op+0-1=op-1 by omega)
    clear k5 k4 g E F U I u e4
    by_cases h0:op-1=0
    ·have e0:(op-1 != 0)=false:=by simpa using h0
     clear h0
     go_wp2_with fail
     refine ⟨⟨n+1,by omega,?_,by rw [zA Y],by rw [zA P,zA c],J,Q⟩,?_⟩
     ·first | (rw [zA y]; go_num) | (congr 1; have:=zA y; omega)
     ·simp [intOf]; omega
    ·have e0:(op-1 != 0)=true:=by simpa using h0
     clear h0
     go_wp2_with fail
     refine ⟨⟨n+1,by omega,?_,by rw [zA Y],by rw [zA P,zA c],J,Q⟩,?_⟩
     ·first | (rw [zA y]; go_num) | (congr 1; have:=zA y; omega)
     ·simp [intOf]; omega
   have e5:((atT ts i).k==5)=false:=by simpa using k5
   rw [yN k4,yN k5] at P
   have c:=zB (show op+0-0=op by omega)
   rw [zA c] at P
   by_cases h0:op=0
   case neg=>
    have Y:=zB (show rtF xs (sgs xs ts lo (n+1)) lo 0 none=B by
     rw [zA u]
     exact yO (yQ (by rw [zA P]; exact h0)))
    have e0:(op != 0)=true:=by simpa using h0
    clear h0 k4 k5 g E F u U
    go_wp2_with fail
    refine ⟨⟨n+1,by omega,?_,by rw [zA Y],by rw [zA P],J,Q⟩,?_⟩
    ·first | (rw [zA y]; go_num) | (congr 1; have:=zA y; omega)
    ·simp [intOf]; omega
   subst h0
   rcases zA U with ⟨k3,⟨hu,hs⟩,ho,j,Z,he,hg⟩ | ⟨k3,hd,A⟩
   case inr=>
    have Y:=zB (show rtF xs (sgs xs ts lo (n+1)) lo 0 none=B by
     rw [zA u]
     exact yO (yR A))
    rw [hd] at ur
    clear k3 k4 k5 g E F u U hd A
    go_wp2_with fail
    refine ⟨⟨n+1,by omega,?_,by rw [zA Y],by rw [zA P],J,Q⟩,?_⟩
    ·first | (rw [zA y]; go_num) | (congr 1; have:=zA y; omega)
    ·simp [intOf]; omega
   have e0:(zi xs ts i==0)=false:=by simp; omega
   have d:=zB (show rtF xs (sgs xs ts lo (n+1)) lo 0 none=zBM xs B (i,sgT xs ts i) by
    rw [zA u]
    refine yN (fun h=>?_)
    rcases h with h | h
    ·exact h (zA P)
    ·apply h
     rw [ho]
     simp only
     omega)
   have HJ:=zB (zBK Z).1
   have HX:=zKb b V cap gt ot ct gr cr i j xs ts us wr hm ((zA HW).below (zA Q) hB) (yi hB (zA Q).size) ((zA HT).below (zA Q) L) (yi L (zA Q).size) ((zA HR).below (zA Q) hb).2 hit (by omega) (by rw [(zA ha) i hit]; exact Z)
   have o:=zB he
   have hk:=zB hg
   clear k3 k4 k5 g E F u U hu hs ho he hg Z
   go_wp2_with fail
   refine HX.mono ?_
   clear HX
   rintro e w2 ⟨rfl,hb2⟩
   have q:=zB (show Below w.heap.size w (w2.alloc (.cells #[.string (atO xs j).s,.int .i64 (atO xs j).k,.int .i64 (atO xs j).l,.int .i64 (atO xs j).sd] 57)).drew from (((zA Q).trans (hb2.mono (zA Q).size)).alloc (yr (zA Q).size hb2.size) _).drew)
   have X:=zB (show (w2.alloc (.cells #[.string (atO xs j).s,.int .i64 (atO xs j).k,.int .i64 (atO xs j).l,.int .i64 (atO xs j).sd] 57)).drew.cell? ⟨w.heap.size,0,none⟩=some (.slice (some ⟨b,V,none⟩) xs.length cap)/\(w2.alloc (.cells #[.string (atO xs j).s,.int .i64 (atO xs j).k,.int .i64 (atO xs j).l,.int .i64 (atO xs j).sd] 57)).drew.cell? ⟨w2.heap.size,0,none⟩=some (.string (atO xs j).s)/\(w2.alloc (.cells #[.string (atO xs j).s,.int .i64 (atO xs j).k,.int .i64 (atO xs j).l,.int .i64 (atO xs j).sd] 57)).drew.cell? ⟨w2.heap.size,1,none⟩=some (.int .i64 (atO xs j).k)/\(w2.alloc (.cells #[.string (atO xs j).s,.int .i64 (atO xs j).k,.int .i64 (atO xs j).l,.int .i64 (atO xs j).sd] 57)).drew.cell? ⟨w2.heap.size,2,none⟩=some (.int .i64 (atO xs j).l)/\(w2.alloc (.cells #[.string (atO xs j).s,.int .i64 (atO xs j).k,.int .i64 (atO xs j).l,.int .i64 (atO xs j).sd] 57)).drew.cell? ⟨w2.heap.size,3,none⟩=some (.int .i64 (atO xs j).sd) from
    ⟨((zC w2 (.cells #[.string (atO xs j).s,.int .i64 (atO xs j).k,.int .i64 (atO xs j).l,.int .i64 (atO xs j).sd] 57)).drew.cell (p:=⟨w.heap.size,0,none⟩) (yi (block_lt_of_cell tc) hb2.size)).trans ((hb2.cell (p:=⟨w.heap.size,0,none⟩) (block_lt_of_cell tc)).trans tc),
     show (w2.alloc _).cell? _=_ by simp [go_sem],show (w2.alloc _).cell? _=_ by simp [go_sem],show (w2.alloc _).cell? _=_ by simp [go_sem],show (w2.alloc _).cell? _=_ by simp [go_sem]⟩)
   clear hb2 tc c0 ur J Q e0
   cases hB':B with
   | none=>
    have Y:=zB (show rtF xs (sgs xs ts lo (n+1)) lo 0 none=some (i,sgT xs ts i) by rw [zA d,hB']; rfl)
    have eR:zCP none = -1:=rfl
    rw [eR]
    clear d R hB'
    obtain ⟨z0,z1,z2,z3,z4⟩:=zA X
    go_wp2_with fail
    go_quiet (fail)
    go_wp2_with fail
    refine ⟨⟨n+1,by omega,by first | (rw [zA y]; go_num) | (congr 1; have:=zA y; omega),by rw [zA Y]; rfl,by rw [zA P],zB (show _=_ from (zA X).1),zB (zGs (zA q) rfl rfl rfl rfl)⟩,by simp [intOf]; omega⟩
   | some x=>
    obtain ⟨x1,x2⟩:=x
    obtain ⟨g1,g2,g3,g4⟩:=(zA R) _ hB'
    simp only at g1 g2 g3 g4
    have z:x1<ts.length:=by omega
    obtain ⟨jb,hf,hc⟩:∃ jb,fnd xs (atT ts x1).t (zi xs ts x1)=some jb/\sLv xs (sgT xs ts x1)=(atO xs jb).l:=by
     rcases ((zA HF) x1 z).1 with ⟨_,_,_,j,h1,h2,_⟩ | ⟨_,_,A⟩
     ·exact ⟨j,h1,h2⟩
     ·rw [<- g3] at A; exact yP g4 A
    have G:=zB (show ∀ W,Below w.heap.size w W->_ from fun W hW=>zKb b V cap gt ot ct gr cr x1 jb xs ts us W hm ((zA HW).below hW hB) (yi hB hW.size) ((zA HT).below hW L) (yi L hW.size) ((zA HR).below hW hb).2 z (by omega) (by rw [(zA ha) x1 z]; exact hf))
    have hC:∀ W:JY,(Instr.field 57 (.agg #[.string (atO xs jb).s,.int .i64 (atO xs jb).k,.int .i64 (atO xs jb).l,.int .i64 (atO xs jb).sd]) 2).run Tryz.prog W = .ok (.int .i64 (atO xs jb).l) W:=fun W=>zGr W _ _ _ _
    have eR:zCP (some (x1,x2))=(x1:Int):=rfl
    rw [eR]
    have eb:decide ((x1:Int)<0)=false:=by rw [yT]; omega
    rw [g3] at hB'
    have M:=zB (show rtF xs (sgs xs ts lo (n+1)) lo 0 none=zBM xs (some (x1,sgT xs ts x1)) (i,sgT xs ts i) by rw [zA d,hB'])
    have m:=zB hc
    clear d R hB' g3 g4 hf hc
    rcases (by omega:(atO xs j).l<(atO xs jb).l\/(atO xs j).l=(atO xs jb).l\/(atO xs jb).l<(atO xs j).l) with hl | hl | hl
    ·have hj:decide ((atO xs j).l<(atO xs jb).l)=true:=by simpa using hl
     have Y:=zB (show rtF xs (sgs xs ts lo (n+1)) lo 0 none=some (i,sgT xs ts i) by
      rw [zA M]; exact zKc (yQ (by simp only; rw [zA o,zA m]; exact hl)))
     go_wp2_with fail
     refine wp_region_held_drew (S:=(fun w'=>w'.cell? ⟨w.heap.size,0,none⟩=some (.slice (some ⟨b,V,none⟩) xs.length cap)/\w'.cell? ⟨w2.heap.size,0,none⟩=some (.string (atO xs j).s)/\w'.cell? ⟨w2.heap.size,1,none⟩=some (.int .i64 (atO xs j).k)/\w'.cell? ⟨w2.heap.size,2,none⟩=some (.int .i64 (atO xs j).l)/\w'.cell? ⟨w2.heap.size,3,none⟩=some (.int .i64 (atO xs j).sd))) (by kernel_rfl) (zA X) (fun hHeld=>?_)
     refine yI (i:=0) (oi:={ dst:=some 51,op:=_,type:=_,pos:=_,after:=_,guard:=_ }) (v:=.int .i64 (x1:Int)) rfl (by kernel_rfl) (by kernel_rfl) (by kernel_rfl) (fun _ _ _ h=>h) (yQ ⟨by rfl,?_⟩) hHeld ?_
     ·intro ww H; obtain ⟨s0,s1,s2,s3,s4⟩:=H; go_simp
     try simp only [Act.put,yd,ye,yf]
     refine yI (i:=1) (oi:={ dst:=some 52,op:=_,type:=_,pos:=_,after:=_,guard:=_ }) (v:=.bool false) rfl (by kernel_rfl) (by kernel_rfl) (by kernel_rfl) (fun _ _ _ h=>h) (yQ ⟨by rfl,?_⟩) hHeld ?_
     ·intro ww H; obtain ⟨s0,s1,s2,s3,s4⟩:=H; go_simp
     try simp only [Act.put,yd,ye,yf]
     refine yI (i:=2) (oi:={ dst:=some 53,op:=_,type:=_,pos:=_,after:=_,guard:=_ }) (v:=.bool false) rfl (by kernel_rfl) (by kernel_rfl) (by kernel_rfl) (fun _ _ _ h=>h) (yQ ⟨by rfl,?_⟩) hHeld ?_
     ·intro ww H; obtain ⟨s0,s1,s2,s3,s4⟩:=H; go_simp
     try simp only [Act.put,yd,ye,yf]
     refine yI (i:=3) (oi:={ dst:=some 54,op:=_,type:=_,pos:=_,after:=_,guard:=_ }) (v:=.pointer (some ⟨w2.heap.size,2,none⟩)) rfl (by kernel_rfl) (by kernel_rfl) (by kernel_rfl) (fun _ _ _ h=>h) (yQ ⟨by rfl,?_⟩) hHeld ?_
     ·intro ww H; obtain ⟨s0,s1,s2,s3,s4⟩:=H; go_simp
     try simp only [Act.put,yd,ye,yf]
     refine yI (i:=4) (oi:={ dst:=some 55,op:=_,type:=_,pos:=_,after:=_,guard:=_ }) (v:=.int .i64 (atO xs j).l) rfl (by kernel_rfl) (by kernel_rfl) (by kernel_rfl) (fun _ _ _ h=>h) (yQ ⟨by rfl,?_⟩) hHeld ?_
     ·intro ww H; obtain ⟨s0,s1,s2,s3,s4⟩:=H; go_simp
     try simp only [Act.put,yd,ye,yf]
     refine yI (i:=5) (oi:={ dst:=some 56,op:=_,type:=_,pos:=_,after:=_,guard:=_ }) (v:=.agg #[.slice (some ⟨b,V,none⟩) xs.length cap]) rfl (by kernel_rfl) (by kernel_rfl) (by kernel_rfl) (fun _ _ _ h=>h) (yQ ⟨by rfl,?_⟩) hHeld ?_
     ·intro ww H; obtain ⟨s0,s1,s2,s3,s4⟩:=H; go_simp
     try simp only [Act.put,yd,ye,yf]
     refine yI (i:=6) (oi:={ dst:=some 57,op:=_,type:=_,pos:=_,after:=_,guard:=_ }) (v:=.slice (some ⟨gt,ot,none⟩) ts.length ct) rfl (by kernel_rfl) (by kernel_rfl) (by kernel_rfl) (fun _ _ _ h=>h) (yQ ⟨by rfl,?_⟩) hHeld ?_
     ·intro ww H; obtain ⟨s0,s1,s2,s3,s4⟩:=H; go_simp
     try simp only [Act.put,yd,ye,yf]
     refine yI (i:=7) (oi:={ dst:=some 58,op:=_,type:=_,pos:=_,after:=_,guard:=_ }) (v:=.slice (some ⟨gr,0,none⟩) us.length cr) rfl (by kernel_rfl) (by kernel_rfl) (by kernel_rfl) (fun _ _ _ h=>h) (yQ ⟨by rfl,?_⟩) hHeld ?_
     ·intro ww H; obtain ⟨s0,s1,s2,s3,s4⟩:=H; go_simp
     try simp only [Act.put,yd,ye,yf]
     refine yI (i:=8) (oi:={ dst:=some 59,op:=_,type:=_,pos:=_,after:=_,guard:=_ }) (v:=.int .i64 (x1:Int)) rfl (by kernel_rfl) (by kernel_rfl) (by kernel_rfl) (fun _ _ _ h=>h) (yQ ⟨by rfl,?_⟩) hHeld ?_
     ·intro ww H; obtain ⟨s0,s1,s2,s3,s4⟩:=H; go_simp
     try simp only [Act.put,yd,ye,yf]
     refine yL (rs:=[9]) (by kernel_rfl) (by simp) ?_
     refine yE rfl (fun K hK=>?_) yF
     go_simp
     refine ((zA G) _ (zA q)).mono ?_
     rintro e w3 ⟨rfl,hb3⟩
     replace q:=zB ((zA q).trans (hb3.mono (zA q).size))
     replace X:=zB (zET hb3 (zA X))
     clear hb3 hHeld
     refine hK.out _ _ (zA X) (fun hHeld=>?_)
     clear hK
     try simp only [Act.put,yd,ye,yf]
     refine yI (i:=10) (oi:={ dst:=some 61,op:=_,type:=_,pos:=_,after:=_,guard:=_ }) (v:=.int .i64 (atO xs jb).l) rfl (by kernel_rfl) (by kernel_rfl) (by kernel_rfl) (fun _ _ _ h=>h) (yQ ⟨by rfl,?_⟩) hHeld ?_
     ·intro ww H; obtain ⟨s0,s1,s2,s3,s4⟩:=H; go_simp
     try simp only [Act.put,yd,ye,yf]
     refine yI (i:=11) (oi:={ dst:=some 62,op:=_,type:=_,pos:=_,after:=_,guard:=_ }) (v:=.bool true) rfl (by kernel_rfl) (by kernel_rfl) (by kernel_rfl) (fun _ _ _ h=>h) (yQ ⟨by rfl,?_⟩) hHeld ?_
     ·intro ww H; obtain ⟨s0,s1,s2,s3,s4⟩:=H; go_simp
     try simp only [Act.put,yd,ye,yf]
     refine yI (i:=12) (oi:={ dst:=some 63,op:=_,type:=_,pos:=_,after:=_,guard:=_ }) (v:=.bool true) rfl (by kernel_rfl) (by kernel_rfl) (by kernel_rfl) (fun _ _ _ h=>h) (yQ ⟨by rfl,?_⟩) hHeld ?_
     ·intro ww H; obtain ⟨s0,s1,s2,s3,s4⟩:=H; go_simp
     try simp only [Act.put,yd,ye,yf]
     refine yI (i:=13) (oi:={ dst:=some 64,op:=_,type:=_,pos:=_,after:=_,guard:=_ }) (v:=.bool true) rfl (by kernel_rfl) (by kernel_rfl) (by kernel_rfl) (fun _ _ _ h=>h) (yQ ⟨by rfl,?_⟩) hHeld ?_
     ·intro ww H; obtain ⟨s0,s1,s2,s3,s4⟩:=H; go_simp
     try simp only [Act.put,yd,ye,yf]
     refine yI (i:=14) (oi:={ dst:=some 65,op:=_,type:=_,pos:=_,after:=_,guard:=_ }) (v:=undef) rfl (by kernel_rfl) (by kernel_rfl) (by kernel_rfl) (fun _ _ _ h=>h) (yR ⟨by rfl,rfl⟩) hHeld ?_
     try simp only [Act.put,yd,ye,yf]
     refine yI (i:=15) (oi:={ dst:=some 66,op:=_,type:=_,pos:=_,after:=_,guard:=_ }) (v:=undef) rfl (by kernel_rfl) (by kernel_rfl) (by kernel_rfl) (fun _ _ _ h=>h) (yR ⟨by rfl,rfl⟩) hHeld ?_
     try simp only [Act.put,yd,ye,yf]
     refine yI (i:=16) (oi:={ dst:=some 67,op:=_,type:=_,pos:=_,after:=_,guard:=_ }) (v:=undef) rfl (by kernel_rfl) (by kernel_rfl) (by kernel_rfl) (fun _ _ _ h=>h) (yR ⟨by rfl,rfl⟩) hHeld ?_
     try simp only [Act.put,yd,ye,yf]
     refine yI (i:=17) (oi:={ dst:=some 68,op:=_,type:=_,pos:=_,after:=_,guard:=_ }) (v:=undef) rfl (by kernel_rfl) (by kernel_rfl) (by kernel_rfl) (fun _ _ _ h=>h) (yR ⟨by rfl,rfl⟩) hHeld ?_
     try simp only [Act.put,yd,ye,yf]
     refine yI (i:=18) (oi:={ dst:=some 69,op:=_,type:=_,pos:=_,after:=_,guard:=_ }) (v:=undef) rfl (by kernel_rfl) (by kernel_rfl) (by kernel_rfl) (fun _ _ _ h=>h) (yR ⟨by rfl,rfl⟩) hHeld ?_
     try simp only [Act.put,yd,ye,yf]
     refine yI (i:=19) (oi:={ dst:=some 70,op:=_,type:=_,pos:=_,after:=_,guard:=_ }) (v:=undef) rfl (by kernel_rfl) (by kernel_rfl) (by kernel_rfl) (fun _ _ _ h=>h) (yR ⟨by rfl,rfl⟩) hHeld ?_
     try simp only [Act.put,yd,ye,yf]
     refine yI (i:=20) (oi:={ dst:=some 71,op:=_,type:=_,pos:=_,after:=_,guard:=_ }) (v:=undef) rfl (by kernel_rfl) (by kernel_rfl) (by kernel_rfl) (fun _ _ _ h=>h) (yR ⟨by rfl,rfl⟩) hHeld ?_
     try simp only [Act.put,yd,ye,yf]
     refine yI (i:=21) (oi:={ dst:=some 72,op:=_,type:=_,pos:=_,after:=_,guard:=_ }) (v:=undef) rfl (by kernel_rfl) (by kernel_rfl) (by kernel_rfl) (fun _ _ _ h=>h) (yR ⟨by rfl,rfl⟩) hHeld ?_
     try simp only [Act.put,yd,ye,yf]
     refine yI (i:=22) (oi:={ dst:=some 73,op:=_,type:=_,pos:=_,after:=_,guard:=_ }) (v:=undef) rfl (by kernel_rfl) (by kernel_rfl) (by kernel_rfl) (fun _ _ _ h=>h) (yR ⟨by rfl,rfl⟩) hHeld ?_
     try simp only [Act.put,yd,ye,yf]
     refine yI (i:=23) (oi:={ dst:=some 74,op:=_,type:=_,pos:=_,after:=_,guard:=_ }) (v:=undef) rfl (by kernel_rfl) (by kernel_rfl) (by kernel_rfl) (fun _ _ _ h=>h) (yR ⟨by rfl,rfl⟩) hHeld ?_
     try simp only [Act.put,yd,ye,yf]
     refine yI (i:=24) (oi:={ dst:=some 75,op:=_,type:=_,pos:=_,after:=_,guard:=_ }) (v:=undef) rfl (by kernel_rfl) (by kernel_rfl) (by kernel_rfl) (fun _ _ _ h=>h) (yR ⟨by rfl,rfl⟩) hHeld ?_
     try simp only [Act.put,yd,ye,yf]
     refine yI (i:=25) (oi:={ dst:=some 76,op:=_,type:=_,pos:=_,after:=_,guard:=_ }) (v:=undef) rfl (by kernel_rfl) (by kernel_rfl) (by kernel_rfl) (fun _ _ _ h=>h) (yR ⟨by rfl,rfl⟩) hHeld ?_
     try simp only [Act.put,yd,ye,yf]
     refine yI (i:=26) (oi:={ dst:=some 77,op:=_,type:=_,pos:=_,after:=_,guard:=_ }) (v:=undef) rfl (by kernel_rfl) (by kernel_rfl) (by kernel_rfl) (fun _ _ _ h=>h) (yR ⟨by rfl,rfl⟩) hHeld ?_
     try simp only [Act.put,yd,ye,yf]
     refine yI (i:=27) (oi:={ dst:=some 78,op:=_,type:=_,pos:=_,after:=_,guard:=_ }) (v:=undef) rfl (by kernel_rfl) (by kernel_rfl) (by kernel_rfl) (fun _ _ _ h=>h) (yR ⟨by rfl,rfl⟩) hHeld ?_
     try simp only [Act.put,yd,ye,yf]
     refine yI (i:=28) (oi:={ dst:=some 79,op:=_,type:=_,pos:=_,after:=_,guard:=_ }) (v:=.bool true) rfl (by kernel_rfl) (by kernel_rfl) (by kernel_rfl) (fun _ _ _ h=>h) (yQ ⟨by rfl,?_⟩) hHeld ?_
     ·intro ww H; obtain ⟨s0,s1,s2,s3,s4⟩:=H; go_simp
     try simp only [Act.put,yd,ye,yf]
     refine wpAnyH_done (by kernel_rfl) ?_ _
     all_goals go_wp2_with fail
     all_goals refine ⟨⟨n+1,by omega,by first | (rw [zA y]; go_num) | (congr 1; have:=zA y; omega),by rw [zA Y]; rfl,by rw [zA P],zB (zA X).1,q⟩,by simp [intOf]; omega⟩
    ·have a:¬ (atO xs j).l<(atO xs jb).l:=by omega
     have hj:decide ((atO xs j).l<(atO xs jb).l)=false:=by rw [yT]; exact a
     have hp:((atO xs j).l==(atO xs jb).l)=true:=by simpa using hl
     by_cases f:srt (atO xs j).k (atO xs j).sd=2
     ·have hv:(srt (atO xs j).k (atO xs j).sd != 2)=false:=by simpa using f
      have Y:=zB (show rtF xs (sgs xs ts lo (n+1)) lo 0 none=some (x1,sgT xs ts x1) by
       rw [zA M]; exact zMa (by simp only; rw [zA o,zA m,zA hk]; rintro (h | ⟨_,h⟩); exact a h; exact h f))
      have hq:=zB a
      clear f hl a
      go_wp2_with fail
      go_region_held (fun w'=>w'.cell? ⟨w.heap.size,0,none⟩=some (.slice (some ⟨b,V,none⟩) xs.length cap)/\w'.cell? ⟨w2.heap.size,0,none⟩=some (.string (atO xs j).s)/\w'.cell? ⟨w2.heap.size,1,none⟩=some (.int .i64 (atO xs j).k)/\w'.cell? ⟨w2.heap.size,2,none⟩=some (.int .i64 (atO xs j).l)/\w'.cell? ⟨w2.heap.size,3,none⟩=some (.int .i64 (atO xs j).sd)) (first | (go_keep; done) | exact zA X)
       (first | (go_at_call 132; refine ((zA G) _ (zA q)).mono ?_; rintro e w3 ⟨rfl,hb3⟩; replace q:=zB ((zA q).trans (hb3.mono (zA q).size)); replace X:=zB (zET hb3 (zA X)); clear hb3) | (go_at_call 59; refine (zAC _ _ _ _ _).mono ?_; rintro e w4 ⟨rfl,hb4⟩; replace q:=zB ((zA q).trans (hb4.mono (zA q).size)); replace X:=zB (zET hb4 (zA X)); clear hb4))
      all_goals go_wp2_with fail
      all_goals refine ⟨⟨n+1,by omega,by first | (rw [zA y]; go_num) | (congr 1; have:=zA y; omega),by rw [zA Y]; rfl,by rw [zA P],zB (zA X).1,q⟩,by simp [intOf]; omega⟩
     ·have hv:(srt (atO xs j).k (atO xs j).sd != 2)=true:=by simpa using f
      have Y:=zB (show rtF xs (sgs xs ts lo (n+1)) lo 0 none=some (i,sgT xs ts i) by
       rw [zA M]; exact zKc (yR (by simp only; rw [zA o,zA m,zA hk]; exact ⟨hl,f⟩)))
      have hq:=zB a
      clear f hl a
      go_wp2_with fail
      go_region_held (fun w'=>w'.cell? ⟨w.heap.size,0,none⟩=some (.slice (some ⟨b,V,none⟩) xs.length cap)/\w'.cell? ⟨w2.heap.size,0,none⟩=some (.string (atO xs j).s)/\w'.cell? ⟨w2.heap.size,1,none⟩=some (.int .i64 (atO xs j).k)/\w'.cell? ⟨w2.heap.size,2,none⟩=some (.int .i64 (atO xs j).l)/\w'.cell? ⟨w2.heap.size,3,none⟩=some (.int .i64 (atO xs j).sd)) (first | (go_keep; done) | exact zA X)
       (first | (go_at_call 132; refine ((zA G) _ (zA q)).mono ?_; rintro e w3 ⟨rfl,hb3⟩; replace q:=zB ((zA q).trans (hb3.mono (zA q).size)); replace X:=zB (zET hb3 (zA X)); clear hb3) | (go_at_call 59; refine (zAC _ _ _ _ _).mono ?_; rintro e w4 ⟨rfl,hb4⟩; replace q:=zB ((zA q).trans (hb4.mono (zA q).size)); replace X:=zB (zET hb4 (zA X)); clear hb4))
      all_goals go_wp2_with fail
      all_goals refine ⟨⟨n+1,by omega,by first | (rw [zA y]; go_num) | (congr 1; have:=zA y; omega),by rw [zA Y]; rfl,by rw [zA P],zB (zA X).1,q⟩,by simp [intOf]; omega⟩
    ·have a:¬ (atO xs j).l<(atO xs jb).l:=by omega
     have hj:decide ((atO xs j).l<(atO xs jb).l)=false:=by rw [yT]; exact a
     have hp:((atO xs j).l==(atO xs jb).l)=false:=by simp; omega
     have Y:=zB (show rtF xs (sgs xs ts lo (n+1)) lo 0 none=some (x1,sgT xs ts x1) by
      rw [zA M]; exact zMa (by simp only; rw [zA o,zA m]; rintro (h | ⟨h,_⟩); exact a h; omega))
     go_wp2_with fail
     refine wp_region_held_drew (S:=(fun w'=>w'.cell? ⟨w.heap.size,0,none⟩=some (.slice (some ⟨b,V,none⟩) xs.length cap)/\w'.cell? ⟨w2.heap.size,0,none⟩=some (.string (atO xs j).s)/\w'.cell? ⟨w2.heap.size,1,none⟩=some (.int .i64 (atO xs j).k)/\w'.cell? ⟨w2.heap.size,2,none⟩=some (.int .i64 (atO xs j).l)/\w'.cell? ⟨w2.heap.size,3,none⟩=some (.int .i64 (atO xs j).sd))) (by kernel_rfl) (zA X) (fun hHeld=>?_)
     refine yI (i:=0) (oi:={ dst:=some 51,op:=_,type:=_,pos:=_,after:=_,guard:=_ }) (v:=.int .i64 (x1:Int)) rfl (by kernel_rfl) (by kernel_rfl) (by kernel_rfl) (fun _ _ _ h=>h) (yQ ⟨by rfl,?_⟩) hHeld ?_
     ·intro ww H; obtain ⟨s0,s1,s2,s3,s4⟩:=H; go_simp
     try simp only [Act.put,yd,ye,yf]
     refine yI (i:=1) (oi:={ dst:=some 52,op:=_,type:=_,pos:=_,after:=_,guard:=_ }) (v:=.bool false) rfl (by kernel_rfl) (by kernel_rfl) (by kernel_rfl) (fun _ _ _ h=>h) (yQ ⟨by rfl,?_⟩) hHeld ?_
     ·intro ww H; obtain ⟨s0,s1,s2,s3,s4⟩:=H; go_simp
     try simp only [Act.put,yd,ye,yf]
     refine yI (i:=2) (oi:={ dst:=some 53,op:=_,type:=_,pos:=_,after:=_,guard:=_ }) (v:=.bool false) rfl (by kernel_rfl) (by kernel_rfl) (by kernel_rfl) (fun _ _ _ h=>h) (yQ ⟨by rfl,?_⟩) hHeld ?_
     ·intro ww H; obtain ⟨s0,s1,s2,s3,s4⟩:=H; go_simp
     try simp only [Act.put,yd,ye,yf]
     refine yI (i:=3) (oi:={ dst:=some 54,op:=_,type:=_,pos:=_,after:=_,guard:=_ }) (v:=.pointer (some ⟨w2.heap.size,2,none⟩)) rfl (by kernel_rfl) (by kernel_rfl) (by kernel_rfl) (fun _ _ _ h=>h) (yQ ⟨by rfl,?_⟩) hHeld ?_
     ·intro ww H; obtain ⟨s0,s1,s2,s3,s4⟩:=H; go_simp
     try simp only [Act.put,yd,ye,yf]
     refine yI (i:=4) (oi:={ dst:=some 55,op:=_,type:=_,pos:=_,after:=_,guard:=_ }) (v:=.int .i64 (atO xs j).l) rfl (by kernel_rfl) (by kernel_rfl) (by kernel_rfl) (fun _ _ _ h=>h) (yQ ⟨by rfl,?_⟩) hHeld ?_
     ·intro ww H; obtain ⟨s0,s1,s2,s3,s4⟩:=H; go_simp
     try simp only [Act.put,yd,ye,yf]
     refine yI (i:=5) (oi:={ dst:=some 56,op:=_,type:=_,pos:=_,after:=_,guard:=_ }) (v:=.agg #[.slice (some ⟨b,V,none⟩) xs.length cap]) rfl (by kernel_rfl) (by kernel_rfl) (by kernel_rfl) (fun _ _ _ h=>h) (yQ ⟨by rfl,?_⟩) hHeld ?_
     ·intro ww H; obtain ⟨s0,s1,s2,s3,s4⟩:=H; go_simp
     try simp only [Act.put,yd,ye,yf]
     refine yI (i:=6) (oi:={ dst:=some 57,op:=_,type:=_,pos:=_,after:=_,guard:=_ }) (v:=.slice (some ⟨gt,ot,none⟩) ts.length ct) rfl (by kernel_rfl) (by kernel_rfl) (by kernel_rfl) (fun _ _ _ h=>h) (yQ ⟨by rfl,?_⟩) hHeld ?_
     ·intro ww H; obtain ⟨s0,s1,s2,s3,s4⟩:=H; go_simp
     try simp only [Act.put,yd,ye,yf]
     refine yI (i:=7) (oi:={ dst:=some 58,op:=_,type:=_,pos:=_,after:=_,guard:=_ }) (v:=.slice (some ⟨gr,0,none⟩) us.length cr) rfl (by kernel_rfl) (by kernel_rfl) (by kernel_rfl) (fun _ _ _ h=>h) (yQ ⟨by rfl,?_⟩) hHeld ?_
     ·intro ww H; obtain ⟨s0,s1,s2,s3,s4⟩:=H; go_simp
     try simp only [Act.put,yd,ye,yf]
     refine yI (i:=8) (oi:={ dst:=some 59,op:=_,type:=_,pos:=_,after:=_,guard:=_ }) (v:=.int .i64 (x1:Int)) rfl (by kernel_rfl) (by kernel_rfl) (by kernel_rfl) (fun _ _ _ h=>h) (yQ ⟨by rfl,?_⟩) hHeld ?_
     ·intro ww H; obtain ⟨s0,s1,s2,s3,s4⟩:=H; go_simp
     try simp only [Act.put,yd,ye,yf]
     refine yL (rs:=[9]) (by kernel_rfl) (by simp) ?_
     refine yE rfl (fun K hK=>?_) yF
     go_simp
     refine ((zA G) _ (zA q)).mono ?_
     rintro e w3 ⟨rfl,hb3⟩
     replace q:=zB ((zA q).trans (hb3.mono (zA q).size))
     replace X:=zB (zET hb3 (zA X))
     clear hb3 hHeld
     refine hK.out _ _ (zA X) (fun hHeld=>?_)
     clear hK
     try simp only [Act.put,yd,ye,yf]
     refine yI (i:=10) (oi:={ dst:=some 61,op:=_,type:=_,pos:=_,after:=_,guard:=_ }) (v:=.int .i64 (atO xs jb).l) rfl (by kernel_rfl) (by kernel_rfl) (by kernel_rfl) (fun _ _ _ h=>h) (yQ ⟨by rfl,?_⟩) hHeld ?_
     ·intro ww H; obtain ⟨s0,s1,s2,s3,s4⟩:=H; go_simp
     try simp only [Act.put,yd,ye,yf]
     refine yI (i:=11) (oi:={ dst:=some 62,op:=_,type:=_,pos:=_,after:=_,guard:=_ }) (v:=.bool false) rfl (by kernel_rfl) (by kernel_rfl) (by kernel_rfl) (fun _ _ _ h=>h) (yQ ⟨by rfl,?_⟩) hHeld ?_
     ·intro ww H; obtain ⟨s0,s1,s2,s3,s4⟩:=H; go_simp
     try simp only [Act.put,yd,ye,yf]
     refine yI (i:=12) (oi:={ dst:=some 63,op:=_,type:=_,pos:=_,after:=_,guard:=_ }) (v:=.bool false) rfl (by kernel_rfl) (by kernel_rfl) (by kernel_rfl) (fun _ _ _ h=>h) (yQ ⟨by rfl,?_⟩) hHeld ?_
     ·intro ww H; obtain ⟨s0,s1,s2,s3,s4⟩:=H; go_simp
     try simp only [Act.put,yd,ye,yf]
     refine yI (i:=13) (oi:={ dst:=some 64,op:=_,type:=_,pos:=_,after:=_,guard:=_ }) (v:=.bool false) rfl (by kernel_rfl) (by kernel_rfl) (by kernel_rfl) (fun _ _ _ h=>h) (yQ ⟨by rfl,?_⟩) hHeld ?_
     ·intro ww H; obtain ⟨s0,s1,s2,s3,s4⟩:=H; go_simp
     try simp only [Act.put,yd,ye,yf]
     refine yI (i:=14) (oi:={ dst:=some 65,op:=_,type:=_,pos:=_,after:=_,guard:=_ }) (v:=.pointer (some ⟨w2.heap.size,2,none⟩)) rfl (by kernel_rfl) (by kernel_rfl) (by kernel_rfl) (fun _ _ _ h=>h) (yQ ⟨by rfl,?_⟩) hHeld ?_
     ·intro ww H; obtain ⟨s0,s1,s2,s3,s4⟩:=H; go_simp
     try simp only [Act.put,yd,ye,yf]
     refine yI (i:=15) (oi:={ dst:=some 66,op:=_,type:=_,pos:=_,after:=_,guard:=_ }) (v:=.int .i64 (atO xs j).l) rfl (by kernel_rfl) (by kernel_rfl) (by kernel_rfl) (fun _ _ _ h=>h) (yQ ⟨by rfl,?_⟩) hHeld ?_
     ·intro ww H; obtain ⟨s0,s1,s2,s3,s4⟩:=H; go_simp
     try simp only [Act.put,yd,ye,yf]
     refine yI (i:=16) (oi:={ dst:=some 67,op:=_,type:=_,pos:=_,after:=_,guard:=_ }) (v:=.agg #[.slice (some ⟨b,V,none⟩) xs.length cap]) rfl (by kernel_rfl) (by kernel_rfl) (by kernel_rfl) (fun _ _ _ h=>h) (yQ ⟨by rfl,?_⟩) hHeld ?_
     ·intro ww H; obtain ⟨s0,s1,s2,s3,s4⟩:=H; go_simp
     try simp only [Act.put,yd,ye,yf]
     refine yI (i:=17) (oi:={ dst:=some 68,op:=_,type:=_,pos:=_,after:=_,guard:=_ }) (v:=.slice (some ⟨gt,ot,none⟩) ts.length ct) rfl (by kernel_rfl) (by kernel_rfl) (by kernel_rfl) (fun _ _ _ h=>h) (yQ ⟨by rfl,?_⟩) hHeld ?_
     ·intro ww H; obtain ⟨s0,s1,s2,s3,s4⟩:=H; go_simp
     try simp only [Act.put,yd,ye,yf]
     refine yI (i:=18) (oi:={ dst:=some 69,op:=_,type:=_,pos:=_,after:=_,guard:=_ }) (v:=.slice (some ⟨gr,0,none⟩) us.length cr) rfl (by kernel_rfl) (by kernel_rfl) (by kernel_rfl) (fun _ _ _ h=>h) (yQ ⟨by rfl,?_⟩) hHeld ?_
     ·intro ww H; obtain ⟨s0,s1,s2,s3,s4⟩:=H; go_simp
     try simp only [Act.put,yd,ye,yf]
     refine yI (i:=19) (oi:={ dst:=some 70,op:=_,type:=_,pos:=_,after:=_,guard:=_ }) (v:=.int .i64 (x1:Int)) rfl (by kernel_rfl) (by kernel_rfl) (by kernel_rfl) (fun _ _ _ h=>h) (yQ ⟨by rfl,?_⟩) hHeld ?_
     ·intro ww H; obtain ⟨s0,s1,s2,s3,s4⟩:=H; go_simp
     try simp only [Act.put,yd,ye,yf]
     refine yL (rs:=[20]) (by kernel_rfl) (by simp) ?_
     refine yE rfl (fun K hK=>?_) yF
     go_simp
     refine ((zA G) _ (zA q)).mono ?_
     rintro e w3 ⟨rfl,hb3⟩
     replace q:=zB ((zA q).trans (hb3.mono (zA q).size))
     replace X:=zB (zET hb3 (zA X))
     clear hb3 hHeld
     refine hK.out _ _ (zA X) (fun hHeld=>?_)
     clear hK
     try simp only [Act.put,yd,ye,yf]
     refine yI (i:=21) (oi:={ dst:=some 72,op:=_,type:=_,pos:=_,after:=_,guard:=_ }) (v:=.int .i64 (atO xs jb).l) rfl (by kernel_rfl) (by kernel_rfl) (by kernel_rfl) (fun _ _ _ h=>h) (yQ ⟨by rfl,?_⟩) hHeld ?_
     ·intro ww H; obtain ⟨s0,s1,s2,s3,s4⟩:=H; go_simp
     try simp only [Act.put,yd,ye,yf]
     refine yI (i:=22) (oi:={ dst:=some 73,op:=_,type:=_,pos:=_,after:=_,guard:=_ }) (v:=.bool false) rfl (by kernel_rfl) (by kernel_rfl) (by kernel_rfl) (fun _ _ _ h=>h) (yQ ⟨by rfl,?_⟩) hHeld ?_
     ·intro ww H; obtain ⟨s0,s1,s2,s3,s4⟩:=H; go_simp
     try simp only [Act.put,yd,ye,yf]
     refine yI (i:=23) (oi:={ dst:=some 74,op:=_,type:=_,pos:=_,after:=_,guard:=_ }) (v:=.bool false) rfl (by kernel_rfl) (by kernel_rfl) (by kernel_rfl) (fun _ _ _ h=>h) (yQ ⟨by rfl,?_⟩) hHeld ?_
     ·intro ww H; obtain ⟨s0,s1,s2,s3,s4⟩:=H; go_simp
     try simp only [Act.put,yd,ye,yf]
     refine yI (i:=24) (oi:={ dst:=some 75,op:=_,type:=_,pos:=_,after:=_,guard:=_ }) (v:=undef) rfl (by kernel_rfl) (by kernel_rfl) (by kernel_rfl) (fun _ _ _ h=>h) (yR ⟨by rfl,rfl⟩) hHeld ?_
     try simp only [Act.put,yd,ye,yf]
     refine yI (i:=25) (oi:={ dst:=some 76,op:=_,type:=_,pos:=_,after:=_,guard:=_ }) (v:=undef) rfl (by kernel_rfl) (by kernel_rfl) (by kernel_rfl) (fun _ _ _ h=>h) (yR ⟨by rfl,rfl⟩) hHeld ?_
     try simp only [Act.put,yd,ye,yf]
     refine yI (i:=26) (oi:={ dst:=some 77,op:=_,type:=_,pos:=_,after:=_,guard:=_ }) (v:=undef) rfl (by kernel_rfl) (by kernel_rfl) (by kernel_rfl) (fun _ _ _ h=>h) (yR ⟨by rfl,rfl⟩) hHeld ?_
     try simp only [Act.put,yd,ye,yf]
     refine yI (i:=27) (oi:={ dst:=some 78,op:=_,type:=_,pos:=_,after:=_,guard:=_ }) (v:=.bool false) rfl (by kernel_rfl) (by kernel_rfl) (by kernel_rfl) (fun _ _ _ h=>h) (yQ ⟨by rfl,?_⟩) hHeld ?_
     ·intro ww H; obtain ⟨s0,s1,s2,s3,s4⟩:=H; go_simp
     try simp only [Act.put,yd,ye,yf]
     refine yI (i:=28) (oi:={ dst:=some 79,op:=_,type:=_,pos:=_,after:=_,guard:=_ }) (v:=.bool false) rfl (by kernel_rfl) (by kernel_rfl) (by kernel_rfl) (fun _ _ _ h=>h) (yQ ⟨by rfl,?_⟩) hHeld ?_
     ·intro ww H; obtain ⟨s0,s1,s2,s3,s4⟩:=H; go_simp
     try simp only [Act.put,yd,ye,yf]
     refine wpAnyH_done (by kernel_rfl) ?_ _
     all_goals go_wp2_with fail
     all_goals refine ⟨⟨n+1,by omega,by first | (rw [zA y]; go_num) | (congr 1; have:=zA y; omega),by rw [zA Y]; rfl,by rw [zA P],zB (zA X).1,q⟩,by simp [intOf]; omega⟩
  ·have r:¬ ((lo+n:Nat):Int)<(hi:Int):=by omega
   have e:n=hi-lo:=by omega
   subst e
   go_wp2_with fail
   go_ret
   exact ⟨rfl,zA Q⟩
end Go.Proofs.YtgbkgkdpdfdokaaGreatDoor
