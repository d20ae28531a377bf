import Derived.Test.YtgbkgkdpdfdokaaGreatDoorQ29
namespace Go.Proofs.YtgbkgkdpdfdokaaGreatDoor
set_option linter.all false
set_option maxHeartbeats 16000000
set_option maxRecDepth 100000
open Go.RowKit
variable {B b n o:Nat} {G:OpR -> Option Value} {ks:List ByteArray} {kv v:Value} {ms:List zF} {pv:Option Nat} {t:OpR} {w:World}
theorem zAg.two {B P P':Nat->Prop} {R R':Prop} (h:zAg n B P R) (h':zAg n B P' R'):(∃ i,i<n/\P i/\P' i)\/((∀ i,i<n->¬ B i)/\R/\R'):=by
 rcases h with ⟨i,hi,hB,hb,hP⟩ | ⟨hb,hR⟩ <;> rcases h' with ⟨j,hj,k,H,K⟩ | ⟨H,q⟩
 ·rcases Nat.lt_trichotomy i j with e | e | e
  ·exact yP hB (H i e)
  ·subst e; exact yQ ⟨i,hi,hP,K⟩
  ·exact yP k (hb j e)
 ·exact yP hB (H i hi)
 ·exact yP k (hb j hj)
 ·exact yR ⟨hb,hR,q⟩
theorem Zd.eq {U U':List UnR} (h:Zd ms U) (h':Zd ms U'):U=U':=by
 refine List.ext_getElem (h.1.trans h'.1.symm) fun i h1 h2=>?_
 have:=h.one h' i (by rw [<- h.1]; exact h1)
 simpa [atU,yk,h1,h2] using this
theorem ScE.one {ms:List zF} {U:List UnR} {S T:Nat->List OpR} {rk:Nat->Nat} (hS:ScE ms U S) (hT:ScE ms U T) (hr:∀ i,i<ms.length->∀ u∈(atU U i).us,nmF ms u<ms.length/\rk (nmF ms u)<rk i):∀ r i,i<ms.length->rk i<r->S i=T i
 | 0,i,_,h=>by omega
 | r+1,i,hi,h=>by
  rw [hS i hi,hT i hi]
  refine zDV _ _ fun u hu=>?_
  obtain ⟨h1,h2⟩:=hr i hi u hu
  exact ScE.one hS hT hr r _ h1 (by omega)
theorem zz.one {ms:List zF} {out out':List (List OpR)} {c c' H who':Int} (h:zz ms out c H) (h':zz ms out' c' who'):out=out'/\c=c'/\H=who':=by
 have tri:∀ {x:Nat} {k:Int},(out=[]/\c=k/\H=(x:Int))->(out'=[]/\c'=k/\who'=(x:Int))->out=out'/\c=c'/\H=who':=fun a b=>⟨a.1.trans b.1.symm,a.2.1.trans b.2.1.symm,a.2.2.trans b.2.2.symm⟩
 rcases h with ⟨a,h⟩ | ⟨a,h⟩ <;> rcases h' with ⟨a',h'⟩ | ⟨a',h'⟩
 ·exact ⟨h.1.trans h'.1.symm,h.2.1.trans h'.2.1.symm,h.2.2.trans h'.2.2.symm⟩
 ·omega
 ·omega
 rcases h.two h' with ⟨i,_,h,h'⟩ | ⟨h2,h,h'⟩
 ·exact tri h h'
 rcases zAg.two h h' with ⟨i,_,h,h'⟩ | ⟨h3,⟨U,hU,h⟩,⟨U',q,h'⟩⟩
 ·exact tri h h'
 obtain rfl:=hU.eq q
 rcases h.two h' with ⟨i,_,h,h'⟩ | ⟨h4,h,h'⟩
 ·exact tri h h'
 rcases zAg.two h h' with ⟨i,_,h,h'⟩ | ⟨h5,⟨S,hS,h⟩,⟨T,hT,h'⟩⟩
 ·exact tri h h'
 obtain ⟨rk,hr,Q⟩:=zOO h3 h4 h5
 have e:∀ i,i<ms.length->S i=T i:=fun i hi=>hS.one hT (rk:=rk) (fun i hi u hu=>⟨(zGJ hi (h4 i hi) hu).1,hr i hi u hu⟩) (rk i+1) i hi (by omega)
 have hB:∀ i,i<ms.length->(B6 S i↔B6 T i):=fun i hi=>by unfold B6; rw [e i hi]
 have K:zAg ms.length (B6 S) (fun i=>out'=[]/\c'=6/\who'=(i:Int)) (out'=(List.range ms.length).map T/\c'=0/\who'=0):=by
  rcases h' with ⟨i,hi,b,hb,hp⟩ | ⟨hb,hp⟩
  ·exact yQ ⟨i,hi,(hB i hi).2 b,fun j hj x=>hb j hj ((hB j (by omega)).1 x),hp⟩
  ·exact yR ⟨fun i hi x=>hb i hi ((hB i hi).1 x),hp⟩
 rcases h.two K with ⟨i,_,h,h'⟩ | ⟨_,⟨e1,e2,e3⟩,⟨f1,f2,f3⟩⟩
 ·exact tri h h'
 ·refine ⟨?_,e2.trans f2.symm,e3.trans f3.symm⟩
  rw [e1,f1]
  exact List.map_congr_left fun i hi=>e i (List.mem_range.1 hi)
theorem zIg {nm nm':ByteArray->Nat} {S T:Nat->List OpR}:∀ (us:List JZ) (H:List OpR),(∀ u∈us,S (nm u)=T (nm' u))->Za nm S H us=Za nm' T H us
 | [],_,_=>rfl
 | u::r,H,h=>by
  rw [zAz,zAz,h u (by simp)]
  exact zIg r _ fun v hv=>h v (by simp [hv])
theorem zJP {i:Nat} (h:i<ms.length):atM ms.reverse i=atM ms (ms.length-1-i):=by
 simp [atM,yk,List.getElem?_reverse h]
theorem zQT {U:List UnR} {i:Nat} (h:i<U.length):atU U.reverse i=atU U (U.length-1-i):=by
 simp [atU,yk,List.getElem?_reverse h]
theorem zMd {E F:Nat->Nat->Prop} {f:Nat->Nat} (h:∀ i j,E i j->F (f i) (f j)):∀ {k i j:Nat},Pth E k i j->Pth F k (f i) (f j)
 | 0,i,j,hp=>h i j hp
 | k+1,i,j,hp=>by
  obtain ⟨m,h1,h2⟩:=hp
  exact ⟨f m,h i m h1,zMd h h2⟩
theorem zz.rev {out:List (List OpR)} {Q:Int} (h:zz ms out 0 Q):zz ms.reverse out.reverse 0 0:=by
 rcases h with ⟨_,_,h,_⟩ | ⟨hn,⟨_,_,_,_,_,h,_⟩ | ⟨h2,h⟩⟩
 ·cases h
 ·cases h
 rcases h with ⟨_,_,_,_,_,h,_⟩ | ⟨h3,h⟩
 ·cases h
 obtain ⟨U,hU,h⟩:=h
 rcases h with ⟨_,_,_,_,_,h,_⟩ | ⟨h4,h⟩
 ·cases h
 rcases h with ⟨_,_,_,_,_,h,_⟩ | ⟨h5,h⟩
 ·cases h
 obtain ⟨S,hS,h⟩:=h
 rcases h with ⟨_,_,_,_,_,h,_⟩ | ⟨h6,h⟩
 ·cases h
 obtain ⟨rfl,_⟩:=h
 obtain ⟨n,y⟩:∃ n,n=ms.length:=⟨_,rfl⟩
 have hl:ms.reverse.length=ms.length:=List.length_reverse
 have K:U.length=ms.length:=hU.1
 have hM:∀ i,i<ms.length->atM ms.reverse i=atM ms (ms.length-1-i):=fun i hi=>zJP hi
 have H:∀ i,i<ms.length->atU U.reverse i=atU U (ms.length-1-i):=fun i hi=>by rw [zQT (by omega),K]
 have q:∀ i j,i<ms.length->j<ms.length->(atM ms i).n=(atM ms j).n->i=j:=fun i j hi hj e=>by
  rcases Nat.lt_trichotomy i j with x | x | x
  ·exact yP ⟨i,x,e⟩ (h3 j hj)
  ·exact x
  ·exact yP ⟨j,x,e.symm⟩ (h3 i hi)
 have X:∀ u,nmF ms u<ms.length->nmF ms.reverse u=ms.length-1-nmF ms u:=fun u hu=>by
  have e:=(Z5 ms u).1 hu
  refine zI8 (by omega) ?_ fun j hj x=>?_
  ·rw [hM _ (by omega)]
   have:ms.length-1-(ms.length-1-nmF ms u)=nmF ms u:=by omega
   rw [this]; exact e
  ·rw [hM j (by omega)] at x
   have:=q _ _ (by omega) hu (x.trans e.symm)
   omega
 have hE:∀ i j,Edg ms.reverse U.reverse i j->Edg ms U (ms.length-1-i) (ms.length-1-j):=fun i j ⟨a,b,e⟩=>by
  rw [hl] at a b
  rw [hM j b,H i a] at e
  exact ⟨by omega,by omega,e⟩
 refine yR ⟨by omega,yR ⟨fun i hi=>?_,yR ⟨fun i hi=>?_,U.reverse,⟨by simp [K],fun i hi=>?_⟩,yR ⟨fun i hi=>?_,yR ⟨fun i hi=>?_,fun i=>S (ms.length-1-i),fun i hi=>?_,yR ⟨fun i hi=>?_,?_,rfl,rfl⟩⟩⟩⟩⟩⟩
 ·rw [hl] at hi
  have:=h2 (ms.length-1-i) (by omega)
  unfold B2 at this ⊢
  rw [hM i hi]
  exact this
 ·rw [hl] at hi
  rintro ⟨j,hj,e⟩
  rw [hM j (by omega),hM i hi] at e
  have:=q _ _ (by omega) (by omega) e
  omega
 ·rw [hl] at hi
  rw [hM i hi,H i hi]
  exact hU.2 _ (by omega)
 ·rw [hl] at hi
  rintro ⟨u,hu,hb⟩
  rw [H i hi] at hu
  refine h4 (ms.length-1-i) (by omega) ⟨u,hu,fun j hj e=>?_⟩
  refine hb (ms.length-1-j) (by omega) ?_
  rw [hM _ (by omega)]
  have:ms.length-1-(ms.length-1-j)=j:=by omega
  rw [this]; exact e
 ·rw [hl] at hi
  rintro ⟨k,hk⟩
  exact h5 _ (by omega) ⟨k,zMd (f:=fun i=>ms.length-1-i) hE hk⟩
 ·rw [hl] at hi
  show S (ms.length-1-i)=_
  rw [hS _ (by omega),H i hi]
  refine zIg _ _ fun u hu=>?_
  have hx:=(zGJ (by omega) (h4 _ (by omega)) hu).1
  show S (nmF ms u)=S (ms.length-1-nmF ms.reverse u)
  rw [X u hx]
  congr 1
  omega
 ·rw [hl] at hi
  exact h6 _ (by omega)
 ·rw [hl]
  apply List.ext_getElem
  ·simp
  ·intro i h1 h2
   simp at h1
   simp [List.getElem_reverse]
theorem zKM.one {T:Nat->List OpR} {b:Nat->ByteArray} {out out':List (List zD)} {c c' H who':Int} (h:zKM T b n out c H) (h':zKM T b n out' c' who'):out=out'/\c=c'/\H=who':=by
 rcases h' with ⟨k,us,cd,t,h1,h2,h3,h4,rfl,rfl,rfl⟩ | ⟨h1,rfl,rfl⟩
 ·exact h.hit h1 h2 h3 h4
 ·exact h.miss h1
theorem zBv.one {ms:List zF} {out out':List (List zD)} {c c' H who':Int} (h:zBv ms out c H) (h':zBv ms out' c' who'):out=out'/\c=c'/\H=who':=by
 obtain ⟨tabs,c0,w0,hL,h⟩:=h
 obtain ⟨tabs',c0',w0',k,h'⟩:=h'
 obtain ⟨rfl,rfl,rfl⟩:=hL.one k
 rcases h with ⟨a,rfl,rfl,rfl⟩ | ⟨a,U,hU,h⟩ <;> rcases h' with ⟨a',rfl,rfl,rfl⟩ | ⟨a',U',K,h'⟩
 ·exact ⟨rfl,rfl,rfl⟩
 ·exact yP a' a
 ·exact yP a a'
 ·obtain rfl:=hU.eq K
  exact h.one h'
theorem zOQ.one {bs:List UInt8} {n:Nat} {xa:List OpR} {i:Nat} {ms:List zF} {p q q':Nat} {m m':zF} (h:zOQ bs n xa i ms p m q) (h':zOQ bs n xa i ms p m' q'):m=m'/\q=q':=by
 obtain ⟨hd,tabs,c,y,ws,q1,tx,out,bad,who2,rfl,hL,hW,hT,hR,hM⟩:=h
 obtain ⟨Y,tabs',c',who',ws',q1',tx',out',bad',who2',rfl,Q,H,k,K,X⟩:=h'
 obtain ⟨rfl,rfl,rfl⟩:=hL.one Q
 obtain ⟨rfl,rfl⟩:=hW.one H
 have e:tx=tx'/\q=q':=by
  rcases hT with ⟨a,rfl,rfl⟩ | ⟨a,rfl,rfl⟩ <;> rcases k with ⟨a',rfl,rfl⟩ | ⟨a',rfl,rfl⟩
  ·exact ⟨rfl,rfl⟩
  ·exact yP a a'
  ·exact yP a' a
  ·exact ⟨rfl,rfl⟩
 obtain ⟨rfl,rfl⟩:=e
 obtain ⟨rfl,rfl,rfl⟩:=hR.one K
 refine ⟨?_,rfl⟩
 rcases hM with ⟨a,rfl⟩ | ⟨a,t,ht,rfl⟩ <;> rcases X with ⟨a',rfl⟩ | ⟨a',t',x,rfl⟩
 ·rfl
 ·exact yP a a'
 ·exact yP a' a
 ·rw [ht.one x]
theorem zFv.one {bs:List UInt8} {n:Nat} {xa:List OpR} {p0:Nat}:∀ {i:Nat} {ms ms':List zF} {q q':Nat},zFv bs n xa p0 i ms q->zFv bs n xa p0 i ms' q'->ms=ms'/\q=q'
 | 0,_,_,_,_,h,h'=>⟨h.1.trans h'.1.symm,h.2.trans h'.2.symm⟩
 | i+1,_,_,_,_,h,h'=>by
  obtain ⟨K,p1,m,h0,hr,rfl⟩:=h
  obtain ⟨ms0',p1',m',k,H,rfl⟩:=h'
  obtain ⟨rfl,rfl⟩:=zFv.one h0 k
  obtain ⟨rfl,rfl⟩:=hr.one H
  exact ⟨rfl,rfl⟩
theorem zM0.one {bs:List UInt8} {p q q':Nat} {ms ms':List zF} (h:zM0 bs p ms q) (h':zM0 bs p ms' q'):ms=ms'/\q=q':=by
 obtain ⟨xa,q1,ht,h⟩:=h
 obtain ⟨xa',q1',H,h'⟩:=h'
 obtain ⟨rfl,rfl⟩:=ht.one H
 exact h.one h'
theorem zKf.one {bs:List UInt8} {p:Nat} {ms ms':List zF} (h:zKf bs p ms) (h':zKf bs p ms'):ms=ms':=by
 obtain ⟨k,q,hp,h⟩:=h
 obtain ⟨ms0',q',H,h'⟩:=h'
 obtain ⟨rfl,rfl⟩:=hp.one H
 rcases h with ⟨a,rfl⟩ | ⟨a,rfl⟩ | ⟨a,b,rfl⟩ <;> rcases h' with ⟨a',rfl⟩ | ⟨a',rfl⟩ | ⟨a',b',rfl⟩
 ·rfl
 ·omega
 ·exact yP a a'
 ·omega
 ·rfl
 ·exact yP a b'
 ·exact yP a' a
 ·exact yP a' b
 ·rfl
theorem zM8 (a b:OpR) (w:JY) :
  (binOp .neq 57 (.agg #[.string a.s,.int .i64 a.k,.int .i64 a.l,.int .i64 a.sd]) (.agg #[.string b.s,.int .i64 b.k,.int .i64 b.l,.int .i64 b.sd])).run Tryz.prog w = .ok (.bool (!Zo a b)) w:=by
 rw [run_neq_struct,run_equalIn_agg _ _ _ _ _ zJ6 zN3]
 unfold Program.fieldsOf Zo
 rw [Tryz.underlying57]
 cases h1:(a.s.toList==b.s.toList) <;> cases h2:(a.k==b.k) <;> cases h3:(a.l==b.l) <;> cases h4:(a.sd==b.sd) <;> simp [go_sem,h1,h2,h3,h4]
theorem zt.belowW {w':JY} {os:List OpR} (h:zt w v os) (hb:Below w.heap.size w w'):zt w' v os:=
 h.grown (row:=none) (zH hb none) (fun g _ e=>by cases e)
theorem zt.at {os:List OpR} (h:zt w v os) {i:Nat} (hi:i<os.length):∃ g c,v = .slice (some ⟨g,0,none⟩) os.length c/\g<w.heap.size/\w.cell? ⟨g,i*4,none⟩=some (.string (atO os i).s)/\w.cell? ⟨g,i*4+1,none⟩=some (.int .i64 (atO os i).k)/\w.cell? ⟨g,i*4+2,none⟩=some (.int .i64 (atO os i).l)/\w.cell? ⟨g,i*4+3,none⟩=some (.int .i64 (atO os i).sd):=by
 obtain ⟨a,c,rfl,⟨h0,_⟩ | ⟨g,rfl,hg,ho⟩⟩:=h
 ·omega
 ·obtain ⟨b0,b1,b2,b3⟩:=ho i hi
  simp only [yV] at b0 b1 b2 b3
  exact ⟨g,c,rfl,hg,b0,b1,b2,b3⟩
theorem zCi (v v':Value) (os:List OpR) (w:JY) (hm:os.length<=1048576) (h:zt w v os) (h':zt w v' os) :
  Calls Tryz.prog 7 #[.agg #[v],.agg #[v']] w fun e w'=>e = .returned (.bool true)/\Below w.heap.size w w':=by
 obtain ⟨a,c,hv,_⟩:=id h
 obtain ⟨a',c',x,_⟩:=id h'
 obtain ⟨W,hW⟩:∃ W,W=(w.alloc (.cells #[v] 33)).alloc (.cells #[v'] 33):=⟨_,rfl⟩
 have hb:Below w.heap.size w W:=by rw [hW]; exact (zC _ _).alloc (by simp) _
 have HA:=zB (h.belowW hb)
 have Q:=zB (h'.belowW hb)
 have HB:=zB hb
 have X:W.heap.size=w.heap.size+2:=by rw [hW]; simp
 have t0:W.cell? ⟨w.heap.size,0,none⟩=some v:=by rw [hW]; exact ((zC (w.alloc _) _).cell (p:=⟨w.heap.size,0,none⟩) (by simp)).trans (by simp [go_sem])
 have t1:W.cell? ⟨w.heap.size+1,0,none⟩=some v':=by rw [hW]; simp [go_sem]
 have HW:=zB hW
 clear h h' hb hW
 subst hv x
 go_enter Tryz.func7,Tryz.ntmps7
 go_wp2_with fail
 rw [<- zA HW]
 go_loopw [5] (fun i wr=>∃ n:Nat,n<=os.length/\i = .int .i64 (n:Int)/\Below W.heap.size W wr) (fun i _=>os.length-(intOf i).toNat)
 case atStart=>exact ⟨0,yj _,rfl,yG _ _⟩
 case round=>
  obtain ⟨n,hn,rfl,H⟩:=hrel
  have d0:=(H.cell (p:=⟨w.heap.size,0,none⟩) (show w.heap.size<_ by omega)).trans t0
  have d1:=(H.cell (p:=⟨w.heap.size+1,0,none⟩) (show w.heap.size+1<_ by omega)).trans t1
  by_cases K:n<os.length
  ·have q:(n:Int)<(os.length:Int):=by omega
   obtain ⟨g,c2,e1,_,b0,b1,b2,b3⟩:=((zA HA).belowW H).at K
   obtain ⟨g',c3,e2,_,x0,x1,x2,x3⟩:=((zA Q).belowW H).at K
   simp only [Value.slice.injEq,true_and] at e1 e2
   obtain ⟨rfl,rfl⟩:=e1
   obtain ⟨rfl,rfl⟩:=e2
   have hq:=fun W=>zM8 (atO os n) (atO os n) W
   have k:Zo (atO os n) (atO os n)=true:=zu.2 rfl
   simp only [k,Bool.not_true] at hq
   clear k
   go_wp2_with fail
   go_quiet (fail)
   go_wp2_with fail
   exact ⟨⟨n+1,by omega,by go_num,H.trans ⟨rfl,rfl,rfl,yh _,fun _ _=>rfl⟩⟩,by simp [intOf]; omega⟩
  ·have q:¬ (n:Int)<(os.length:Int):=by omega
   go_wp2_with fail
   go_ret
   exact ⟨rfl,(zA HB).trans (H.mono (zA HB).size)⟩
open Go.Maps
theorem zSF:(57:TypeId)<Tryz.prog.types.size:=of_decide_eq_true (by kernel_rfl)
theorem zR6:(match Tryz.prog.underlying 57 with | some (.array _ _) | some (.struct _)=>true | _=>false)=true:=by kernel_rfl
theorem zO6:Keyed Tryz.prog 57:=Keyed.of_law (deep_law_laid zJ4 (m:=3) (by omega) zSF (by kernel_rfl) zR6)
theorem zRh:Tryz.prog.keyType 57=true:=by kernel_rfl
theorem zO7:Tryz.prog.cellsOf 57=4:=by kernel_rfl
def zC6 (o:OpR):Prop:=o.s.size<=maxLen/\(Lit.int .i64 o.k).wf=true/\(Lit.int .i64 o.l).wf=true/\(Lit.int .i64 o.sd).wf=true
def klQ (o:OpR):Lit:=.string (keyBytes [.string o.s.data.toList,.int .i64 o.k,.int .i64 o.l,.int .i64 o.sd])
theorem zR7 {o:OpR} (h:zC6 o) (d:Nat) :
  Tryz.prog.keyLits (d+1+1) 57 [.string o.s,.int .i64 o.k,.int .i64 o.l,.int .i64 o.sd]=some [.string o.s.data.toList,.int .i64 o.k,.int .i64 o.l,.int .i64 o.sd]:=by
 obtain ⟨h1,h2,h3,h4⟩:=h
 conv=>lhs; unfold Program.keyLits
 rw [Tryz.underlying57]
 simp [zO7,zNw,zNx,zQt h1 d,zMF h2 d,zMF h3 d,zMF h4 d]
theorem zM9 {o:OpR} (h:zC6 o):keyOf Tryz.prog 57 (.agg #[.string o.s,.int .i64 o.k,.int .i64 o.l,.int .i64 o.sd])=some (klQ o):=by
 unfold keyOf
 rw [Tryz.underlying57]
 have hf:(Value.agg #[.string o.s,.int .i64 o.k,.int .i64 o.l,.int .i64 o.sd]).formed Tryz.prog 57=true:=by simp [Value.formed,Tryz.underlying57,zO7]
 have hl:=zR7 h (Tryz.prog.types.size-1)
 rw [<- zIE] at hl
 simp only [zRh,hf,Bool.and_self,if_true]
 show (Tryz.prog.keyLits (Tryz.prog.types.size+1) 57 [.string o.s,.int .i64 o.k,.int .i64 o.l,.int .i64 o.sd]).map _=_
 rw [hl]
 rfl
theorem zQU {a b:OpR} (ha:zC6 a) (hb:zC6 b) (h:klQ a=klQ b):a=b:=by
 have p:=zM9 ha
 have q:=zM9 hb
 rw [<- h] at q
 have:=zO6.inj p q
 obtain ⟨s,k,l,sd⟩:=a
 obtain ⟨s',k',l',sd'⟩:=b
 simp at this
 obtain ⟨rfl,rfl,rfl,rfl⟩:=this
 rfl
def zBV (w:JY) (b n:Nat) (G:OpR->Option Value):Prop:=
 ∃ D:DataW Value,w.ownsMap Tryz.prog 57 zBX b n D/\∀ t,zC6 t->Maps.has D (klQ t)=(G t).isSome/\(∀ v,G t=some v->∀ z,D.atKey (klQ t) z = .held v)/\(G t=none->∀ z,D.atKey (klQ t) z=z)
theorem zBV.lt {w:JY} {b n:Nat} {G:OpR->Option Value} (h:zBV w b n G):b<w.heap.size:=by
 obtain ⟨D,hD,_⟩:=h
 exact hD.lt
theorem zBV.kept {w w':JY} {b n:Nat} {G:OpR->Option Value} {row:Option Nat} (h:zBV w b n G) (hg:w.grownBy w' row) (H:some b≠row):zBV w' b n G:=by
 obtain ⟨D,hD,h⟩:=h
 exact ⟨D,hD.kept hg H,h⟩
theorem zBV.made (w:JY):zBV (w.alloc (.map #[] 0)) w.heap.size 0 (fun _=>none):=
 ⟨.map [],World.ownsMap_made w Tryz.prog 57 zBX,fun t _=>⟨rfl,fun v h=>(by cases h),fun _ z=>rfl⟩⟩
theorem zBV.look {ty e:TypeId} (h:zBV w b n G) (ht:Tryz.prog.underlying ty=some (.map 57 e)) {z:Value} (hz:(zeroValue e).run Tryz.prog w = .ok z w) (hs:zC6 t) :
  (Instr.lookup ty (.map (some b)) (.agg #[.string t.s,.int .i64 t.k,.int .i64 t.l,.int .i64 t.sd]) true).run Tryz.prog w = .ok (.tuple #[(G t).getD z,.bool (G t).isSome]) w:=by
 obtain ⟨D,hD,h⟩:=h
 obtain ⟨v,ps,H,hv⟩:=hD.look_ok zO6 ht hz (zd:=.held z) (zp:=[]) rfl (zM9 hs)
 rw [(h t hs).1] at H
 have e:v=(G t).getD z:=by
  cases hg:G t with
  | none=>
   rw [(h t hs).2.2 hg] at hv
   simp only [zBX,Option.some.injEq,Prod.mk.injEq,DataW.held.injEq] at hv
   exact hv.1
  | some u=>
   rw [(h t hs).2.1 u hg] at hv
   simp only [zBX,Option.some.injEq,Prod.mk.injEq,DataW.held.injEq] at hv
   exact hv.1
 rw [<- e]
 exact H
theorem zBV.put {D:DataW Value} (hm:IsMap D) (h:∀ t,zC6 t->Maps.has D (klQ t)=(G t).isSome/\(∀ v,G t=some v->∀ z,D.atKey (klQ t) z = .held v)/\(G t=none->∀ z,D.atKey (klQ t) z=z)) (hs:zC6 t) (v:Value) :
  ∀ t',zC6 t'->Maps.has (D.put (klQ t) (.held v)) (klQ t')=(if Zo t' t=true then some v else G t').isSome/\(∀ u,(if Zo t' t=true then some v else G t')=some u->∀ z,(D.put (klQ t) (.held v)).atKey (klQ t') z = .held u)/\((if Zo t' t=true then some v else G t')=none->∀ z,(D.put (klQ t) (.held v)).atKey (klQ t') z=z):=by
 intro t' H
 by_cases e:Zo t' t=true
 ·have e':t'=t:=zu.1 e
  subst e'
  have hk:=zO6.key (zM9 H)
  rw [yO e,has_put_same hm hk]
  refine ⟨rfl,fun u hu z=>?_,fun hu=>by cases hu⟩
  injection hu with hu
  rw [atKey_put_same hm hk,hu]
 ·have k:klQ t'≠klQ t:=fun x=>e (zu.2 (zQU H hs x))
  rw [yN e,has_put_other k]
  refine ⟨(h t' H).1,fun u hu z=>?_,fun hu z=>?_⟩
  ·rw [atKey_put_other k]
   exact (h t' H).2.1 u hu z
  ·rw [atKey_put_other k]
   exact (h t' H).2.2 hu z
theorem zBV.update {w:JY} {b n:Nat} {G:OpR->Option Value} {ty e:TypeId} (h:zBV w b n G) (ht:Tryz.prog.underlying ty=some (.map 57 e)) (hn:n<maxLen) {t:OpR} (hs:zC6 t) (v:Value) :
  ∃ w',(Instr.mapUpdate ty (.map (some b)) (.agg #[.string t.s,.int .i64 t.k,.int .i64 t.l,.int .i64 t.sd]) v).run Tryz.prog w = .ok () w'/\zBV w' b (n+1) (fun t'=>if Zo t' t=true then some v else G t')/\zG w w' b:=by
 obtain ⟨D,hD,h⟩:=h
 obtain ⟨w',H,h1,h2⟩:=hD.update zO6 ht hn (zM9 hs) (val:=v) (d:=.held v) (ps:=[]) rfl
 exact ⟨w',H,⟨_,h1,zBV.put hD.isMap h hs v⟩,⟨h2.os,h2.tape,h2.output,h2.size,fun i hi K=>h2.block i hi (fun x=>K (by injection x))⟩⟩
structure Eff (w w':JY) (b o:Nat) (kv:Value) (pv:Option Nat):Prop where
 os:w'.os=w.os
 tape:w'.tape=w.tape
 output:w'.output=w.output
 size:w.heap.size<=w'.heap.size
 blk:∀ i,i<w.heap.size->i≠b->kv.ownBlock≠some i->pv≠some i->w'.heap[i]?=w.heap[i]?
 cel:∀ o',o'≠o->o'≠o+1->w'.cell? ⟨b,o',none⟩=w.cell? ⟨b,o',none⟩/\w'.frozen? ⟨b,o',none⟩=w.frozen? ⟨b,o',none⟩
theorem Eff.refl (w:JY) (b o:Nat) (kv:Value) (pv:Option Nat):Eff w w b o kv pv:=⟨rfl,rfl,rfl,yh _,fun _ _ _ _ _=>rfl,fun _ _ _=>⟨rfl,rfl⟩⟩
def ZJ (H:Nat) (r r':Option Nat):Prop:=r'=r\/∃ k,r'=some k/\H<=k
theorem ZJ.ne {H:Nat} {r r':Option Nat} {x:Nat} (h:ZJ H r r') (hn:r≠some x) (hx:x<H):r'≠some x:=fun e=>by
 rcases h with h | ⟨k,h,hk⟩
 ·exact hn (h.symm.trans e)
 ·rw [h] at e; injection e with e; omega
theorem ZJ.trans {H H':Nat} {r r' r'':Option Nat} (h:ZJ H r r') (h':ZJ H' r' r'') (hH:H<=H'):ZJ H r r'':=by
 rcases h' with h' | ⟨k,h',hk⟩
 ·rw [ZJ,h']; exact h
 ·exact yR ⟨k,h',by omega⟩
theorem Eff.trans {w w1 w2:JY} {b o:Nat} {kv kv1:Value} {pv pv1:Option Nat} (h:Eff w w1 b o kv pv) (h1:Eff w1 w2 b o kv1 pv1) (hk:ZJ w.heap.size kv.ownBlock kv1.ownBlock) (hp:ZJ w.heap.size pv pv1):Eff w w2 b o kv pv:=
 ⟨h1.os.trans h.os,h1.tape.trans h.tape,h1.output.trans h.output,yr h.size h1.size,fun i hi hb H k=>(h1.blk i (yi hi h.size) hb (hk.ne H hi) (hp.ne k hi)).trans (h.blk i hi hb H k),
  fun o' h2 h3=>⟨(h1.cel o' h2 h3).1.trans (h.cel o' h2 h3).1,(h1.cel o' h2 h3).2.trans (h.cel o' h2 h3).2⟩⟩
theorem Eff.cell {w w':JY} {b o:Nat} {kv:Value} {pv:Option Nat} (h:Eff w w' b o kv pv) {i:Nat} (hi:i<w.heap.size) (hb:i≠b) (hk:kv.ownBlock≠some i) (hp:pv≠some i) (q:Nat):w'.cell? ⟨i,q,none⟩=w.cell? ⟨i,q,none⟩:=yp (w:=w) (h.blk i hi hb hk hp)
theorem Eff.below {w':JY} (h:Eff w w' b o kv pv) (hB:B<=w.heap.size) (hb:B<=b) (hk:∀ g,kv.ownBlock=some g->B<=g) (hp:∀ g,pv=some g->B<=g):Below B w w':=
 ⟨h.os,h.tape,h.output,h.size,fun i hi=>h.blk i (by omega) (by omega) (fun e=>by have:=hk i e; omega) (fun e=>by have:=hp i e; omega)⟩
def zEU:List ByteArray->ByteArray->Option Nat
 | [],_=>none
 | x::r,t=>if x=t then some 0 else (zEU r t).map (·+1)
theorem zIh:∀ (ks:List JZ) (t:JZ),(zEU ks t).isSome=true↔t∈ks
 | [],t=>by simp [zEU]
 | x::r,t=>by
  unfold zEU
  by_cases e:x=t
  ·rw [yO e]; simp [e]
  ·rw [yN e,Option.isSome_map,zIh r t]
   simp [List.mem_cons,Ne.symm e]
theorem zKj {u:JZ} (h:u ∉ ks) (t:JZ):zEU (ks++[u]) t=if t=u then some ks.length else zEU ks t:=by
 induction ks with
 | nil=>
  simp only [List.nil_append,zEU,yW]
  by_cases e:u=t
  ·rw [yO e,yO e.symm]
  ·rw [yN e,yN (Ne.symm e)]; rfl
 | cons x r ih=>
  have hx:u≠x:=fun e=>h (by simp [e])
  have hr:u ∉ r:=fun e=>h (by simp [e])
  simp only [List.cons_append,zEU,yv]
  by_cases e:x=t
  ·rw [yO e,yO e,yN (fun e2=>hx (by rw [e,<- e2]))]
  ·rw [yN e,yN e,ih hr]
   by_cases e2:t=u
   ·rw [yO e2,yO e2]; rfl
   ·rw [yN e2,yN e2]
def gSS (ks:List JZ) (t:JZ):Option Value:=(zEU ks t).map fun (i:Nat)=>Value.int .i64 (i:Int)
theorem zAI.congr {G G':ByteArray->Option Value} (h:zAI w b n G) (he:∀ t,G t=G' t):zAI w b n G':=by
 have:G=G':=funext he
 rw [<- this]; exact h
structure zBm (w:JY) (b o B:Nat) (kv:Value) (pv:Option Nat) (ks:List JZ):Prop where
 c0:w.cell? ⟨b,o,none⟩=some kv
 c1:w.cell? ⟨b,o+1,none⟩=some (.map pv)
 f0:w.frozen? ⟨b,o,none⟩=false
 f1:w.frozen? ⟨b,o+1,none⟩=false
 row:zZ w B kv ks
 mp:(pv=none/\ks=[])\/∃ bm,pv=some bm/\B<=bm/\zAI w bm ks.length (gSS ks)
 nk:kv.ownBlock≠some b
 np:pv≠some b
 nn:∀ g,kv.ownBlock=some g->pv≠some g
theorem zBm.lt (h:zBm w b o B kv pv ks):b<w.heap.size:=World.block_lt_of_cell? _ _ h.c0
theorem zBm.plt (h:zBm w b o B kv pv ks):∀ g,pv=some g->B<=g/\g<w.heap.size:=fun g e=>by
 rcases h.mp with ⟨h1,_⟩ | ⟨bm,h1,h2,h3⟩
 ·rw [h1] at e; cases e
 ·rw [h1] at e; injection e with e; subst e; exact ⟨h2,h3.lt⟩
theorem zBm.below {w w':JY} {b o B:Nat} {kv:Value} {pv:Option Nat} {ks:List JZ} (h:zBm w b o B kv pv ks) (hb:Below w.heap.size w w'):zBm w' b o B kv pv ks:=
 ⟨(hb.cell (p:=⟨b,o,none⟩) h.lt).trans h.c0,(hb.cell (p:=⟨b,o+1,none⟩) h.lt).trans h.c1,(hb.frozen (p:=⟨b,o,none⟩) h.lt).trans h.f0,(hb.frozen (p:=⟨b,o+1,none⟩) h.lt).trans h.f1,h.row.below hb,h.mp.imp id (fun ⟨bm,h1,h2,h3⟩=>⟨bm,h1,h2,h3.kept (zH hb none) (by simp)⟩),h.nk,h.np,h.nn⟩
theorem zBm.new (w:JY) (t:TypeId) (B:Nat):zBm (w.alloc (.cells #[.slice none 0 0,.map none] t)) w.heap.size 0 B (.slice none 0 0) none []:=
 ⟨by simp [go_sem],by simp [go_sem],by simp [go_sem],by simp [go_sem],World.ownsRow_nil _ _ _ _,yQ ⟨rfl,rfl⟩,by simp [Value.ownBlock],by simp,fun g e=>by simp [Value.ownBlock] at e⟩
theorem zKk (w:JY):(zeroValue 3).run Tryz.prog w = .ok (.int .i64 0) w:=by kernel_rfl
theorem zO8 (bm:Nat) (w:JY):(binOp .eql 80 (.map (some bm)) (.map none)).run Tryz.prog w = .ok (.bool false) w:=by kernel_rfl
theorem zQV (w:JY):(binOp .eql 80 (.map none) (.map none)).run Tryz.prog w = .ok (.bool true) w:=by kernel_rfl
theorem zNA (t:JZ) (w:JY) (hs:t.size<=maxLen):(Instr.lookup 80 (.map none) (.string t) true).run Tryz.prog w = .ok (.tuple #[.int .i64 0,.bool false]) w:=by
 have h:=Maps.look_nil (P:=Tryz.prog) (w:=w) true (string_keyed Tryz.underlying9) Tryz.underlying80 (zKk w) (zNy hs)
 simpa using h
theorem zHb (b o B:Nat) (kv:Value) (pv:Option Nat) (ks:List JZ) (t:JZ) (w:JY) (h:zBm w b o B kv pv ks) (hs:t.size<=maxLen) :
  Calls Tryz.prog 64 #[.pointer (some ⟨b,o,none⟩),.string t] w fun e w'=>zBs e (t∈ks)/\w'=w:=by
 have c1:=h.c1
 rcases h.mp with ⟨rfl,rfl⟩ | ⟨bm,rfl,k,hm⟩
 ·have H:=zNA t w hs
  clear h
  go_enter Tryz.func64,Tryz.ntmps64
  go_wp2
  go_ret
  exact ⟨⟨false,rfl,zc (by simp)⟩,rfl⟩
 ·have H:=hm.look (ty:=80) Tryz.underlying80 (zKk w) hs
  have HE:=zB (show ∀ v:Bool,v=(gSS ks t).isSome->zDx v (t∈ks) from fun v hv=>by
   unfold zDx
   rw [hv]
   unfold gSS
   rw [Option.isSome_map]
   exact zIh ks t)
  obtain ⟨x,hx⟩:∃ x,x=(gSS ks t).getD (.int .i64 0):=⟨_,rfl⟩
  obtain ⟨y,hy⟩:∃ y,y=(gSS ks t).isSome:=⟨_,rfl⟩
  rw [<- hx,<- hy] at H
  have HY:=zB hy
  clear h hx hy hm
  go_enter Tryz.func64,Tryz.ntmps64
  go_wp2
  go_ret
  exact ⟨⟨y,rfl,(zA HE) y (zA HY)⟩,rfl⟩
def Zf (w:JY) (b o B:Nat) (kv:Value) (pv:Option Nat) (ks:List JZ) (w':JY):Prop:=
 ∃ kv' pv',zBm w' b o B kv' pv' ks/\Eff w w' b o kv pv/\ZJ w.heap.size kv.ownBlock kv'.ownBlock/\ZJ w.heap.size pv pv'
theorem zRi {t:JZ} (h:t ∉ ks) (t':JZ):(if t'.data=t.data then some (Value.int .i64 (ks.length:Int)) else gSS ks t')=gSS (ks++[t]) t':=by
 unfold gSS
 rw [zKj h t']
 by_cases e:t'.data=t.data
 ·have e':t'=t:=by cases t; cases t'; simp at e; rw [e]
  rw [yO e,yO e']; rfl
 ·rw [yN e,yN (fun e2=>e (by rw [e2]))]
theorem zIi {w W w3 w4:JY} {b o B bm:Nat} {kv v4:Value} {pv:Option Nat} {ks:List JZ} {t:JZ} {ob:Obj} (h:zBm w b o B kv pv ks) (hB:B<=w.heap.size) (ht:t ∉ ks)
  (hW:W=w\/(pv=none/\bm=w.heap.size)) (F:w.heap.size<=W.heap.size) (U:∀ i,i<w.heap.size->i≠b->W.heap[i]?=w.heap[i]?) (j:W.os=w.os/\W.tape=w.tape/\W.output=w.output) (v:∀ o',o'≠o+1->W.cell? ⟨b,o',none⟩=w.cell? ⟨b,o',none⟩) (Y:∀ o',W.frozen? ⟨b,o',none⟩=w.frozen? ⟨b,o',none⟩) (a:W.cell? ⟨b,o+1,none⟩=some (.map (some bm))) (D:zZ W B kv ks) (u:B<=bm) (K:bm≠b) (Q:kv.ownBlock≠some bm) (X:ZJ w.heap.size pv (some bm))
  (hm:zAI w3 bm (ks.length+1) (fun t'=>if t'.data=t.data then some (Value.int .i64 (ks.length:Int)) else gSS ks t')) (hk:zG W w3 bm) (G:bm<W.heap.size)
  (hg:(w3.alloc ob).grownBy w4 kv.ownBlock) (hr:zZ w4 B v4 (ks++[t])) (H:v4.ownBlock=kv.ownBlock\/v4.ownBlock=some (w3.heap.size+1)) :
  Zf w b o B kv pv (ks++[t]) (w4.setCell ⟨b,o,none⟩ v4):=by
 have E:=h.lt
 have y:b<W.heap.size:=by omega
 have I:=hk.size
 have c:=hg.size
 have d:w3.heap.size+1<=w4.heap.size:=by simpa using c
 have V:b<w3.heap.size:=by omega
 have kc:=fun q=>(zE hg (b:=b) (by simp; omega) h.nk q).trans (((zC w3 ob).cell (p:=⟨b,q,none⟩) V).trans (hk.cell y (Ne.symm K) q))
 have kf:=fun q=>(zv hg (b:=b) (by simp; omega) h.nk q).trans (((zC w3 ob).frozen (p:=⟨b,q,none⟩) V).trans (hk.frozen y (Ne.symm K) q))
 have P:v4.ownBlock≠some b:=fun e=>by
  rcases H with H | H
  ·exact h.nk (H.symm.trans e)
  ·rw [H] at e; injection e with e; omega
 have A:v4.ownBlock≠some bm:=fun e=>by
  rcases H with H | H
  ·exact Q (H.symm.trans e)
  ·rw [H] at e; injection e with e; omega
 have C:zAI (w4.setCell ⟨b,o,none⟩ v4) bm (ks++[t]).length (gSS (ks++[t])):=by
  rw [ym]
  refine ((((hm.kept (zH (zC w3 ob) none) (by simp)).kept hg (fun e=>Q e.symm)).kept (zf w4 b o v4) (fun e=>K (by injection e))).congr (zRi ht))
 refine ⟨v4,some bm,⟨yo _ _ _ ((kc o).trans ((v o (by omega)).trans h.c0)),(yg _ _ _ _ (by simp)).trans ((kc (o+1)).trans a),(yq _ _ _ _).trans ((kf o).trans ((Y o).trans h.f0)),(yq _ _ _ _).trans ((kf (o+1)).trans ((Y (o+1)).trans h.f1)),hr.grown (zf w4 b o v4) (fun k e x=>P (e.trans x.symm)),yR ⟨bm,rfl,u,C⟩,P,fun e=>K (by injection e),fun g e x=>A (e.trans x.symm)⟩,?_,?_,X⟩
 ·refine ⟨hg.os.trans (hk.os.trans j.1),hg.tape.trans (hk.tape.trans j.2.1),hg.output.trans (hk.output.trans j.2.2),by simp [World.setCell]; omega,fun i hi h1 h2 h3=>?_,fun o' h1 h2=>⟨(yg _ _ _ _ (by first | (simp; done) | (simp; omega) | (intro x; injection x with _ x; omega))).trans ((kc o').trans (v o' h2)),(yq _ _ _ _).trans ((kf o').trans (Y o'))⟩⟩
  rw [yZ _ _ _ _ (by simpa using h1)]
  have J:i≠bm:=fun e=>by
   rcases X with x | ⟨k,x,f⟩
   ·exact h3 (by rw [<- x,e])
   ·injection x with x; omega
  exact (hg.block i (by simp; omega) (fun e=>h2 e.symm)).trans (((zC w3 ob).block i (by omega)).trans ((hk.block i (by omega) J).trans (U i hi h1)))
 ·rcases H with H | H
  ·exact yQ H
  ·exact yR ⟨_,H,by omega⟩
theorem zKl (b o B:Nat) (kv:Value) (pv:Option Nat) (ks:List JZ) (t:JZ) (w:JY) (h:zBm w b o B kv pv ks) (hs:t.size<=maxLen) (hl:ks.length<=1048576) (hB:B<=w.heap.size) :
  Calls Tryz.prog 63 #[.pointer (some ⟨b,o,none⟩),.string t] w fun e w'=>zBs e (t ∉ ks)/\Zf w b o B kv pv (zAO ks t) w':=by
 have HH:=zB (zHb b o B kv pv ks t w h hs)
 by_cases Q:t∈ks
 ·have HP:=zB (show Zf w b o B kv pv (zAO ks t) w by rw [zBh Q]; exact ⟨kv,pv,h,Eff.refl _ _ _ _ _,yQ rfl,yQ rfl⟩)
  have M:=zB Q
  clear h Q
  go_enter Tryz.func63,Tryz.ntmps63
  go_wp2_with (first | (go_at_call 64; (with_reducible refine (zA HH).mono ?_); rintro e w1 ⟨⟨v,rfl,hv⟩,hx⟩; obtain rfl:=hx.symm; obtain rfl:v=true:=hv.2 (zA M); clear hv hx))
  go_ret
  exact ⟨⟨false,rfl,zc (fun h=>h (zA M))⟩,zA HP⟩
 obtain ⟨i0,m,X,R,s⟩:=zN zCL
 have HI:=zB m
 have HZ:=zB (yH X (yH R s))
 clear m X R s
 have C:=zB Q
 have u:=h.lt
 have c0:=h.c0
 have c1:=h.c1
 have f0:=h.f0
 have f1:=h.f1
 obtain ⟨ak,ck,rfl⟩:=zO h.row
 rcases h.mp with ⟨rfl,rfl⟩ | ⟨bm,rfl,Z,A⟩
 ·
  obtain ⟨W,hW⟩:∃ W,W=(w.setCell ⟨b,o+1,none⟩ (.map (some w.heap.size))).alloc (.map #[] 0):=⟨_,rfl⟩
  have X:(w.setCell ⟨b,o+1,none⟩ (.map (some w.heap.size))).heap.size=w.heap.size:=by simp [World.setCell]
  have hf:w.heap.size+1<=W.heap.size:=by rw [hW]; simp [World.setCell]
  have f:∀ i,i<w.heap.size->i≠b->W.heap[i]?=w.heap[i]?:=fun i hi T=>by
   rw [hW,(zC (w.setCell ⟨b,o+1,none⟩ (.map (some w.heap.size))) (.map #[] 0)).block i (by rw [X]; exact hi)]
   exact yZ _ _ _ _ (by simpa using T)
  have d:∀ o',o'≠o+1->W.cell? ⟨b,o',none⟩=w.cell? ⟨b,o',none⟩:=fun o' ho=>by
   rw [hW,(zC (w.setCell ⟨b,o+1,none⟩ (.map (some w.heap.size))) (.map #[] 0)).cell (p:=⟨b,o',none⟩) (by show b<_; rw [X]; exact u)]
   exact yg _ _ _ _ (by first | (simp; done) | (simp; omega) | (intro x; injection x with _ x; omega))
  have G:∀ o',W.frozen? ⟨b,o',none⟩=w.frozen? ⟨b,o',none⟩:=fun o'=>by
   rw [hW,(zC (w.setCell ⟨b,o+1,none⟩ (.map (some w.heap.size))) (.map #[] 0)).frozen (p:=⟨b,o',none⟩) (by show b<_; rw [X]; exact u)]
   exact yq _ _ _ _
  have S:W.cell? ⟨b,o+1,none⟩=some (.map (some w.heap.size)):=by
   rw [hW,(zC (w.setCell ⟨b,o+1,none⟩ (.map (some w.heap.size))) (.map #[] 0)).cell (p:=⟨b,o+1,none⟩) (by show b<_; rw [X]; exact u)]
   exact yo _ _ _ c1
  have N:zAI W.drew w.heap.size 0 (fun _=>none):=by
   have:=zAI.made (w.setCell ⟨b,o+1,none⟩ (.map (some w.heap.size)))
   rw [X,<- hW] at this
   exact this.kept (zH (yG _ _).drew none) (by simp)
  clear X
  obtain ⟨w3,r,P,K⟩:=N.update (ty:=80) Tryz.underlying80 (by unfold maxLen; omega) (t:=t) hs (.int .i64 0)
  have F:zZ W B (.slice ak 0 ck) []:=by
   obtain ⟨_,⟨h1,h2⟩ | ⟨g,cap,ha,h1,h2,h3,h4⟩⟩:=h.row
   ·exact ⟨rfl,yQ ⟨h1,h2⟩⟩
   ·have hc:g≠b:=fun e=>h.nk (by rw [h1,e]; rfl)
    refine ⟨rfl,yR ⟨g,cap,ha,h1,h2,(f g ?_ hc).trans h3,h4⟩⟩
    exact (h.row.lt g (by rw [h1]; rfl)).2
  have y:=zB (fun w4 v4 ob hg hr I=>@zIi w W w3 w4 b o B w.heap.size (.slice ak 0 ck) v4 none [] t ob h hB Q (yR ⟨rfl,rfl⟩) (by omega) f (by rw [hW]; exact ⟨rfl,rfl,rfl⟩) d G S F hB (by omega) (fun e=>by have:=(h.row.lt _ e).2; omega) (yR ⟨_,rfl,yh _⟩) (by simpa [gSS,zEU] using P) (show zG W w3 w.heap.size from (zG.of_below (show Below W.heap.size W W.drew from (yG _ _).drew)).trans K) (by omega) hg hr I)
  have L:=K.size
  have n:W.heap.size<=w3.heap.size:=L
  have m0:w3.cell? ⟨b,o,none⟩=some (.slice ak 0 ck):=(K.cell (show b<W.drew.heap.size by show b<W.heap.size; omega) (by omega) o).trans ((d o (by omega)).trans c0)
  have m1:w3.frozen? ⟨b,o,none⟩=false:=(K.frozen (show b<W.drew.heap.size by show b<W.heap.size; omega) (by omega) o).trans ((G o).trans f0)
  have E:zZ w3 B (.slice ak 0 ck) []:=(F.below (yG _ _).drew).grown (zr K) (fun k e x=>by injection x with x; have:=(h.row.lt k e).2; omega)
  have l:=zB E
  have a:=zB h.nk
  have hd:W.cell? ⟨b,o,none⟩=some (.slice ak 0 ck):=(d o (by omega)).trans c0
  have hb:=zB hW
  have c:b<w3.heap.size:=by omega
  have U:=zB (zBZ Q)
  have z:=zQV w
  have he:=@run_makeMap Tryz.prog
  clear P K F E N f d G h hW Q
  go_enter Tryz.func63,Tryz.ntmps63
  go_wp2_with (first | (go_at_call 64; (with_reducible refine (zA HH).mono ?_); rintro e w1 ⟨⟨v,rfl,hv⟩,hx⟩; obtain rfl:=hx.symm; obtain rfl:v=false:=(by cases v; rfl; exact yP (hv.1 rfl) (zA C)); clear hv hx))
  rw [<- zA hb]
  go_region
  go_wp2_with (at_builtin; refine yJ _ rfl (.tmp 31) (.tmp 33) 39 rfl B 9 i0 _ 1 16 Tryz.underlying39 (zA HI) (zA HZ).1 (zA HZ).2.1 (zA HZ).2.2 rfl (by decide) _ 0 (zI []) rfl ((zA l).below (zC _ _)) ⟨w3.heap.size,0,none⟩ 1 1 (zI [t]) rfl rfl (by simpa using ZG w3 t) (zT _) ?b1 ?b2 ?b3 ?next)
  case b1=>unfold maxLen; omega
  case b2=>omega
  case b3=>simp; omega
  case next=>
   intro v4 w4 q H j Y
   have J:zZ w4 B v4 ([]++[t]):=by
    unfold zZ
    rw [Zx,ym]
    exact q
   have HF:=zB ((zA y) w4 v4 _ H J Y)
   have n0:=(zE H (b:=b) (by simp; omega) (zA a) o).trans (((zC w3 _).cell (p:=⟨b,o,none⟩) c).trans m0)
   have n1:=(zv H (b:=b) (by simp; omega) (zA a) o).trans (((zC w3 _).frozen (p:=⟨b,o,none⟩) c).trans m1)
   obtain ⟨a4,c4,rfl⟩:=zO J
   clear q H j Y J m0 m1
   go_wp2_with fail
   go_ret
   refine ⟨⟨true,rfl,zAJ (zA C)⟩,?_⟩
   rw [zA U]
   first
    | exact zA HF
    | simpa using zA HF
 ·obtain ⟨w3,r,P,K⟩:=(A.kept (zH (show Below w.heap.size w w.drew from (yG _ _).drew) none) (by simp)).update (ty:=80) Tryz.underlying80 (by unfold maxLen; omega) (t:=t) hs (.int .i64 (ks.length:Int))
  have V:bm≠b:=fun e=>h.np (by rw [e])
  have D:(Value.slice ak ks.length ck).ownBlock≠some bm:=fun e=>h.nn bm e rfl
  have O:=A.lt
  have y:=zB (fun w4 v4 ob hg hr I=>@zIi w w w3 w4 b o B bm (.slice ak ks.length ck) v4 (some bm) ks t ob h hB Q (yQ rfl) (yh _) (fun _ _ _=>rfl) ⟨rfl,rfl,rfl⟩ (fun _ _=>rfl) (fun _=>rfl) c1 h.row Z V D (yQ rfl) P (show zG w w3 bm from (zG.of_below (show Below w.heap.size w w.drew from (yG _ _).drew)).trans K) O hg hr I)
  have L:=K.size
  have n:w.heap.size<=w3.heap.size:=L
  have m0:w3.cell? ⟨b,o,none⟩=some (.slice ak ks.length ck):=(K.cell (show b<w.drew.heap.size from u) (Ne.symm V) o).trans c0
  have m1:w3.frozen? ⟨b,o,none⟩=false:=(K.frozen (show b<w.drew.heap.size from u) (Ne.symm V) o).trans f0
  have l:=zB (show zZ w3 B (.slice ak ks.length ck) ks from (h.row.below (yG _ _).drew).grown (zr K) (fun k e x=>D (e.trans x.symm)))
  have a:=zB h.nk
  have c:b<w3.heap.size:=by omega
  have U:=zB (zBZ Q)
  have z:=zO8 bm w
  clear P K A h Q
  go_enter Tryz.func63,Tryz.ntmps63
  go_wp2_with (first | (go_at_call 64; (with_reducible refine (zA HH).mono ?_); rintro e w1 ⟨⟨v,rfl,hv⟩,hx⟩; obtain rfl:=hx.symm; obtain rfl:v=false:=(by cases v; rfl; exact yP (hv.1 rfl) (zA C)); clear hv hx))
  go_region
  go_wp2_with (at_builtin; refine yJ _ rfl (.tmp 31) (.tmp 33) 39 rfl B 9 i0 _ 1 16 Tryz.underlying39 (zA HI) (zA HZ).1 (zA HZ).2.1 (zA HZ).2.2 rfl (by decide) _ ks.length (zI ks) rfl ((zA l).below (zC _ _)) ⟨w3.heap.size,0,none⟩ 1 1 (zI [t]) rfl rfl (by simpa using ZG w3 t) (zT _) ?b1 ?b2 ?b3 ?next)
  case b1=>unfold maxLen; omega
  case b2=>omega
  case b3=>simp; omega
  case next=>
   intro v4 w4 q H j Y
   have J:zZ w4 B v4 (ks++[t]):=by
    unfold zZ
    rw [Zx,ym]
    exact q
   have HF:=zB ((zA y) w4 v4 _ H J Y)
   have n0:=(zE H (b:=b) (by simp; omega) (zA a) o).trans (((zC w3 _).cell (p:=⟨b,o,none⟩) c).trans m0)
   have n1:=(zv H (b:=b) (by simp; omega) (zA a) o).trans (((zC w3 _).frozen (p:=⟨b,o,none⟩) c).trans m1)
   obtain ⟨a4,c4,rfl⟩:=zO J
   clear q H j Y J m0 m1
   go_wp2_with fail
   go_ret
   refine ⟨⟨true,rfl,zAJ (zA C)⟩,?_⟩
   rw [zA U]
   first
    | exact zA HF
    | simpa using zA HF
def Apt (v:Value) (b:Nat) (kv:Value) (pv:Option Nat):Prop:=∀ g,v.ownBlock=some g->g≠b/\kv.ownBlock≠some g/\pv≠some g
theorem zLo {us:List JZ} {k:Nat} {p:JZ} (h:us[k]?=some p):(us.take (k+1)).foldl zAO ks=zAO ((us.take k).foldl zAO ks) p:=by
 rw [List.take_add_one,h]
 simp [List.foldl_append]
theorem Zf.step {w1 w2:JY} {kv1:Value} {pv1:Option Nat} {H:List JZ} (he:Eff w w1 b o kv pv) (hk:ZJ w.heap.size kv.ownBlock kv1.ownBlock) (hp:ZJ w.heap.size pv pv1) (h:Zf w1 b o B kv1 pv1 H w2):Zf w b o B kv pv H w2:=by
 obtain ⟨kv2,pv2,h1,h2,h3,h4⟩:=h
 exact ⟨kv2,pv2,h1,he.trans h2 hk hp,hk.trans h3 he.size,hp.trans h4 he.size⟩
theorem Apt.step {kv1:Value} {pv1:Option Nat} {H:Nat} (h:Apt v b kv pv) (hv:∀ g,v.ownBlock=some g->g<H) (hk:ZJ H kv.ownBlock kv1.ownBlock) (hp:ZJ H pv pv1):Apt v b kv1 pv1:=fun g e=>
 ⟨(h g e).1,hk.ne (h g e).2.1 (hv g e),hp.ne (h g e).2.2 (hv g e)⟩
theorem zDd (b o B:Nat) (kv:Value) (pv:Option Nat) (ks:List JZ) (v:Value) (us:List JZ) (w:JY) (h:zBm w b o B kv pv ks) (hs:∀ x∈us,x.size<=maxLen) (hl:ks.length+us.length<=1048576) (hB:B<=w.heap.size) (hr:zq w v us) (ha:Apt v b kv pv) :
  Calls Tryz.prog 65 #[.pointer (some ⟨b,o,none⟩),v] w fun e w'=>e = .returned (.tuple #[])/\Zf w b o B kv pv (us.foldl zAO ks) w':=by
 have HP:=zB (show Zf w b o B kv pv ((us.take 0).foldl zAO ks) w from ⟨kv,pv,by simpa using h,Eff.refl _ _ _ _ _,yQ rfl,yQ rfl⟩)
 have HA:=zB ha
 have HS:=zB hs
 have HR:=zB hr
 obtain ⟨a,c,rfl,_⟩:=hr
 clear h ha hs
 go_enter Tryz.func65,Tryz.ntmps65
 go_wp2
 go_loopw [8] (fun i wr=>∃ (k:Nat),k<=us.length/\i = .int .i64 (k:Int)/\Hid (Zf w b o B kv pv ((us.take k).foldl zAO ks) wr)) (fun i _=>us.length-(intOf i).toNat)
 case atStart=>exact ⟨0,yj _,rfl,HP⟩
 case round=>
  obtain ⟨k,hk,rfl,HQ⟩:=hrel
  by_cases Q:k<us.length
  ·have Y:(k:Int)<(us.length:Int):=by omega
   obtain ⟨p,hp⟩:∃ p,us[k]?=some p:=⟨_,yn Q⟩
   obtain ⟨kv1,pv1,h1,h2,h3,h4⟩:=zA HQ
   obtain ⟨g,cc,H,X,q⟩:=(zA HR).lt (by omega)
   obtain ⟨rfl,rfl⟩:a=some ⟨g,0,none⟩/\c=cc:=by injection H with x _ y; exact ⟨x,y⟩
   obtain ⟨a1,a2,a3⟩:=(zA HA) g rfl
   have hc:wr.cell? ⟨g,k,none⟩=some (.string p):=(h2.cell X a1 a2 a3 k).trans (q k p hp)
   have K:=zFN (us.take k) ks
   rw [List.length_take] at K
   have hz:=h2.size
   have HX:=zB (zKl b o B kv1 pv1 _ p wr h1 ((zA HS) p (yy hp)) (by omega) (by omega))
   have HF:=zB (fun w2 (hh:Zf wr b o B kv1 pv1 (zAO ((us.take k).foldl zAO ks) p) w2)=>show Zf w b o B kv pv ((us.take (k+1)).foldl zAO ks) w2 from (by rw [zLo hp]; exact Zf.step h2 h3 h4 hh))
   clear H h1 h2 h3 h4 K hp HQ
   go_wp2_with (first | (go_at_call 63; (with_reducible refine (zA HX).mono ?_); rintro e w1 ⟨⟨y,rfl,_⟩,hpo⟩; have HN:=zB ((zA HF) w1 hpo); clear hpo))
   exact ⟨⟨k+1,by omega,by go_num,HN⟩,by simp [intOf]; omega⟩
  ·have HN:=zB (show Zf w b o B kv pv (us.foldl zAO ks) wr by have:=zA HQ; rwa [List.take_of_length_le (by omega)] at this)
   go_wp2
   go_end0
   exact ⟨rfl,zA HN⟩
def zQW (w:JY) (us:List JZ) (e:Ending) (w':JY):Prop:=
 ∃ v,e = .returned v/\zZ w' w.heap.size v (dst us)/\Below w.heap.size w w'
theorem zJQ (v:Value) (us:List JZ) (w:JY) (hs:∀ x∈us,x.size<=maxLen) (hl:us.length<=1048576) (hr:zq w v us) (hv:∀ g,v.ownBlock=some g->g<w.heap.size) :
  Calls Tryz.prog 61 #[v] w (zQW w us):=by
 have HX:=zB (show Calls Tryz.prog 65 #[.pointer (some ⟨w.heap.size,0,none⟩),v] (w.alloc (.cells #[.slice none 0 0,.map none] 82)) fun e w'=>e = .returned (.tuple #[])/\Zf (w.alloc (.cells #[.slice none 0 0,.map none] 82)) w.heap.size 0 w.heap.size (.slice none 0 0) none (dst us) w' from by
  refine zDd w.heap.size 0 w.heap.size _ none [] v us _ (zBm.new w _ _) hs (by simpa using hl) (by simp) (hr.below (zC _ _)) (fun g e=>?_)
  refine ⟨fun e2=>?_,by simp [Value.ownBlock],by simp⟩
  have:=hv g e; omega)
 clear hr hv
 go_enter Tryz.func61,Tryz.ntmps61
 go_wp2_with (first | (go_at_call 65; (with_reducible refine (zA HX).mono ?_); rintro e w1 ⟨rfl,kv,pv,h1,h2,h3,h4⟩; have c0:=h1.c0; have HR:=zB h1.row; have HB:=zB (show Below w.heap.size w w1 from (zC _ _).trans (h2.below (B:=w.heap.size) (by simp) (yh _) (fun g e=>by simp [Value.ownBlock] at e) (fun g e=>by simp at e))); clear h1 h2 h3 h4))
 go_ret
 exact ⟨_,rfl,zA HR,zA HB⟩
def zJR:List OpR->OpR->Option Nat
 | [],_=>none
 | x::r,t=>if Zo x t=true then some 0 else (zJR r t).map (·+1)
theorem zIj:∀ (ks:List OpR) (t:OpR),(zJR ks t).isSome=true↔t∈ks
 | [],t=>by simp [zJR]
 | x::r,t=>by
  unfold zJR
  by_cases e:Zo x t=true
  ·rw [yO e]; simp [zu.1 e]
  ·rw [yN e,Option.isSome_map,zIj r t]
   have:t≠x:=fun h=>e (zu.2 h.symm)
   simp [List.mem_cons,this]
theorem zKm {ks:List OpR} {u:OpR} (h:u ∉ ks) (t:OpR):zJR (ks++[u]) t=if Zo t u=true then some ks.length else zJR ks t:=by
 induction ks with
 | nil=>
  simp only [List.nil_append,zJR,yW]
  by_cases e:Zo u t=true
  ·rw [yO e,yO (zu.2 (zu.1 e).symm)]
  ·rw [yN e,yN (fun x=>e (zu.2 (zu.1 x).symm))]; rfl
 | cons x r ih=>
  have hx:u≠x:=fun e=>h (by simp [e])
  have hr:u ∉ r:=fun e=>h (by simp [e])
  simp only [List.cons_append,zJR,yv]
  by_cases e:Zo x t=true
  ·rw [yO e,yO e,yN (fun e2=>hx (by rw [zu.1 e,<- zu.1 e2]))]
  ·rw [yN e,yN e,ih hr]
   by_cases e2:Zo t u=true
   ·rw [yO e2,yO e2]; rfl
   ·rw [yN e2,yN e2]
def gQ (ks:List OpR) (t:OpR):Option Value:=(zJR ks t).map fun (i:Nat)=>Value.int .i64 (i:Int)
theorem zBV.congr {G':OpR->Option Value} (h:zBV w b n G) (he:∀ t,G t=G' t):zBV w b n G':=by
 have:G=G':=funext he
 rw [<- this]; exact h
structure zCW (w:JY) (b o B:Nat) (kv:Value) (pv:Option Nat) (ks:List OpR):Prop where
 c0:w.cell? ⟨b,o,none⟩=some kv
 c1:w.cell? ⟨b,o+1,none⟩=some (.map pv)
 f0:w.frozen? ⟨b,o,none⟩=false
 f1:w.frozen? ⟨b,o+1,none⟩=false
 row:Zw w B kv ks
 mp:(pv=none/\ks=[])\/∃ bm,pv=some bm/\B<=bm/\zBV w bm ks.length (gQ ks)
 nk:kv.ownBlock≠some b
 np:pv≠some b
 nn:∀ g,kv.ownBlock=some g->pv≠some g
theorem zCW.lt {ks:List OpR} (h:zCW w b o B kv pv ks):b<w.heap.size:=World.block_lt_of_cell? _ _ h.c0
theorem zCW.plt {ks:List OpR} (h:zCW w b o B kv pv ks):∀ g,pv=some g->B<=g/\g<w.heap.size:=fun g e=>by
 rcases h.mp with ⟨h1,_⟩ | ⟨bm,h1,h2,h3⟩
 ·rw [h1] at e; cases e
 ·rw [h1] at e; injection e with e; subst e; exact ⟨h2,h3.lt⟩
theorem zCW.below {w w':JY} {b o B:Nat} {kv:Value} {pv:Option Nat} {ks:List OpR} (h:zCW w b o B kv pv ks) (hb:Below w.heap.size w w'):zCW w' b o B kv pv ks:=
 ⟨(hb.cell (p:=⟨b,o,none⟩) h.lt).trans h.c0,(hb.cell (p:=⟨b,o+1,none⟩) h.lt).trans h.c1,(hb.frozen (p:=⟨b,o,none⟩) h.lt).trans h.f0,(hb.frozen (p:=⟨b,o+1,none⟩) h.lt).trans h.f1,h.row.below hb,h.mp.imp id (fun ⟨bm,h1,h2,h3⟩=>⟨bm,h1,h2,h3.kept (zH hb none) (by simp)⟩),h.nk,h.np,h.nn⟩
theorem zCW.new (w:JY) (t:TypeId) (B:Nat):zCW (w.alloc (.cells #[.slice none 0 0,.map none] t)) w.heap.size 0 B (.slice none 0 0) none []:=
 ⟨by simp [go_sem],by simp [go_sem],by simp [go_sem],by simp [go_sem],World.ownsRow_nil _ _ _ _,yQ ⟨rfl,rfl⟩,by simp [Value.ownBlock],by simp,fun g e=>by simp [Value.ownBlock] at e⟩
def zx (w:JY) (b o B:Nat) (kv:Value) (pv:Option Nat) (ks:List OpR) (w':JY):Prop:=
 ∃ kv' pv',zCW w' b o B kv' pv' ks/\Eff w w' b o kv pv/\ZJ w.heap.size kv.ownBlock kv'.ownBlock/\ZJ w.heap.size pv pv'
theorem zRj {ks:List OpR} (h:t ∉ ks) (t':OpR):(if Zo t' t=true then some (Value.int .i64 (ks.length:Int)) else gQ ks t')=gQ (ks++[t]) t':=by
 unfold gQ
 rw [zKm h t']
 by_cases e:Zo t' t=true
 ·rw [yO e,yO e]; rfl
 ·rw [yN e,yN e]
theorem zLp {W w3 w4:JY} {bm:Nat} {v4:Value} {ks:List OpR} {ob:Obj} (h:zCW w b o B kv pv ks) (hB:B<=w.heap.size) (ht:t ∉ ks)
  (F:w.heap.size<=W.heap.size) (U:∀ i,i<w.heap.size->i≠b->W.heap[i]?=w.heap[i]?) (j:W.os=w.os/\W.tape=w.tape/\W.output=w.output) (v:∀ o',o'≠o+1->W.cell? ⟨b,o',none⟩=w.cell? ⟨b,o',none⟩) (Y:∀ o',W.frozen? ⟨b,o',none⟩=w.frozen? ⟨b,o',none⟩) (a:W.cell? ⟨b,o+1,none⟩=some (.map (some bm))) (D:Zw W B kv ks) (u:B<=bm) (K:bm≠b) (Q:kv.ownBlock≠some bm) (X:ZJ w.heap.size pv (some bm))
  (hm:zBV w3 bm (ks.length+1) (fun t'=>if Zo t' t=true then some (Value.int .i64 (ks.length:Int)) else gQ ks t')) (hk:zG W w3 bm) (G:bm<W.heap.size)
  (hg:(w3.alloc ob).grownBy w4 kv.ownBlock) (hr:Zw w4 B v4 (ks++[t])) (H:v4.ownBlock=kv.ownBlock\/v4.ownBlock=some (w3.heap.size+1)) :
  zx w b o B kv pv (ks++[t]) (w4.setCell ⟨b,o,none⟩ v4):=by
 have E:=h.lt
 have y:b<W.heap.size:=by omega
 have I:=hk.size
 have c:=hg.size
 have d:w3.heap.size+1<=w4.heap.size:=by simpa using c
 have V:b<w3.heap.size:=by omega
 have kc:=fun q=>(zE hg (b:=b) (by simp; omega) h.nk q).trans (((zC w3 ob).cell (p:=⟨b,q,none⟩) V).trans (hk.cell y (Ne.symm K) q))
 have kf:=fun q=>(zv hg (b:=b) (by simp; omega) h.nk q).trans (((zC w3 ob).frozen (p:=⟨b,q,none⟩) V).trans (hk.frozen y (Ne.symm K) q))
 have P:v4.ownBlock≠some b:=fun e=>by
  rcases H with H | H
  ·exact h.nk (H.symm.trans e)
  ·rw [H] at e; injection e with e; omega
 have A:v4.ownBlock≠some bm:=fun e=>by
  rcases H with H | H
  ·exact Q (H.symm.trans e)
  ·rw [H] at e; injection e with e; omega
 have C:zBV (w4.setCell ⟨b,o,none⟩ v4) bm (ks++[t]).length (gQ (ks++[t])):=by
  rw [ym]
  refine ((((hm.kept (zH (zC w3 ob) none) (by simp)).kept hg (fun e=>Q e.symm)).kept (zf w4 b o v4) (fun e=>K (by injection e))).congr (zRj ht))
 refine ⟨v4,some bm,⟨yo _ _ _ ((kc o).trans ((v o (by omega)).trans h.c0)),(yg _ _ _ _ (by simp)).trans ((kc (o+1)).trans a),(yq _ _ _ _).trans ((kf o).trans ((Y o).trans h.f0)),(yq _ _ _ _).trans ((kf (o+1)).trans ((Y (o+1)).trans h.f1)),hr.grown (zf w4 b o v4) (fun k e x=>P (e.trans x.symm)),yR ⟨bm,rfl,u,C⟩,P,fun e=>K (by injection e),fun g e x=>A (e.trans x.symm)⟩,?_,?_,X⟩
 ·refine ⟨hg.os.trans (hk.os.trans j.1),hg.tape.trans (hk.tape.trans j.2.1),hg.output.trans (hk.output.trans j.2.2),by simp [World.setCell]; omega,fun i hi h1 h2 h3=>?_,fun o' h1 h2=>⟨(yg _ _ _ _ (by first | (simp; done) | (simp; omega) | (intro x; injection x with _ x; omega))).trans ((kc o').trans (v o' h2)),(yq _ _ _ _).trans ((kf o').trans (Y o'))⟩⟩
  rw [yZ _ _ _ _ (by simpa using h1)]
  have J:i≠bm:=fun e=>by
   rcases X with x | ⟨k,x,f⟩
   ·exact h3 (by rw [<- x,e])
   ·injection x with x; omega
  exact (hg.block i (by simp; omega) (fun e=>h2 e.symm)).trans (((zC w3 ob).block i (by omega)).trans ((hk.block i (by omega) J).trans (U i hi h1)))
 ·rcases H with H | H
  ·exact yQ H
  ·exact yR ⟨_,H,by omega⟩
end Go.Proofs.YtgbkgkdpdfdokaaGreatDoor
