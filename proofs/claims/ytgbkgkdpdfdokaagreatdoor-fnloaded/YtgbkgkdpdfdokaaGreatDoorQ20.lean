import Derived.Test.YtgbkgkdpdfdokaaGreatDoorQ19
namespace Go.Proofs.YtgbkgkdpdfdokaaGreatDoor
set_option linter.all false
set_option maxHeartbeats 16000000
set_option maxRecDepth 100000
open Go.RowKit
variable {bo bs:Nat} {ls:List LnR} {o:OpR} {s:ByteArray} {w w':World} {xs:List OpR}
theorem zIc {pre:JZ} {us:List JZ} {o:JZ} (hp:pre.size<=5) (hu:∀ j,(atB us j).size<=100) (ho:o.size<=300000) {j:Nat} (hj:j<=100):(usT pre us o j).size<=310600:=by
 have h1:=zGU hp hu (o:=o) j
 have:(100+6)*j<=10600:=by omega
 omega
theorem zHP (rp cap p gu cu go co:Nat) (a:Option Addr) (bs:List UInt8) (us:List JZ) (os:List OpR) (w:JY) (h:RdF w rp a cap bs p) (hl:bs.length<=1200) (T:us.length<=100) (hh:os.length<=20) (g:∀ j,(atB us j).size<=100) (m:∀ i,(atO os i).s.size<=16) (G:∀ i,i<os.length->OpT (atO os i))
  (L:gu<w.heap.size) (F:go<w.heap.size) (N:gu≠rp) (t:go≠rp) (hu:∀ i,i<us.length->w.cell? ⟨gu,i,none⟩=some (.string (atB us i))) (ho:Ops w go 0 os) :
  Calls Tryz.prog 46 #[.pointer (some ⟨rp,0,none⟩),.slice (some ⟨gu,0,none⟩) us.length cu,.slice (some ⟨go,0,none⟩) os.length co] w fun e w'=>(∃ s:JZ,e = .returned (.string s)/\s.size<=320000/\Hid (s=zH1 (nxt bs p) us os))/\Hid (RdF w' rp a cap bs (adv bs p))/\Hid (zG w w' rp):=by
 have H:=zB h
 have HU:=zB hu
 have HO:=zB ho
 have v:=zB g
 have f:=zB m
 have S:=zB G
 clear h hu ho g m G
 go_enter Tryz.func46,Tryz.ntmps46
 go_wp2_with fail
 (with_reducible refine (zM rp cap p a bs _ (zA H) hl).mono ?_)
 rintro e w1 ⟨⟨k,rfl,hk,HK⟩,H1,HP1⟩
 have l:=zB (fun i hi=>((zA HP1).cell (b:=gu) L N i).trans ((zA HU) i hi))
 have I:=zB ((zA HP1).ops (zA HO) F t)
 have U:gu<w1.heap.size:=yi L (zA HP1).size
 have A:go<w1.heap.size:=yi F (zA HP1).size
 have hf:=(zA H1).lt
 clear H HU HO
 have M:=zB (fun i=>zJe (k:=k) (zA v) T (zA f) i)
 obtain ⟨o0,B⟩:∃ o0,Hid (o0=hoT k us os 0):=⟨_,zB rfl⟩
 have e0:((k:Int)%8==7)=true/\o0=⟨#[32,10]⟩\/((k:Int)%8==7)=false/\o0=⟨#[]⟩:=by
  rw [zA B]
  by_cases h7:k%8=7
  ·exact yQ ⟨by simp; omega,by simp only [hoT]; rw [yO h7]⟩
  ·exact yR ⟨by simp; omega,by simp only [hoT]; rw [yN h7]⟩
 rcases e0 with ⟨e7,eo⟩ | ⟨e7,eo⟩
 all_goals
  go_wp2_with fail
  rw [<- eo]
  clear e7 eo
  go_loopw [7,9] (fun ov iv wr=>∃ (i:Nat) (o:JZ),i<=os.length/\iv = .int .i64 (i:Int)/\ov = .string o/\Hid (o=hoT k us os i)/\Hid (Below w1.heap.size w1 wr)) (fun _ iv _=>os.length-(intOf iv).toNat)
  case atStart=>exact ⟨0,_,yj _,rfl,rfl,B,zB (yG _ _)⟩
  case round=>
   clear B
   obtain ⟨i,o,hi,rfl,rfl,HE,Q⟩:=hrel
   have hg:o.size<=220000:=by have:=(zA M) i; rw [<- zA HE] at this; omega
   obtain ⟨wo,R⟩:∃ wo,wo=wr:=⟨_,rfl⟩
   subst R
   by_cases d:i<os.length
   ·have he:(i:Int)<(os.length:Int):=by omega
    obtain ⟨x,hx⟩:∃ x,x=atO os i:=⟨_,rfl⟩
    have hc:x.s.size<=16:=by rw [hx]; exact (zA f) i
    have E:OpT x:=by rw [hx]; exact (zA S) i d
    have ha:=zDh hc
    have C:=zB (fun W=>zER x W E (by omega))
    obtain ⟨J,hJ⟩:∃ J,J=zBG (dW x):=⟨_,rfl⟩
    rw [<- hJ] at C ha
    have HJ:=zB (show zH0 k (atO os i)=if k%8=6 then (⟨#[32,32]⟩:JZ)++J++⟨#[32]⟩ else J by rw [hJ,hx]; rfl)
    have HX:=zB hx
    clear hx hJ E
    have c:∀ (q:JZ) (wv:JY),q.size<=310600->Hid (q=if i=k%3 then usT (zHl k) us o us.length else o)->Hid (Below w1.heap.size w1 wv)->True:=fun _ _ _ _ _=>trivial
    clear c
    by_cases u:i=k%3
    ·have ei:((i:Int)==(k:Int)%3)=true:=by simp; omega
     have Y:=zB (show hoT k us os (i+1)=usT (zHl k) us o us.length++zH0 k (atO os i)++⟨#[10]⟩ by simp only [hoT]; rw [yO u,<- zA HE])
     clear u
     go_wp2_with fail
     go_loopw [7,10] (fun ov jv wr=>∃ (j:Nat) (q:JZ),j<=us.length/\jv = .int .i64 (j:Int)/\ov = .string q/\Hid (q=usT (zHl k) us o j)/\Hid (Below w1.heap.size w1 wr)) (fun _ jv _=>us.length-(intOf jv).toNat)
     case atStart=>exact ⟨0,_,yj _,rfl,rfl,zB rfl,Q⟩
     case round=>
      obtain ⟨j,q,hj,rfl,rfl,HQ,V⟩:=hrel
      have n:q.size<=310600:=by rw [zA HQ]; exact zIc (zHz k) (zA v) (by omega) (by omega)
      by_cases D:j<us.length
      ·have r:(j:Int)<(us.length:Int):=by omega
       have c0:=((zA V).cell (p:=⟨gu,j,none⟩) U).trans ((zA l) j D)
       have O:=(zA v) j
       have i1:(0:Int)<=(4:Int)+(k:Int)/8%2:=by omega
       have i2:(4:Int)+(k:Int)/8%2<=5:=by omega
       obtain ⟨P,hP⟩:∃ P,P=zHl k:=⟨_,rfl⟩
       go_wp2_with fail
       go_quiet (fail)
       go_wp2_with fail
       refine ⟨⟨j+1,_,by omega,by go_num,rfl,zB ?_,zB ((zA V).trans ⟨rfl,rfl,rfl,yh _,fun _ _=>rfl⟩)⟩,by simp [intOf]; omega⟩
       rw [zA HQ]
       show _=usT (zHl k) us o j++zHl k++atB us j++⟨#[10]⟩
       unfold zHl
       have em:((4:Int)+(k:Int)/8%2).toNat=4+k/8%2:=by omega
       first | rw [em] | skip
       first | rfl | skip
      ·obtain rfl:j=us.length:=by omega
       obtain ⟨b0,b1,b2,b3⟩:=((zA I).below (zA V) A) i d
       simp only [yV] at b0 b1 b2 b3
       rw [<- zA HX] at b0 b1 b2 b3
       go_wp2_with fail
       (with_reducible refine ((zA C) _).mono ?_)
       rintro e w3 ⟨rfl,hb3⟩
       have y:=zB ((zA V).trans (hb3.mono (zA V).size))
       clear hb3
       by_cases h6:k%8=6
       ·have e6:((k:Int)%8==6)=true:=by simp; omega
        have hd:((⟨#[32,32]⟩:JZ)++J).size<=60:=by rw [za]; show 2+J.size<=60; omega
        have z:((⟨#[32,32]⟩:JZ)++J++⟨#[32]⟩).size<=61:=by rw [za]; show _+1<=61; omega
        have K:=zA HJ
        rw [yO h6] at K
        have X:=zB K
        clear K h6
        go_wp2_with fail
        refine ⟨⟨i+1,_,by omega,by go_num,rfl,zB ?_,y⟩,by simp [intOf]; omega⟩
        rw [zA Y,zA X,<- zA HQ]
       ·have e6:((k:Int)%8==6)=false:=by simp; omega
        have K:=zA HJ
        rw [yN h6] at K
        have X:=zB K
        clear K h6
        go_wp2_with fail
        refine ⟨⟨i+1,_,by omega,by go_num,rfl,zB ?_,y⟩,by simp [intOf]; omega⟩
        rw [zA Y,zA X,<- zA HQ]
    ·have ei:((i:Int)==(k:Int)%3)=false:=by simp; omega
     have Y:=zB (show hoT k us os (i+1)=o++zH0 k (atO os i)++⟨#[10]⟩ by simp only [hoT]; rw [yN u,<- zA HE])
     clear u
     obtain ⟨b0,b1,b2,b3⟩:=((zA I).below (zA Q) A) i d
     simp only [yV] at b0 b1 b2 b3
     rw [<- zA HX] at b0 b1 b2 b3
     go_wp2_with fail
     (with_reducible refine ((zA C) _).mono ?_)
     rintro e w3 ⟨rfl,hb3⟩
     have y:=zB ((zA Q).trans (hb3.mono (zA Q).size))
     clear hb3
     by_cases h6:k%8=6
     ·have e6:((k:Int)%8==6)=true:=by simp; omega
      have hd:((⟨#[32,32]⟩:JZ)++J).size<=60:=by rw [za]; show 2+J.size<=60; omega
      have z:((⟨#[32,32]⟩:JZ)++J++⟨#[32]⟩).size<=61:=by rw [za]; show _+1<=61; omega
      have K:=zA HJ
      rw [yO h6] at K
      have X:=zB K
      clear K h6
      go_wp2_with fail
      refine ⟨⟨i+1,_,by omega,by go_num,rfl,zB ?_,y⟩,by simp [intOf]; omega⟩
      rw [zA Y,zA X]
     ·have e6:((k:Int)%8==6)=false:=by simp; omega
      have K:=zA HJ
      rw [yN h6] at K
      have X:=zB K
      clear K h6
      go_wp2_with fail
      refine ⟨⟨i+1,_,by omega,by go_num,rfl,zB ?_,y⟩,by simp [intOf]; omega⟩
      rw [zA Y,zA X]
   ·obtain rfl:i=os.length:=by omega
    by_cases h3:os.length<=k%3
    ·have e3:(os.length:Int)<=(k:Int)%3:=by omega
     have HF:=zB (show zH1 k us os=usT zF1 us o us.length++⟨#[98,101,103,105,110,10]⟩ by unfold zH1; rw [yO h3,<- zA HE])
     clear h3
     go_wp2_with fail
     go_loopw [7,12] (fun ov jv wr=>∃ (j:Nat) (q:JZ),j<=us.length/\jv = .int .i64 (j:Int)/\ov = .string q/\Hid (q=usT zF1 us o j)/\wr=wo) (fun _ jv _=>us.length-(intOf jv).toNat)
     case atStart=>exact ⟨0,_,yj _,rfl,rfl,zB rfl,rfl⟩
     case round=>
      obtain ⟨j,q,hj,rfl,rfl,HQ,hb⟩:=hrel
      have Z:=hb.symm
      subst Z
      have n:q.size<=310600:=by rw [zA HQ]; exact zIc (by decide) (zA v) (by omega) (by omega)
      by_cases D:j<us.length
      ·have r:(j:Int)<(us.length:Int):=by omega
       have c0:=((zA Q).cell (p:=⟨gu,j,none⟩) U).trans ((zA l) j D)
       have O:=(zA v) j
       go_wp2_with fail
       refine ⟨⟨j+1,_,by omega,by go_num,rfl,zB ?_,by first | rfl | trivial⟩,by simp [intOf]; omega⟩
       rw [zA HQ]
       rfl
      ·obtain rfl:j=us.length:=by omega
       go_wp2_with fail
       go_ret
       refine ⟨⟨_,rfl,?_,zB ?_⟩,zB ((zA H1).kept (fun i hi=>(zA Q).block i (by omega))),zB ((zA HP1).trans (zG.of_below (zA Q)))⟩
       ·rw [za]; show q.size+6<=_; omega
       ·rw [<- zA HK,zA HF,<- zA HQ]
    ·have e3:¬ (os.length:Int)<=(k:Int)%3:=by omega
     have HF:=zB (show zH1 k us os=o++⟨#[98,101,103,105,110,10]⟩ by unfold zH1; rw [yN h3,<- zA HE])
     clear h3
     go_wp2_with fail
     go_ret
     refine ⟨⟨_,rfl,?_,zB ?_⟩,zB ((zA H1).kept (fun i hi=>(zA Q).block i (by omega))),zB ((zA HP1).trans (zG.of_below (zA Q)))⟩
     ·rw [za]; show o.size+6<=_; omega
     ·rw [<- zA HK,zA HF]
theorem zOd (l:List (Nat×Nat)):∀ n:Nat,(∀ p∈l,wds (s.extract p.1 p.2)≠[Zp])->bgN s l n=0:=by
 induction l with
 | nil=>intro n _; rfl
 | cons p r ih=>
  intro n h
  simp only [bgN]
  rw [yN (h p (by simp))]
  exact ih _ fun q hq=>h q (by simp [hq])
theorem zOe (l:List (Nat×Nat)):∀ n i:Nat,i<l.length->wds (s.extract (l.getD i (0,0)).1 (l.getD i (0,0)).2)=[Zp]->(∀ j,j<i->wds (s.extract (l.getD j (0,0)).1 (l.getD j (0,0)).2)≠[Zp])->bgN s l n=n+i+1:=by
 induction l with
 | nil=>intro n i h _ _; simp at h
 | cons p r ih=>
  intro n i hi h hj
  cases i with
  | zero=>
   have e:(p::r).getD 0 (0,0)=p:=rfl
   rw [e] at h
   simp only [bgN]
   rw [yO h,Nat.add_zero]
  | succ i=>
   have e0:(p::r).getD 0 (0,0)=p:=rfl
   have e:∀ k,(p::r).getD (k+1) (0,0)=r.getD k (0,0):=fun k=>rfl
   have h0:=hj 0 (by omega)
   rw [e0] at h0
   rw [e] at h
   simp only [bgN]
   rw [yN h0,ih (n+1) i (by simpa using hi) h (fun j H=>by have:=hj (j+1) (by omega); rwa [e] at this)]
   omega
theorem zMV {i:Nat} (h:i<ls.length):(plc ls).getD i (0,0)=((atL ls i).f,(atL ls i).t):=by
 simp [plc,atL,yk,h]
theorem zQC {r:Int} (hp:plc ls=pcs 10 s 0) (h:zOH s ls r):r+1=(bgN s (pcs 10 s 0) 0:Int)/\bgN s (pcs 10 s 0) 0<=ls.length:=by
 have hw:∀ i,i<ls.length->wds (s.extract ((pcs 10 s 0).getD i (0,0)).1 ((pcs 10 s 0).getD i (0,0)).2)=wsL s ls i:=fun i hi=>by rw [<- hp,zMV hi]; rfl
 have hl:(pcs 10 s 0).length=ls.length:=by rw [<- hp]; simp [plc]
 rcases h with ⟨rfl,h⟩ | ⟨i,hi,rfl,h1,h2⟩
 ·rw [zOd _ _ (fun p k=>?_)]
  ·exact ⟨by omega,yj _⟩
  ·obtain ⟨i,hi,e⟩:=List.mem_iff_getElem.1 k
   have H:i<ls.length:=by omega
   have e2:(pcs 10 s 0).getD i (0,0)=p:=by rw [yk,yn hi,<- e]; rfl
   have:=h i H
   rw [<- hw i H,e2] at this
   exact this
 ·rw [zOe _ _ i (by omega) (by rw [hw i hi]; exact h1) (fun j hj=>by rw [hw j (by omega)]; exact h2 j hj)]
  exact ⟨by omega,by omega⟩
theorem zQD {i:Nat} (hp:plc ls=pcs 10 s 0) (hi:i<ls.length):(atL ls i).f<=(atL ls i).t/\(atL ls i).t<=s.size:=by
 have hm:((atL ls i).f,(atL ls i).t)∈plc ls:=by
  unfold plc
  exact List.mem_map_of_mem (f:=fun l:LnR=>(l.f,l.t)) (zCM hi)
 rw [hp] at hm
 unfold pcs at hm
 obtain ⟨h1,h2,_⟩:=zL0 10 s (s.size-0+1) 0 (yj _) ((atL ls i).f,(atL ls i).t) hm
 exact ⟨h1,h2⟩
theorem zJD (s:JZ) (o b:OpR) (w:JY) (hs:s.size<=900000) (hb:∀ ws,OpW ws o->OpT b) (hm:b.s.size<=16) :
  Calls Tryz.prog 50 #[.string s,.agg #[.string o.s,.int .i64 o.k,.int .i64 o.l,.int .i64 o.sd],.agg #[.string b.s,.int .i64 b.k,.int .i64 b.l,.int .i64 b.sd]] w fun e w'=>(∃ t:JZ,e = .returned (.string t)/\t.size<=1000000000000/\Hid (zIo s o b t))/\Below w.heap.size w w':=by
 obtain ⟨W0,K⟩:∃ W0,W0=(w.alloc (.cells #[.string o.s,.int .i64 o.k,.int .i64 o.l,.int .i64 o.sd] 57)).alloc (.cells #[.string b.s,.int .i64 b.k,.int .i64 b.l,.int .i64 b.sd] 57):=⟨_,rfl⟩
 have hd:=zB K
 have N:Below w.heap.size w W0:=by rw [K]; exact (zC _ _).alloc (by simp) _
 have z0:w.heap.size+1<W0.heap.size:=by rw [K]; simp
 have S:=zB (show zCg W0 w.heap.size o by rw [K]; exact ⟨by simp [go_sem],by simp [go_sem],by simp [go_sem],by simp [go_sem]⟩)
 have Z:=zB (show zCg W0 (w.heap.size+1) b by rw [K]; exact ⟨by simp [go_sem],by simp [go_sem],by simp [go_sem],by simp [go_sem]⟩)
 have D:=zB N
 have HB:=zB hb
 have R:=zB (zFr s W0 (by omega))
 have hp:=zDh hm
 clear K N hb
 go_enter Tryz.func50,Tryz.ntmps50
 go_wp2_with fail
 rw [<- zA hd]
 (with_reducible refine (zA R).mono ?_)
 rintro e w1 ⟨g,c,ls,rfl,hg,hgl,HOL,HST,HPL,hll,hb1⟩
 have z1:=hb1.size
 have he:=zB ((zA S).below hb1)
 have hh:=zB ((zA Z).below hb1)
 have I:=zB ((zA D).trans (hb1.mono (zA D).size))
 clear hb1 R S Z D
 go_wp2_with fail
 obtain ⟨n,hn⟩:∃ n,n=bgN s (pcs 10 s 0) 0:=⟨_,rfl⟩
 have HN:=zB hn
 clear hn
 go_loopw [8,9] (fun ov iv wr=>∃ (i:Nat) (t:JZ),i<=n/\iv = .int .i64 (i:Int)/\ov = .string t/\t.size<=1000000*i/\Hid (HdI s o b (pcs 10 s 0) i t)/\Hid (Below w1.heap.size w1 wr)) (fun _ iv _=>n-(intOf iv).toNat)
 case atStart=>exact ⟨0,_,yj _,rfl,rfl,yh _,zB rfl,zB (yG _ _)⟩
 case round=>
  obtain ⟨i,t,hi,rfl,rfl,h0,HE,a⟩:=hrel
  have X:=zA a
  have zw:=X.size
  have U:=zB (fun l hl=>((zA HST) l hl).below X)
  have Y:=zB ((zA HOL).below X hgl)
  have ho:=zB ((zA he).below X)
  have hk:=zB ((zA hh).below X)
  have m:=zB (zFs s g c ls wr (by omega) (zA Y) (zA U))
  clear X
  go_wp2_with fail
  (with_reducible refine (zA m).mono ?_)
  rintro e w2 ⟨r,rfl,hbeg,hw2⟩
  have L:=hw2.symm
  subst L
  obtain ⟨hr,O⟩:=zQC (zA HPL) hbeg
  rw [<- zA HN] at hr O
  clear hw2 hbeg m
  by_cases h3:i<n
  ·have G:(i:Int)<=r:=by omega
   have y:i<ls.length:=by omega
   obtain ⟨o0,o1,o2⟩:=(zA Y) i y
   have j:=zMV y
   rw [zA HPL] at j
   obtain ⟨m1,m2⟩:=zQD (zA HPL) y
   have H:=(zA U) _ (zCM y)
   obtain ⟨wv,ha⟩:∃ wv,wv=(atL ls i).wv:=⟨_,rfl⟩
   obtain ⟨f,hf⟩:∃ f,f=(atL ls i).f:=⟨_,rfl⟩
   obtain ⟨z,hz⟩:∃ z,z=(atL ls i).t:=⟨_,rfl⟩
   rw [<- ha] at o0 H
   rw [<- hf] at o1 m1 j H
   rw [<- hz] at o2 m1 m2 j H
   have C:=zB j
   obtain ⟨ws,V⟩:∃ ws,ws=wds (s.extract f z):=⟨_,rfl⟩
   rw [<- V] at H
   have F:=zB V
   have hy:(s.extract f z).size<=900000:=by rw [Zs]; omega
   have M:=zB (zEM wv ws wr H (fun x hx=>by
    have h1:x.size<=(s.extract f z).size:=zEu (by rw [<- V]; exact hx)
    unfold maxLen; omega))
   obtain ⟨av,cv,rfl,_⟩:=H
   clear j ha hf hz V O hr
   go_wp2_with fail
   (with_reducible refine (zA M).mono ?_)
   rintro e w3 ⟨d,v,rfl,hv,hb3⟩
   have z3:=hb3.size
   obtain ⟨W4,u⟩:∃ W4,W4=w3.alloc (.cells #[.string d.s,.int .i64 d.k,.int .i64 d.l,.int .i64 d.sd] 57):=⟨_,rfl⟩
   have Q:Below wr.heap.size wr W4:=by rw [u]; exact hb3.alloc z3 _
   have E:=zB ((zA a).trans (Q.mono zw))
   obtain ⟨a0,a1,a2,a3⟩:=(zA ho).below Q
   obtain ⟨d0,d1,d2,d3⟩:=(zA hk).below Q
   obtain ⟨x0,x1,x2,x3⟩:zCg W4 w3.heap.size d:=by rw [u]; exact ⟨by simp [go_sem],by simp [go_sem],by simp [go_sem],by simp [go_sem]⟩
   obtain ⟨_,_,_⟩:=(zA Y) i y
   have p1:=(Q.cell (p:=⟨g,i*3+1,none⟩) (by show g<wr.heap.size; omega)).trans o1
   have p2:=(Q.cell (p:=⟨g,i*3+2,none⟩) (by show g<wr.heap.size; omega)).trans o2
   have ht:=zB u
   clear hb3 Q M u
   have HQ:=zB (fun W=>zIJ d o W)
   have hw:=zMH
   have h2:(f:Int)<=(z:Int):=by omega
   have h4:(z:Int)<=(s.size:Int):=by omega
   have hu:(f:Int)<=(s.size:Int):=by omega
   go_upto_region 7 with fail
   rw [<- zA ht]
   have key:(v=true/\Zo d o=true/\OpW ws o)\/((v=false\/Zo d o=false)/\¬ OpW ws o):=by
    rcases hv with ⟨rfl,h⟩ | ⟨rfl,h⟩
    ·by_cases e:d=o
     ·subst e; exact yQ ⟨rfl,zu.2 rfl,h⟩
     ·refine yR ⟨yR ?_,fun h'=>e (h.one h')⟩
      cases hx:Zo d o with
      | false=>rfl
      | true=>exact yP (zu.1 hx) e
    ·exact yR ⟨yQ rfl,h o⟩
   clear hv
   rcases key with ⟨rfl,P,q⟩ | ⟨T,q⟩
   ·have hq:=zA HQ
    simp only [P] at hq
    clear P HQ
    have B:=zB (zER b W4 ((zA HB) _ q) (by omega))
    obtain ⟨J,hJ⟩:∃ J,J=zBG (dW b):=⟨_,rfl⟩
    have A:=zB (show HdI s o b (pcs 10 s 0) (i+1) (t++J++⟨#[10]⟩) from ⟨t,zA HE,yQ ⟨by rw [zA C,<- zA F]; exact q,by rw [hJ]⟩⟩)
    rw [<- hJ] at B hp
    clear q hJ
    go_wp2_with fail
    (with_reducible refine (zA B).mono ?_)
    rintro e w5 ⟨rfl,hb5⟩
    have hc:=zB ((zA E).trans (hb5.mono (zA E).size))
    clear hb5 B
    go_wp2_with fail
    refine ⟨⟨i+1,_,by omega,by go_num,rfl,?_,A,hc⟩,by simp [intOf]; omega⟩
    rw [za,za]; show _+_+1<=_; omega
   ·have A:=zB (show HdI s o b (pcs 10 s 0) (i+1) (t++s.extract f z++⟨#[10]⟩) from ⟨t,zA HE,yR ⟨by rw [zA C,<- zA F]; exact q,by rw [zA C]⟩⟩)
    clear q
    have hj:v=false\/(v=true/\Zo d o=false):=by
     cases v with
     | false=>exact yQ rfl
     | true=>exact yR ⟨rfl,T.resolve_left (by simp)⟩
    clear T
    rcases hj with rfl | ⟨rfl,P⟩
    rotate_left
    have hq:=zA HQ
    simp only [P] at hq
    clear P
    rotate_left
    all_goals
     clear HQ
     go_wp2_with fail
     go_quiet (fail)
     go_wp2_with fail
     refine ⟨⟨i+1,_,by omega,by go_num,rfl,?_,A,zB ((zA E).trans ⟨rfl,rfl,rfl,yh _,fun _ _=>rfl⟩)⟩,by simp [intOf]; omega⟩
     rw [za,za]; show _+_+1<=_; omega
  ·obtain rfl:i=n:=by omega
   have G:¬ (i:Int)<=r:=by omega
   have HF:=zB (show zIo s o b t by unfold zIo; rw [<- zA HN]; exact zA HE)
   go_wp2_with fail
   go_ret
   exact ⟨⟨t,rfl,by omega,HF⟩,(zA I).trans ((zA a).mono (zA I).size)⟩
def atI (xs:List Int) (i:Nat):Int:=xs.getD i 0
def ZE (l:List Int):List Value:=l.map fun n=>.int .i64 n
theorem zLe (l:List Int):(ZE l).length=l.length:=by simp [ZE]
theorem zAt (l l':List Int):ZE (l++l')=ZE l++ZE l':=by simp [ZE]
theorem zCC (l:List Int):∀ u∈ZE l,u.oneCell'=true:=by
 intro u hu
 simp only [ZE,List.mem_map] at hu
 obtain ⟨b,_,rfl⟩:=hu
 rfl
theorem zM3 (l:List Int) (i:Nat) (h:i<l.length):(ZE l)[i]?=some (.int .i64 (atI l i)):=by
 simp [ZE,atI,h]
def zGN (w:JY) (g:Nat) (xs:List Int) (k:Nat):Prop:=
 g<w.heap.size/\w.there g 0 xs.length/\∀ i,i<k->w.cell? ⟨g,i,none⟩=some (.int .i64 (atI xs i))
theorem zEz {base g cap:Nat} {e:TypeId} {zs:List Int} (h:w.ownsRow base e 1 (.slice (some ⟨g,0,none⟩) zs.length cap) zs.length (ZE zs)):base<=g/\zGN w g zs zs.length:=by
 have H:=h.lt g rfl
 refine ⟨H.1,H.2,fun j hj=>⟨?_,h.frozenAt _⟩,fun i hi=>?_⟩
 ·rw [h.cellAt (0+j) (by omega)]
  have:0+j<(ZE zs).length:=by rw [zLe]; omega
  rw [yn this]
  rfl
 ·exact (h.cellAt i (by omega)).trans (zM3 zs i hi)
def zKW (xs:List OpR):Prop:=∀ j,j<xs.length->((atO xs j).k=1\/(atO xs j).k=2\/(atO xs j).k=3)
theorem zOf (h:zB1 xs xs.length):zKW xs:=fun j hj=>by
 obtain ⟨_,h⟩:=zB0 _ _ _ _ (h j hj)
 omega
theorem zM4 {t:JZ} (h:zKW xs):opT xs t↔((∃ j,j<xs.length/\(atO xs j).s=t/\(atO xs j).k=1)\/(∃ j,j<xs.length/\(atO xs j).s=t/\(atO xs j).k=2)\/(∃ j,j<xs.length/\(atO xs j).s=t/\(atO xs j).k=3)):=by
 constructor
 ·rintro ⟨j,hj,e⟩
  rcases h j hj with k | k | k
  ·exact yQ ⟨j,hj,e,k⟩
  ·exact yR (yQ ⟨j,hj,e,k⟩)
  ·exact yR (yR ⟨j,hj,e,k⟩)
 ·rintro (⟨j,hj,e,_⟩ | ⟨j,hj,e,_⟩ | ⟨j,hj,e,_⟩)
  ·exact ⟨j,hj,e⟩
  ·exact ⟨j,hj,e⟩
  ·exact ⟨j,hj,e⟩
theorem zLf (b H cap:Nat) (xs:List OpR) (t:JZ) (w:JY) (hm:xs.length<=1048576) (hw:Ops w b H xs) (hB:b<w.heap.size) (hk:zKW xs) :
  Calls Tryz.prog 130 #[.agg #[.slice (some ⟨b,H,none⟩) xs.length cap],.string t] w fun e w'=>zBs e (opT xs t)/\Below w.heap.size w w':=by
 have HK:=zB (zM4 (t:=t) hk)
 have HW:=zB hw
 clear hk hw
 go_enter Tryz.func130,Tryz.ntmps130
 go_wp2_with fail
 refine (zAy b H cap xs t 1 _ hm ((zA HW).below (zC _ _) hB) (by simp; omega)).mono ?_
 rintro e w1 ⟨⟨r1,rfl,hr1⟩,hb1⟩
 have z1:w.heap.size<w1.heap.size:=by have:=hb1.size; simp at this; omega
 have c1:w1.cell? ⟨w.heap.size,0,none⟩=some (.slice (some ⟨b,H,none⟩) xs.length cap):=by rw [hb1.cell (p:=⟨w.heap.size,0,none⟩) (by simp)]; simp [go_sem]
 have k:Below w.heap.size w w1:=(zC _ _).trans (hb1.mono (by simp))
 have H1:=zB hr1
 clear hr1 hb1
 by_cases p1:0<=r1
 ·go_wp2_with fail
  go_ret
  exact ⟨⟨true,rfl,⟨fun _=>(zA HK).2 (yQ ((zA H1).1 p1)),fun _=>rfl⟩⟩,k⟩
 go_wp2_with fail
 refine (zAy b H cap xs t 2 _ hm ((zA HW).below k hB) (by omega)).mono ?_
 rintro e w2 ⟨⟨r2,rfl,hr2⟩,hb2⟩
 have c2:w2.cell? ⟨w.heap.size,0,none⟩=some (.slice (some ⟨b,H,none⟩) xs.length cap):=(hb2.cell (p:=⟨w.heap.size,0,none⟩) z1).trans c1
 have h:=k.trans (hb2.mono k.size)
 have H2:=zB hr2
 clear hr2 hb2 c1
 by_cases p2:0<=r2
 ·go_wp2_with fail
  go_ret
  exact ⟨⟨true,rfl,⟨fun _=>(zA HK).2 (yR (yQ ((zA H2).1 p2))),fun _=>rfl⟩⟩,h⟩
 go_wp2_with fail
 refine (zAy b H cap xs t 3 _ hm ((zA HW).below h hB) (by have:=h.size; omega)).mono ?_
 rintro e w3 ⟨⟨r3,rfl,hr3⟩,hb3⟩
 have K:=h.trans (hb3.mono h.size)
 have H3:=zB hr3
 clear hr3 hb3
 go_wp2_with fail
 go_ret
 refine ⟨⟨decide (0<=r1)||decide (0<=r2)||decide (0<=r3),rfl,?_⟩,K⟩
 unfold zDx
 rw [zA HK,<- zA H1,<- zA H2,<- zA H3]
 simp [or_assoc]
theorem zHQ (b k cap:Nat) (xs:List OpR) (t:JZ) (w:JY) (hm:xs.length<=1048576) (hw:Ops w b k xs) (hB:b<w.heap.size) (hk:zKW xs) (hs:t.size<=maxLen) :
  Calls Tryz.prog 114 #[.agg #[.slice (some ⟨b,k,none⟩) xs.length cap],.string t] w fun e w'=>e = .returned (.int .i64 (ZV xs t:Int))/\Below w.heap.size w w':=by
 have HK:=zB hk
 have HW:=zB hw
 clear hk hw
 go_enter Tryz.func114,Tryz.ntmps114
 go_wp2_with fail
 refine (zAW t _ hs).mono ?_
 rintro e w1 ⟨⟨v1,rfl,hv1⟩,rfl⟩
 have V1:=zB hv1
 clear hv1
 cases v1
 case true=>
  go_wp2_with fail
  go_ret
  exact ⟨zJ (by have:=(zA V1).1 rfl; simp [ZV,Zj,this]),by first | exact zC _ _ | exact yG _ _⟩
 have n1:=zB (show ¬ zD9 t from fun h=>Bool.false_ne_true ((zA V1).2 h))
 clear V1
 go_wp2_with fail
 refine (zCo t _ hs).mono ?_
 rintro e w1 ⟨⟨v2,rfl,hv2⟩,rfl⟩
 have V2:=zB hv2
 clear hv2
 cases v2
 case true=>
  go_wp2_with fail
  go_ret
  exact ⟨zJ (by have:=(zA V2).1 rfl; have:=zA n1; simp [ZV,Zj,Zq, *]),by first | exact zC _ _ | exact yG _ _⟩
 have n2:=zB (show ¬ zA2 t from fun h=>Bool.false_ne_true ((zA V2).2 h))
 clear V2
 by_cases e4:t=⟨#[40]⟩
 ·subst e4
  go_wp2_with fail
  go_ret
  exact ⟨zJ (by have:=zA n1; have:=zA n2; simp [ZV,Zj,Zq, *]),by first | exact zC _ _ | exact yG _ _⟩
 by_cases e5:t=⟨#[41]⟩
 ·subst e5
  go_wp2_with fail
  go_ret
  exact ⟨zJ (by have:=zA n1; have:=zA n2; simp [ZV,Zj,Zq, *]),by first | exact zC _ _ | exact yG _ _⟩
 have q4:(t.toList==[40])=false:=by
  rw [yU]
  exact fun h=>e4 (zCZ (h.trans (by rw [yC])))
 have q5:(t.toList==[41])=false:=by
  rw [yU]
  exact fun h=>e5 (zCZ (h.trans (by rw [yC])))
 have E4:=zB e4
 have E5:=zB e5
 clear e4 e5
 go_wp2_with fail
 refine (zLf b k cap xs t _ hm ((zA HW).below (zC _ _) hB) (by simp; omega) (zA HK)).mono ?_
 rintro e w2 ⟨⟨v3,rfl,hv3⟩,hb2⟩
 have V3:=zB hv3
 clear hv3
 have H:Below w.heap.size w w2:=(zC _ _).trans (hb2.mono (by simp))
 cases v3
 ·go_wp2_with fail
  go_ret
  refine ⟨zJ ?_,H⟩
  have n3:¬ opT xs t:=fun h=>Bool.false_ne_true ((zA V3).2 h)
  simp [ZV,Zj,Zq,zDi,zCH,zA n1,zA n2,zA E4,zA E5,n3]
 ·go_wp2_with fail
  go_ret
  refine ⟨zJ ?_,H⟩
  have n3:opT xs t:=(zA V3).1 rfl
  simp [ZV,Zj,Zq,zDi,zCH,zA n1,zA n2,zA E4,zA E5,n3]
theorem zKX (s:JZ) (i:Nat) (w:JY) (hs:s.size<=1048576) (hi:i<s.size) :
  Calls Tryz.prog 129 #[.string s,.int .i64 (i:Int)] w fun e w'=>(∃ r:Nat,e = .returned (.int .i64 (r:Int))/\zL2 s i r)/\w'=w:=by
 have Q:=zB (ZP hi)
 cases hsg:sgB s[i]
 ·go_enter Tryz.func129,Tryz.ntmps129
  go_wp2_with (go_at_call 80; refine (Zc _ _).mono ?_; rintro e w' ⟨rfl,rfl⟩)
  have H:=zB (show cls (bt s i)≠6 from fun h=>by
   rw [ZP hi,zIl,yT] at hsg
   exact hsg h)
  go_loop [5] (fun n=>∃ k:Nat,1<=k/\i+k<=s.size/\n = .int .i64 (k:Int)/\Hid (k=1\/((cls (bt s i)=2\/cls (bt s i)=3)/\∀ j,j<k->(cls (bt s (i+j))=2\/cls (bt s (i+j))=3)))) (fun n=>s.size-(intOf n).toNat)
  case atStart=>exact ⟨1,yh _,by omega,rfl,zB (yQ rfl)⟩
  case round=>
   obtain ⟨k,q,hk,rfl,hn⟩:=hrel
   by_cases K:i+k<s.size
   ·have GO:=zB (show ∀ (_:cls s[i]=2\/cls s[i]=3) (_:cls s[i+k]=2\/cls s[i+k]=3),(k+1=1\/((cls (bt s i)=2\/cls (bt s i)=3)/\∀ j,j<k+1->(cls (bt s (i+j))=2\/cls (bt s (i+j))=3))) from fun h1 h2=>by
     rw [ZP hi] at h1
     rw [ZP K] at h2
     refine yR ⟨h1,fun j hj=>?_⟩
     by_cases e:j=k
     ·subst e; exact h2
     ·rcases zA hn with x | x
      ·have:j=0:=by omega
       subst this
       exact h1
      ·exact x.2 j (by omega))
    have STOP:=zB (show ∀ (_:¬ ((cls s[i]=2\/cls s[i]=3)/\(cls s[i+k]=2\/cls s[i+k]=3))),zL2 s i k from fun h=>by
     rw [ZP hi,ZP K] at h
     have h6:=zA H
     refine ⟨q,hk,yR ?_⟩
     by_cases ha:cls (bt s i)=2\/cls (bt s i)=3
     ·refine yQ ⟨ha,fun j hj=>?_,fun _ hx=>h ⟨ha,hx⟩⟩
      rcases zA hn with x | x
      ·have:j=0:=by omega
       subst this
       exact ha
      ·exact x.2 j hj
     ·refine yR ⟨⟨h6,by omega,by omega⟩,?_⟩
      rcases zA hn with x | x
      ·exact x
      ·exact yP x.1 ha)
    clear hn
    go_wp2_with (first | (go_at_call 27; refine (zBI _ _).mono ?_; rintro e w' ⟨rfl,rfl⟩) | (go_at_call 28; refine (zBd _ _).mono ?_; rintro e w' ⟨rfl,rfl⟩))
    all_goals
     first
      | (
       refine ⟨⟨k+1,?_,?_,?_,zB ((zA GO) ?_ ?_)⟩,?_⟩
       ·omega
       ·omega
       ·go_num
       ·simp [*]
       ·simp [*]
       ·simp [intOf]; omega)
      | (
       go_ret
       refine ⟨⟨k,rfl,(zA STOP) ?_⟩,rfl⟩
       simp [*])
   ·have STOP:=zB (show zL2 s i k from by
     have h6:=zA H
     refine ⟨q,hk,yR ?_⟩
     by_cases ha:cls (bt s i)=2\/cls (bt s i)=3
     ·refine yQ ⟨ha,fun j hj=>?_,fun hx=>yP hx K⟩
      rcases zA hn with x | x
      ·have:j=0:=by omega
       subst this
       exact ha
      ·exact x.2 j hj
     ·refine yR ⟨⟨h6,by omega,by omega⟩,?_⟩
      rcases zA hn with x | x
      ·exact x
      ·exact yP x.1 ha)
    go_wp2
    go_ret
    exact ⟨⟨k,rfl,zA STOP⟩,rfl⟩
 ·have H:=zB (show cls (bt s i)=6 by
   rw [ZP hi,zIl] at hsg
   simpa using hsg)
  by_cases X:s.size-i<16
  ·go_enter Tryz.func129,Tryz.ntmps129
   go_wp2_with (go_at_call 80; refine (Zc _ _).mono ?_; rintro e w' ⟨rfl,rfl⟩)
   go_ret
   exact ⟨⟨s.size-i,zJ (by omega),⟨by omega,by omega,yQ ⟨zA H,by omega,yR (by omega)⟩⟩⟩,rfl⟩
  ·go_enter Tryz.func129,Tryz.ntmps129
   go_wp2_with (go_at_call 80; refine (Zc _ _).mono ?_; rintro e w' ⟨rfl,rfl⟩)
   go_ret
   exact ⟨⟨16,rfl,⟨by omega,by omega,yQ ⟨zA H,by omega,yQ rfl⟩⟩⟩,rfl⟩
theorem zHn (b H cap:Nat) (xs:List OpR) (s:JZ) (i:Nat) (w:JY) (hm:xs.length<=1048576) (hw:Ops w b H xs) (hB:b<w.heap.size) (hk:zKW xs) (hs:s.size<=1048576) (hi:i<s.size) :
  Calls Tryz.prog 113 #[.agg #[.slice (some ⟨b,H,none⟩) xs.length cap],.string s,.int .i64 (i:Int)] w fun e w'=>(∃ r:Nat,e = .returned (.int .i64 (r:Int))/\zL3 xs s i r)/\Below w.heap.size w w':=by
 have HK:=zB hk
 have HW:=zB hw
 clear hk hw
 go_enter Tryz.func113,Tryz.ntmps113
 go_wp2_with fail
 refine (zKX s i _ hs hi).mono ?_
 rintro e w1 ⟨⟨m,rfl,hm1⟩,rfl⟩
 have HR:=zB hm1
 have A:i+m<=s.size:=hm1.2.1
 have j:1<=m:=hm1.1
 clear hm1
 go_wp2_with fail
 go_loopw [7] (fun n wr=>∃ k:Nat,1<=k/\k<=m/\n = .int .i64 (k:Int)/\Hid (∀ q,k<q->q<=m->ZV xs (sub s i q)=6)/\Below (w.heap.size+1) (w.alloc (.cells #[.slice (some ⟨b,H,none⟩) xs.length cap] 33)) wr) (fun n _=>(intOf n).toNat)
 case atStart=>exact ⟨m,j,yh _,rfl,zB (fun q h1 h2=>by omega),yG _ _⟩
 case round=>
  obtain ⟨k,J,Q,rfl,hn,h⟩:=hrel
  have X:Below w.heap.size w wr:=(zC _ _).trans (h.mono (by omega))
  have zw:w.heap.size<wr.heap.size:=by have:=h.size; simp at this; omega
  have c0:wr.cell? ⟨w.heap.size,0,none⟩=some (.slice (some ⟨b,H,none⟩) xs.length cap):=by
   rw [h.cell (p:=⟨w.heap.size,0,none⟩) (show w.heap.size<_ by omega)]; simp [go_sem]
  have zb:b<wr.heap.size:=by omega
  by_cases U:1<k
  ·have v:(1:Int)<(k:Int):=by omega
   have P:i+k<=s.size:=by omega
   have a:IntKind.i64.wrap ((i:Int)+(k:Int))=(i:Int)+(k:Int):=by rw [IntKind.wrap_i64]; omega
   have u:(i:Int)<=(i:Int)+(k:Int):=by omega
   have V:(i:Int)+(k:Int)<=(s.size:Int):=by omega
   have c:(0:Int)<=(i:Int)+(k:Int):=by omega
   have B:((i:Int)+(k:Int)).toNat=i+k:=by omega
   go_wp2_with fail
   go_region_held (fun w'=>w'.cell? ⟨w.heap.size,0,none⟩=some (.slice (some ⟨b,H,none⟩) xs.length cap)) (go_keep)
    (first | (go_at_call 114; refine (zHQ b H cap xs (sub s i k) _ hm ((zA HW).below X.drew hB) zb (zA HK) (by rw [zBb P]; unfold maxLen; omega)).mono ?_; rintro e w2 ⟨rfl,hb2⟩; have c2:=(hb2.cell (p:=⟨w.heap.size,0,none⟩) zw).trans (show wr.drew.cell? ⟨w.heap.size,0,none⟩=_ from c0)))
   have K:=h.drew.trans (hb2.mono zw)
   have y:Below w.heap.size w w2:=(zC _ _).trans (K.mono (by omega))
   by_cases h6:ZV xs (sub s i k)=6
   ·have Y:((ZV xs (sub s i k):Int) != 6)=false:=by simp [h6]
    have H6:=zB h6
    clear h6
    go_wp2
    refine ⟨⟨k-1,by omega,by omega,?_,zB (fun q h1 h2=>?_),K⟩,?_⟩
    ·first | (go_num; done) | (congr 1; omega)
    ·by_cases e:q=k
     ·subst e; exact zA H6
     ·exact (zA hn) q (by omega) h2
    ·simp [intOf]; omega
   ·have Y:((ZV xs (sub s i k):Int) != 6)=true:=by simp; omega
    have H6:=zB h6
    clear h6
    go_wp2
    go_ret
    exact ⟨⟨k,rfl,⟨J,yR (zA H6),m,zA HR,Q,zA hn⟩⟩,y⟩
  ·have x:k=1:=by omega
   subst x
   go_wp2
   go_ret
   exact ⟨⟨1,rfl,⟨yh _,yQ rfl,m,zA HR,Q,zA hn⟩⟩,X⟩
open Go.Maps
theorem zGO (bo bs n:Nat) (D:DataW Unit) (t:JZ) (kd:Int) (w:JY) (h:w.ownsMap Tryz.prog 120 zDS bo n D) (ht:t.size<=maxLen) (hk:(Lit.int .i64 kd).wf=true) :
  Calls Tryz.prog 68 #[.agg #[.map (some bo),.map (some bs)],.string t,.int .i64 kd] w fun e w'=>e = .returned (.bool (Maps.has D (klO t kd)))/\Below w.heap.size w w':=by
 go_enter Tryz.func68,Tryz.ntmps68
 go_wp2_with (first | (at_lookup; refine wpList_lookup_own_ok _ rfl _ _ 58 rfl 120 57 zNt Tryz.underlying58 zDS (zRD _) (zCb ⟨#[]⟩ 0 0 0) [] (zIF _ _ _ _) bo n D rfl (h.alloc _) _ _ rfl (zMt ht hk) ?_; intro v ps hv; obtain ⟨s',k',l',sd',rfl⟩:=zLD hv))
 go_ret
 exact ⟨rfl,(zC _ _).alloc (by simp) _⟩
structure Idx (w:JY) (bo bs:Nat) (xs:List OpR) (k:Nat):Prop where
 ops:∃ D:DataW Unit,w.ownsMap Tryz.prog 120 zDS bo k D/\∀ (s:JZ) (kd:Int),s.size<=maxLen->(Lit.int .i64 kd).wf=true->(Maps.has D (klO s kd)=true↔∃ j,j<k/\(atO xs j).s=s/\(atO xs j).k=kd)/\(Maps.has D (klO s kd)=true->∃ j,j<k/\(atO xs j).s=s/\(atO xs j).k=kd/\D.atKey (klO s kd) (zCb ⟨#[]⟩ 0 0 0)=zCb (atO xs j).s (atO xs j).k (atO xs j).l (atO xs j).sd)
 srts:∃ D:DataW Unit,w.ownsMap Tryz.prog 3 (plainElem Tryz.prog 3) bs k D/\∀ l:Int,(Lit.int .i64 l).wf=true->(Maps.has D (.int .i64 l)=true↔∃ j,j<k/\(atO xs j).l=l) /\
  ∀ c:Int,D.atKey (.int .i64 l) (.lit (.int .i64 0)) = .lit (.int .i64 c)->Maps.has D (.int .i64 l)=true->∃ j,j<k/\(atO xs j).l=l/\srt (atO xs j).k (atO xs j).sd=c
 ne:bo≠bs
theorem Idx.kept {w w':JY} {bo bs k:Nat} {xs:List OpR} (h:Idx w bo bs xs k) (hb:Below w.heap.size w w'):Idx w' bo bs xs k:=by
 obtain ⟨⟨D,h1,h2⟩,⟨E,h3,h4⟩,h5⟩:=h
 have hg:w.grownBy w' none:=⟨hb.os,hb.tape,hb.output,hb.size,fun i hi _=>hb.block i hi⟩
 exact ⟨⟨D,h1.kept hg (by simp),h2⟩,⟨E,h3.kept hg (by simp),h4⟩,h5⟩
theorem zSC:(Lit.int .i64 1).wf=true:=by decide
theorem zSD:(Lit.int .i64 2).wf=true:=by decide
theorem zSE:(Lit.int .i64 3).wf=true:=by decide
theorem zMW (h:o.ok=true):o.k=1\/o.k=2\/o.k=3:=by
 obtain ⟨_,h⟩:=zB0 _ _ _ _ h
 omega
theorem zJE (bo bs k:Nat) (xs:List OpR) (w:JY) (hi:Idx w bo bs xs k) (K:zB1 xs (k+1)) (hs:(atO xs k).s.size<=maxLen) :
  Calls Tryz.prog 40 #[.agg #[.map (some bo),.map (some bs)],.agg #[.string (atO xs k).s,.int .i64 (atO xs k).k,.int .i64 (atO xs k).l,.int .i64 (atO xs k).sd]] w fun e w'=>(∃ v,e = .returned (.bool v)/\(v=true↔∃ j,j<k/\cl 3 (atO xs k) (atO xs j)))/\Below w.heap.size w w':=by
 obtain ⟨⟨D,h,hD⟩,_,_⟩:=hi
 have h1:=(hD _ _ hs zSC).1
 have h2:=(hD _ _ hs zSD).1
 have h3:=(hD _ _ hs zSE).1
 have q:=zMW (K k (by omega))
 have key1:(atO xs k).k=1->(Maps.has D (klO (atO xs k).s 1)=true↔∃ j,j<k/\cl 3 (atO xs k) (atO xs j)):=by
  intro hk
  rw [h1]
  simp only [cl,if_true,hk,true_iff]
  exact ⟨fun ⟨j,a,b,c⟩=>⟨j,a,b.symm,c⟩,fun ⟨j,a,b,c⟩=>⟨j,a,b.symm,c⟩⟩
 have key2:(atO xs k).k≠1->((Maps.has D (klO (atO xs k).s 2)=true\/Maps.has D (klO (atO xs k).s 3)=true)↔∃ j,j<k/\cl 3 (atO xs k) (atO xs j)):=by
  intro hk
  rw [h2,h3]
  simp only [cl,if_true,hk,false_iff]
  constructor
  ·rintro (⟨j,a,b,c⟩ | ⟨j,a,b,c⟩)
   ·exact ⟨j,a,b.symm,by omega⟩
   ·exact ⟨j,a,b.symm,by omega⟩
  ·rintro ⟨j,a,b,c⟩
   have:=zMW (K j (by omega))
   rcases this with e | e | e
   ·exact yP e c
   ·exact yQ ⟨j,a,b.symm,e⟩
   ·exact yR ⟨j,a,b.symm,e⟩
 have K1:=zB key1
 have K2:=zB key2
 clear key1 key2 h1 h2 h3 hD K
 by_cases hk:(atO xs k).k=1
 ·have Q:((atO xs k).k==1)=true:=by simpa using hk
  have HK:=zB hk
  clear hk q
  go_enter Tryz.func40,Tryz.ntmps40
  go_wp2_with (first | (go_at_call 68; refine (zGO bo bs k D _ _ _ ((h.alloc _).alloc _) hs (by decide)).mono ?_; rintro e w1 ⟨rfl,hb1⟩))
  go_ret
  exact ⟨⟨_,rfl,(zA K1) (zA HK)⟩,((zC _ _).alloc (by simp) _).trans (hb1.mono (by simp; omega))⟩
 ·have Q:((atO xs k).k==1)=false:=by simpa using hk
  have HK:=zB hk
  clear hk q
  cases hh:Maps.has D (klO (atO xs k).s 2)
  ·have HH:=zB hh
   go_enter Tryz.func40,Tryz.ntmps40
   go_wp2_with fail
   refine (zGO bo bs k D _ _ _ ((h.alloc _).alloc _) hs (by decide)).mono ?_
   rintro e w1 ⟨rfl,hb1⟩
   obtain ⟨X,x⟩:=zJX hb1
   have H:=((h.alloc (.cells #[.map (some bo),.map (some bs)] 61)).alloc (.cells #[.string (atO xs k).s,.int .i64 (atO xs k).k,.int .i64 (atO xs k).l,.int .i64 (atO xs k).sd] 57)).kept (w':=w1) (row:=none) ⟨hb1.os,hb1.tape,hb1.output,hb1.size,fun i hi _=>hb1.block i hi⟩ (by simp)
   have HO:=zB H
   clear H
   go_wp2_with fail
   refine (zGO bo bs k D _ _ _ (zA HO) hs (by decide)).mono ?_
   rintro e w2 ⟨rfl,hb2⟩
   go_wp2_with fail
   go_ret
   refine ⟨⟨_,rfl,?_⟩,(((zC _ _).alloc (by simp) _).trans (hb1.mono (by simp; omega))).trans (hb2.mono (by have:=hb1.size; simp at this; omega))⟩
   have:=(zA K2) (zA HK)
   rw [zA HH] at this
   simpa using this
  ·have HH:=zB hh
   go_enter Tryz.func40,Tryz.ntmps40
   go_wp2_with fail
   refine (zGO bo bs k D _ _ _ ((h.alloc _).alloc _) hs (by decide)).mono ?_
   rintro e w1 ⟨rfl,hb1⟩
   go_wp2_with fail
   go_ret
   refine ⟨⟨_,rfl,?_⟩,((zC _ _).alloc (by simp) _).trans (hb1.mono (by simp; omega))⟩
   have:=(zA K2) (zA HK)
   rw [zA HH] at this
   simpa using this
theorem zHR {l:Int} (h1:0<=l) (h2:l<=1000):(Lit.int .i64 l).wf=true:=by
 exact WalkArith.wf_i64 (by omega)
theorem zE0 (h:o.ok=true):(Lit.int .i64 o.l).wf=true:=by
 obtain ⟨⟨h1,h2⟩,_⟩:=zB0 _ _ _ _ h
 exact zHR (by omega) h2
theorem zOg (h:o.ok=true):(Lit.int .i64 o.k).wf=true:=by
 obtain ⟨_,h⟩:=zB0 _ _ _ _ h
 exact zHR (by omega) (by omega)
theorem zRY (h:o.ok=true):(Lit.int .i64 (srt o.k o.sd)).wf=true:=by
 obtain ⟨_,h⟩:=zB0 _ _ _ _ h
 have:0<=srt o.k o.sd/\srt o.k o.sd<=1000:=by
  unfold srt
  split
  ·omega
  ·split <;> omega
 exact zHR this.1 this.2
theorem zLg {k:Nat} {c:Int} (hn:zGd 4 xs k) {j0:Nat} (h0:j0<k) (hl:(atO xs j0).l=(atO xs k).l) (hc:srt (atO xs j0).k (atO xs j0).sd=c) :
  (c≠srt (atO xs k).k (atO xs k).sd)↔∃ j,j<k/\cl 4 (atO xs k) (atO xs j):=by
 have H:∀ a b:OpR,cl 4 a b↔(a.l=b.l/\srt a.k a.sd≠srt b.k b.sd):=fun a b=>by simp [cl]
 constructor
 ·intro h
  exact ⟨j0,h0,(H _ _).2 ⟨hl.symm,by rw [hc]; exact h.symm⟩⟩
 ·rintro ⟨j,hj,hh⟩
  obtain ⟨e1,e2⟩:=(H _ _).1 hh
  rw [<- hc]
  intro e
  apply e2
  rw [<- e]
  by_cases e3:j<j0
  ·have:=hn j0 j e3 h0
   rw [H] at this
   exact Classical.byContradiction fun x=>this ⟨by rw [hl,e1],x⟩
  ·by_cases e4:j0<j
   ·have:=hn j j0 e4 hj
    rw [H] at this
    exact Classical.byContradiction fun x=>this ⟨by rw [hl,e1],fun y=>x y.symm⟩
   ·have e5:j=j0:=by omega
    rw [e5]
theorem zJF (bo bs k:Nat) (xs:List OpR) (w:JY) (hi:Idx w bo bs xs k) (Q:zB1 xs (k+1)) (hn:zGd 4 xs k) :
  Calls Tryz.prog 41 #[.agg #[.map (some bo),.map (some bs)],.agg #[.string (atO xs k).s,.int .i64 (atO xs k).k,.int .i64 (atO xs k).l,.int .i64 (atO xs k).sd]] w fun e w'=>(∃ v,e = .returned (.bool v)/\(v=true↔∃ j,j<k/\cl 4 (atO xs k) (atO xs j)))/\Below w.heap.size w w':=by
 obtain ⟨_,⟨D,q,hD⟩,_⟩:=hi
 have h:=Q k (by omega)
 obtain ⟨h1,h2⟩:=hD _ (zE0 h)
 have K:=zPm (zE0 h)
 have y:=zB (show okB (atO xs k).s (atO xs k).k (atO xs k).l (atO xs k).sd=true from h)
 cases hh:Maps.has D (.int .i64 (atO xs k).l)
 ·have Y:=zB (show ¬ ∃ j,j<k/\cl 4 (atO xs k) (atO xs j) from fun ⟨j,hj,hc⟩=>by
   simp only [cl] at hc
   have:=h1.2 ⟨j,hj,hc.1.symm⟩
   rw [hh] at this
   cases this)
  have HK:=zB K
  clear h1 h2 hD Q h K hn
  go_enter Tryz.func41,Tryz.ntmps41
  go_wp2_with (first | (at_lookup; refine wpList_lookup_own_ok_int _ rfl _ _ 59 rfl 3 3 .i64 zNu Tryz.underlying59 Tryz.underlying3 (zMG _) bs k D rfl ((q.alloc _).alloc _) _ _ rfl (zA HK) ?_; intro c H p; have x:=zB H; clear H))
  go_ret
  refine ⟨⟨_,rfl,?_⟩,(zC _ _).alloc (by simp) _⟩
  simp [zA Y]
 ·have X:=zB (show ∀ c:Int,D.atKey (.int .i64 (atO xs k).l) (.lit (.int .i64 0)) = .lit (.int .i64 c)->((c≠srt (atO xs k).k (atO xs k).sd)↔∃ j,j<k/\cl 4 (atO xs k) (atO xs j)) from fun c hc=>by
   obtain ⟨j0,V,J,P⟩:=h2 c hc hh
   exact zLg hn V J P)
  have HK:=zB K
  clear h1 h2 hD Q h K hn
  go_enter Tryz.func41,Tryz.ntmps41
  go_wp2_with (first | (at_lookup; refine wpList_lookup_own_ok_int _ rfl _ _ 59 rfl 3 3 .i64 zNu Tryz.underlying59 Tryz.underlying3 (zMG _) bs k D rfl ((q.alloc _).alloc _) _ _ rfl (zA HK) ?_; intro c H p; have x:=zB H; clear H) | (go_at_call 69; refine (zGc _ _ _ _ _ (zA y)).mono ?_; rintro e w1 ⟨rfl,hb1⟩))
  go_ret
  refine ⟨⟨_,rfl,?_⟩,((zC _ _).alloc (by simp) _).trans (hb1.mono (by simp; omega))⟩
  have:=(zA X) c (zA x)
  rw [<- this]
  simp
structure zAA (w w':JY) (bo bs:Nat):Prop where
 os:w'.os=w.os
 tape:w'.tape=w.tape
 output:w'.output=w.output
 size:w.heap.size<=w'.heap.size
 block:∀ i,i<w.heap.size->i≠bo->i≠bs->w'.heap[i]?=w.heap[i]?
theorem zAA.trans {w w1 w2:JY} {bo bs:Nat} (h:zAA w w1 bo bs) (h':zAA w1 w2 bo bs):zAA w w2 bo bs:=
 ⟨h'.os.trans h.os,h'.tape.trans h.tape,h'.output.trans h.output,yr h.size h'.size,fun i hi a b=>(h'.block i (yi hi h.size) a b).trans (h.block i hi a b)⟩
theorem zAA.of_below (h:Below w.heap.size w w'):zAA w w' bo bs:=⟨h.os,h.tape,h.output,h.size,fun i hi _ _=>h.block i hi⟩
theorem zAA.of_grown1 (h:w.grownBy w' (some bo)):zAA w w' bo bs:=⟨h.os,h.tape,h.output,h.size,fun i hi a _=>h.block i hi (fun e=>a (Option.some.inj e))⟩
theorem zAA.of_grown2 (h:w.grownBy w' (some bs)):zAA w w' bo bs:=⟨h.os,h.tape,h.output,h.size,fun i hi _ b=>h.block i hi (fun e=>b (Option.some.inj e))⟩
theorem zAA.cell {w w':JY} {bo bs:Nat} (h:zAA w w' bo bs) {b:Nat} (hb:b<w.heap.size) (h1:b≠bo) (h2:b≠bs) (o:Nat):w'.cell? ⟨b,o,none⟩=w.cell? ⟨b,o,none⟩:=
 yp (w:=w) (h.block b hb h1 h2)
theorem zAA.below {B:Nat} (h:zAA w w' bo bs) (hB:B<=w.heap.size) (h1:B<=bo) (h2:B<=bs):Below B w w':=
 ⟨h.os,h.tape,h.output,h.size,fun i hi=>h.block i (by omega) (by omega) (by omega)⟩
theorem zOh {k:Nat} {D:DataW Unit} (hm:IsMap D) (hs:(atO xs k).s.size<=maxLen) (hk:(Lit.int .i64 (atO xs k).k).wf=true)
  (h:∀ (s:JZ) (kd:Int),s.size<=maxLen->(Lit.int .i64 kd).wf=true->(Maps.has D (klO s kd)=true↔∃ j,j<k/\(atO xs j).s=s/\(atO xs j).k=kd)/\(Maps.has D (klO s kd)=true->∃ j,j<k/\(atO xs j).s=s/\(atO xs j).k=kd/\D.atKey (klO s kd) (zCb ⟨#[]⟩ 0 0 0)=zCb (atO xs j).s (atO xs j).k (atO xs j).l (atO xs j).sd)) :
  ∀ (s:JZ) (kd:Int),s.size<=maxLen->(Lit.int .i64 kd).wf=true->(Maps.has (D.put (klO (atO xs k).s (atO xs k).k) (zCb (atO xs k).s (atO xs k).k (atO xs k).l (atO xs k).sd)) (klO s kd)=true↔∃ j,j<k+1/\(atO xs j).s=s/\(atO xs j).k=kd)/\(Maps.has (D.put (klO (atO xs k).s (atO xs k).k) (zCb (atO xs k).s (atO xs k).k (atO xs k).l (atO xs k).sd)) (klO s kd)=true->∃ j,j<k+1/\(atO xs j).s=s/\(atO xs j).k=kd/\(D.put (klO (atO xs k).s (atO xs k).k) (zCb (atO xs k).s (atO xs k).k (atO xs k).l (atO xs k).sd)).atKey (klO s kd) (zCb ⟨#[]⟩ 0 0 0)=zCb (atO xs j).s (atO xs j).k (atO xs j).l (atO xs j).sd):=by
 intro s kd K H
 by_cases e:klO s kd=klO (atO xs k).s (atO xs k).k
 ·obtain ⟨e1,e2⟩:=zPl K hs H hk e
  rw [e,has_put_same hm (zNt.key (zMt hs hk)),atKey_put_same hm (zNt.key (zMt hs hk))]
  exact ⟨⟨fun _=>⟨k,by omega,e1.symm,e2.symm⟩,fun _=>rfl⟩,fun _=>⟨k,by omega,e1.symm,e2.symm,rfl⟩⟩
 ·rw [has_put_other e,atKey_put_other e]
  obtain ⟨h1,h2⟩:=h s kd K H
  refine ⟨?_,fun hh=>?_⟩
  ·rw [h1]
   constructor
   ·rintro ⟨j,a,b,c⟩; exact ⟨j,by omega,b,c⟩
   ·rintro ⟨j,a,b,c⟩
    by_cases ej:j=k
    ·subst ej; exact yP (by rw [b,c]) e
    ·exact ⟨j,by omega,b,c⟩
  ·obtain ⟨j,a,b,c,d⟩:=h2 hh
   exact ⟨j,by omega,b,c,d⟩
theorem zM5 {k:Nat} {D:DataW Unit} (hm:IsMap D) (hl:(Lit.int .i64 (atO xs k).l).wf=true)
  (h:∀ l:Int,(Lit.int .i64 l).wf=true->(Maps.has D (.int .i64 l)=true↔∃ j,j<k/\(atO xs j).l=l) /\
   ∀ c:Int,D.atKey (.int .i64 l) (.lit (.int .i64 0)) = .lit (.int .i64 c)->Maps.has D (.int .i64 l)=true->∃ j,j<k/\(atO xs j).l=l/\srt (atO xs j).k (atO xs j).sd=c) :
  ∀ l:Int,(Lit.int .i64 l).wf=true->(Maps.has (D.put (.int .i64 (atO xs k).l) (.lit (.int .i64 (srt (atO xs k).k (atO xs k).sd)))) (.int .i64 l)=true↔∃ j,j<k+1/\(atO xs j).l=l) /\
   ∀ c:Int,(D.put (.int .i64 (atO xs k).l) (.lit (.int .i64 (srt (atO xs k).k (atO xs k).sd)))).atKey (.int .i64 l) (.lit (.int .i64 0)) = .lit (.int .i64 c)->Maps.has (D.put (.int .i64 (atO xs k).l) (.lit (.int .i64 (srt (atO xs k).k (atO xs k).sd)))) (.int .i64 l)=true->∃ j,j<k+1/\(atO xs j).l=l/\srt (atO xs j).k (atO xs j).sd=c:=by
 intro l H
 by_cases e:l=(atO xs k).l
 ·subst e
  rw [has_put_same hm (zNu.key (zPm hl)),atKey_put_same hm (zNu.key (zPm hl))]
  refine ⟨⟨fun _=>⟨k,by omega,rfl⟩,fun _=>rfl⟩,fun c hc _=>⟨k,by omega,rfl,by simpa using hc⟩⟩
 ·have e':Lit.int .i64 l≠Lit.int .i64 (atO xs k).l:=fun x=>e (by simpa using x)
  rw [has_put_other e',atKey_put_other e']
  obtain ⟨h1,h2⟩:=h l H
  refine ⟨?_,fun c hc hh=>?_⟩
  ·rw [h1]
   constructor
   ·rintro ⟨j,a,b⟩; exact ⟨j,by omega,b⟩
   ·rintro ⟨j,a,b⟩
    by_cases ej:j=k
    ·subst ej; exact yP b.symm e
    ·exact ⟨j,by omega,b⟩
  ·obtain ⟨j,a,b,d⟩:=h2 c hc hh
   exact ⟨j,by omega,b,d⟩
end Go.Proofs.YtgbkgkdpdfdokaaGreatDoor
