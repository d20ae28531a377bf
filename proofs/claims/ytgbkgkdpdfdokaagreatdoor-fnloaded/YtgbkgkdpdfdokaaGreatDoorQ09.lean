import Derived.Test.YtgbkgkdpdfdokaaGreatDoorQ08
namespace Go.Proofs.YtgbkgkdpdfdokaaGreatDoor
set_option linter.all false
set_option maxHeartbeats 16000000
set_option maxRecDepth 100000
open Go.RowKit
variable {B U b f g i k n:Nat} {l s sd t:ByteArray} {os:List OpR} {p:Nat × Nat} {r:List (Nat × Nat)} {rs:List Nat} {u v v4 vo vu:Value} {us us' ws:List ByteArray} {w w' w1 w4:World}
def zF3 (s:JZ) (k f:Nat) (us:List JZ):Prop:=
 (k<=s.size/\f<=k/\(∀ j,f<=j->j<k->bt s j≠32)/\us++zBq s f=wds s)\/(k=s.size+1/\us=wds s)
theorem zF3.start (s:JZ):zF3 s 0 0 []:=yQ ⟨yj _,yh _,fun j h1 h2=>by omega,rfl⟩
theorem zF3.skip (h:zF3 s k f us) (hk:k<s.size) (hb:bt s k≠32):zF3 s (k+1) f us:=by
 rcases h with ⟨h1,h2,h3,h4⟩ | ⟨h1,_⟩
 ·refine yQ ⟨by omega,by omega,fun j j1 j2=>?_,h4⟩
  by_cases e:j=k
  ·subst e; exact hb
  ·exact h3 j j1 (by omega)
 ·omega
def zKB (s:JZ) (f k:Nat) (us:List JZ):List ByteArray:=us++(if f<k then [s.extract f k] else [])
theorem zOC (h:f<k):zKB s f k us=us++[s.extract f k]:=by unfold zKB; rw [yO h]
theorem zPv (h:¬ f<k):zKB s f k us=us:=by unfold zKB; rw [yN h]; simp
theorem zF3.put (h:zF3 s k f us) (hk:k<=s.size) (hb:k=s.size\/bt s k=32):zF3 s (k+1) (k+1) (zKB s f k us):=by
 rcases h with ⟨h1,h2,h3,h4⟩ | ⟨h1,_⟩
 ·have hx:nx 32 s f=k:=zK0 (by omega) h2 h1 h3 (fun hl=>hb.elim (fun e=>by omega) (fun e=>e))
  rw [zCk s f (by omega),hx] at h4
  unfold zKB
  by_cases hl:k<s.size
  ·rw [yO hl,<- yx] at h4
   exact yQ ⟨by omega,yh _,fun j j1 j2=>by omega,h4⟩
  ·rw [yN hl,List.append_nil] at h4
   exact yR ⟨by omega,h4⟩
 ·omega
theorem zF3.fin (h:zF3 s k f us) (hk:¬ k<=s.size):us=wds s:=by
 rcases h with ⟨h1,_⟩ | ⟨_,h⟩
 ·omega
 ·exact h
theorem zLJ (w:JY):zZ (w.alloc (.cells #[] 9)) w.heap.size (.slice (some ⟨w.heap.size,0,none⟩) 0 0) []:=by
 have:=yD (base:=w.heap.size) (e:=9) (size:=1) w #[] 0 (yh _) (yj _) rfl
 simpa [zZ,zI] using this
def zMQ (w:JY) (s:JZ) (e:Ending) (w':JY):Prop:=∃ v,e = .returned v/\zZ w' w.heap.size v (wds s)/\(wds s).length<=s.size+1/\Below w.heap.size w w'
theorem zKC (s:JZ) (w:JY) (hs:s.size<=1000000) :
  Calls Tryz.prog 54 #[.string s] w (zMQ w s):=by
 obtain ⟨i0,V,b,c,C⟩:=zN zCL
 have HI:=zB V
 have HZ:=zB (yH b (yH c C))
 clear V b c C
 have HE:=zB (zLJ w)
 go_enter Tryz.func54,Tryz.ntmps54
 go_wp2
 go_loopw [3,4,5] (fun out fr i wr=>∃ (k f:Nat) (us:List JZ) (v:Value),k<=s.size+1/\f<=k/\i = .int .i64 (k:Int)/\fr = .int .i64 (f:Int)/\out=v/\us.length<=k/\Hid (zF3 s k f us)/\Hid (zZ wr w.heap.size v us)/\Below w.heap.size w wr) (fun _ _ i _=>s.size+1-(intOf i).toNat)
 case atStart=>exact ⟨0,0,[],_,yj _,yh _,rfl,rfl,rfl,yj _,zB (zF3.start s),HE,zC _ _⟩
 case round=>
  clear HE
  obtain ⟨k,f,us,v,hk,hf,rfl,rfl,rfl,E,HW,HR,H⟩:=hrel
  by_cases u:k<=s.size
  ·have B:(k:Int)<=(s.size:Int):=by omega
   by_cases K:k=s.size\/bt s k=32
   ·have HP:=zB ((zA HW).put u K)
    have y:((k:Int)==(s.size:Int))=true\/(((k:Int)==(s.size:Int))=false/\∃ (h:k<s.size),((s[k].toNat:Int)==32)=true):=by
     by_cases e:k=s.size
     ·left; simp [e]
     ·right
      have Q:k<s.size:=by omega
      refine ⟨by simp; omega,Q,?_⟩
      have hb:bt s k=32:=K.elim (fun h=>yP h e) (fun h=>h)
      rw [ZP Q,hb]; rfl
    clear K
    by_cases U:f<k
    ·have a:(f:Int)<(k:Int):=by omega
     have D:(f:Int)<=(s.size:Int):=by omega
     have Y:=zB (zOC (s:=s) (us:=us) U)
     rcases y with hc | ⟨hc,Q,A⟩
     all_goals
      try have j:(k:Int)<(s.size:Int):=(by omega)
      go_wp2_with (at_builtin; refine yJ _ rfl (.tmp 26) (.tmp 31) 39 rfl w.heap.size 9 i0 _ 1 16 Tryz.underlying39 (zA HI) (zA HZ).1 (zA HZ).2.1 (zA HZ).2.2 rfl (by decide) _ us.length (zI us) rfl ((zA HR).below (zC _ _)) ⟨wr.heap.size,0,none⟩ 1 1 (zI [s.extract f k]) rfl rfl (by simpa using ZG wr (s.extract f k)) (zT _) ?b1 ?b2 ?b3 ?next)
      case b1=>unfold maxLen; omega
      case b2=>omega
      case b3=>have:=H.size; simp; omega
      case next=>
       intro v4 w4 X x J P
       have HO:=zB (show zZ w4 w.heap.size v4 (zKB s f k us) by
        rw [zA Y]
        unfold zZ
        rw [Zx,ym]
        exact X)
       have d:(zKB s f k us).length<=k+1:=by rw [zA Y]; simp; omega
       have p:Below w.heap.size w w4:=(H.alloc H.size _).grown x (by have:=H.size; simp; omega) (fun q hq=>((zA HR).lt q hq).1)
       clear X x J P
       go_wp2
       exact ⟨⟨k+1,k+1,_,_,by omega,yh _,by go_num,by go_num,rfl,d,HP,HO,p⟩,by simp [intOf]; omega⟩
    ·have a:¬ (f:Int)<(k:Int):=by omega
     have Y:=zB (zPv (s:=s) (us:=us) U)
     rcases y with hc | ⟨hc,Q,A⟩
     all_goals
      try have j:(k:Int)<(s.size:Int):=(by omega)
      go_wp2
      refine ⟨⟨k+1,k+1,us,_,by omega,yh _,by go_num,by go_num,rfl,by omega,?_,HR,H⟩,by simp [intOf]; omega⟩
      have:=zA HP
      rw [zA Y] at this
      exact zB this
   ·have Q:k<s.size:=by omega
    have j:(k:Int)<(s.size:Int):=by omega
    have hb:bt s k≠32:=fun e=>K (yR e)
    have HP:=zB ((zA HW).skip Q hb)
    have hc:((k:Int)==(s.size:Int))=false:=by simp; omega
    have A:((s[k].toNat:Int)==32)=false:=by
     rw [ZP Q]
     simp only [yU,ne_eq]
     intro e
     exact hb (UInt8.toNat_inj.1 (by simpa using (by omega:(bt s k).toNat=32)))
    clear hb K
    go_wp2
    exact ⟨⟨k+1,f,us,_,by omega,by omega,by go_num,rfl,rfl,by omega,HP,HR,H⟩,by simp [intOf]; omega⟩
  ·have B:¬ (k:Int)<=(s.size:Int):=by omega
   have HF:=zB ((zA HW).fin u)
   go_wp2
   go_ret
   have e:=zA HF
   subst e
   exact ⟨_,rfl,zA HR,by omega,H⟩
def zq (w:JY) (v:Value) (ws:List JZ):Prop:=∃ a c,v = .slice a ws.length c/\(ws.length=0\/∃ g,a=some ⟨g,0,none⟩/\g<w.heap.size/\∀ (j:Nat) x,ws[j]?=some x->w.cell? ⟨g,j,none⟩=some (.string x))
theorem zZ.strs (h:zZ w B v ws):zq w v ws:=by
 obtain ⟨a,c,rfl⟩:=zO h
 refine ⟨a,c,rfl,?_⟩
 have h':=h
 obtain ⟨_,⟨h1,h2⟩ | ⟨g,cap,H,h1,_⟩⟩:=h'
 ·exact yQ h2
 ·simp only [Value.slice.injEq] at h1
  obtain ⟨rfl,_,rfl⟩:=h1
  exact yR ⟨g,rfl,(h.lt g rfl).2,fun j x hj=>by have:=h.cells j x hj; simpa using this⟩
theorem zq.grown {row:Option Nat} (h:zq w v ws) (hg:w.grownBy w' row) (H:∀ g,v.ownBlock=some g->row≠some g):zq w' v ws:=by
 obtain ⟨a,c,rfl,h⟩:=h
 refine ⟨a,c,rfl,h.imp id ?_⟩
 rintro ⟨g,rfl,h1,h2⟩
 exact ⟨g,rfl,yi h1 hg.size,fun j x hj=>(zE hg h1 (H g rfl) j).trans (h2 j x hj)⟩
theorem zq.below (h:zq w v ws) (hb:Below w.heap.size w w'):zq w' v ws:=
 h.grown (row:=none) (zH hb none) (fun g _ e=>by cases e)
theorem zq.lt (h:zq w v ws) (h1:1<=ws.length):∃ g c,v = .slice (some ⟨g,0,none⟩) ws.length c/\g<w.heap.size/\∀ (j:Nat) x,ws[j]?=some x->w.cell? ⟨g,j,none⟩=some (.string x):=by
 obtain ⟨a,c,rfl,h | ⟨g,rfl,h2,h3⟩⟩:=h
 ·omega
 ·exact ⟨g,c,rfl,h2,h3⟩
structure LnR where
 wv:Value
 f:Nat
 t:Nat
def atL (ls:List LnR) (i:Nat):LnR:=ls.getD i ⟨.slice none 0 0,0,0⟩
def Z1 (zs:List LnR):List Value:=zs.flatMap fun x=>[x.wv,.int .i64 (x.f:Int),.int .i64 (x.t:Int)]
theorem zG6 (xs ys:List LnR):Z1 (xs++ys)=Z1 xs++Z1 ys:=by simp [Z1]
theorem zG7:∀ (zs:List LnR) (i:Nat),i<zs.length->(Z1 zs)[i*3]?=some (atL zs i).wv/\(Z1 zs)[i*3+1]?=some (.int .i64 ((atL zs i).f:Int))/\(Z1 zs)[i*3+2]?=some (.int .i64 ((atL zs i).t:Int))
 | [],i,h=>yP h (yt i)
 | o::r,0,_=>⟨rfl,rfl,rfl⟩
 | o::r,i+1,h=>by
  have ih:=zG7 r i (by simpa using h)
  have e:∀ j,(Z1 (o::r))[(i+1)*3+j]?=(Z1 r)[i*3+j]?:=fun j=>by
   have:(i+1)*3+j=(i*3+j)+3:=by omega
   rw [this]
   rfl
  exact ⟨(e 0).trans ih.1,(e 1).trans ih.2.1,(e 2).trans ih.2.2⟩
theorem zRH:(Tryz.prog.info? 72).map (fun i=>(i.zero,i.size,i.bytes))=some (some (.agg #[.slice none 0 0,.int .i64 0,.int .i64 0]),3,40):=by kernel_rfl
theorem zLK (w:JY) (x:LnR):∀ j u,(Z1 [x])[j]?=some u->(w.alloc (.cells #[x.wv,.int .i64 (x.f:Int),.int .i64 (x.t:Int)] 72)).cell? ((⟨w.heap.size,0,none⟩:Addr).add j)=some u:=by
 intro j u hj
 rw [Addr.add_mid]
 have:=yz (w:=w.alloc (.cells #[x.wv,.int .i64 (x.f:Int),.int .i64 (x.t:Int)] 72)) (b:=w.heap.size) (heap_alloc_new w _) 0 3
 exact this j u (by simpa [Z1] using hj)
def zF4 (w:JY) (B:Nat) (u:Value) (ls:List LnR):Prop:=w.ownsRow B 72 3 u ls.length (Z1 ls)
theorem zF4.below {us:List LnR} (h:zF4 w B u us) (hb:Below w.heap.size w w'):zF4 w' B u us:=
 World.ownsRow.kept h (zH hb none) (by cases u.ownBlock with
 | none=>exact yQ rfl
 | some k=>exact yR (by simp))
theorem zF4.lt {w:JY} {B:Nat} {u:Value} {us:List LnR} (h:zF4 w B u us):∀ g,u.ownBlock=some g->B<=g/\g<w.heap.size:=fun g hg=>World.ownsRow.lt h g hg
def zMw (w:JY) (g:Nat) (ls:List LnR):Prop:=∀ i,i<ls.length->w.cell? ⟨g,i*3,none⟩=some (atL ls i).wv/\w.cell? ⟨g,i*3+1,none⟩=some (.int .i64 ((atL ls i).f:Int))/\w.cell? ⟨g,i*3+2,none⟩=some (.int .i64 ((atL ls i).t:Int))
theorem zMw.below {ls:List LnR} (h:zMw w g ls) (hb:Below B w w') (hB:g<B):zMw w' g ls:=fun i hi=>by
 obtain ⟨h0,h1,h2⟩:=h i hi
 exact ⟨(hb.cell (p:=⟨g,_,none⟩) hB).trans h0,(hb.cell (p:=⟨g,_,none⟩) hB).trans h1,(hb.cell (p:=⟨g,_,none⟩) hB).trans h2⟩
theorem zF4.ops {c:Nat} {us:List LnR} (h:zF4 w B (.slice (some ⟨g,0,none⟩) us.length c) us):zMw w g us:=fun i hi=>by
 obtain ⟨c0,c1,c2⟩:=zG7 us i hi
 have e:=fun j (hj:j<3)=>World.ownsRow.cellAt h (i*3+j) (by omega)
 exact ⟨by simpa using (e 0 (by omega)).trans c0,by simpa using (e 1 (by omega)).trans c1,by simpa using (e 2 (by omega)).trans c2⟩
def zKD (w:JY) (s:JZ) (v:Value) (ls:List LnR):Prop:=∀ l∈ls,zq w l.wv (wds (s.extract l.f l.t))/\∀ g,l.wv.ownBlock=some g->v.ownBlock≠some g/\g<w.heap.size
theorem zKD.step {nv:Value} {ls:List LnR} {t:Nat} (h:zKD w s v ls) (hb:Below w.heap.size w w1) (hv:∀ g,v.ownBlock=some g->g<w.heap.size) (hn:zq w1 nv (wds (s.extract f t))) (H:∀ g,nv.ownBlock=some g->w.heap.size<=g/\g<w1.heap.size)
  (hg:w1.grownBy w4 v.ownBlock) (q:v4.ownBlock=v.ownBlock\/∃ k,v4.ownBlock=some k/\w1.heap.size<=k):zKD w4 s v4 (ls++[⟨nv,f,t⟩]):=by
 have K:∀ g,g<w1.heap.size->v.ownBlock≠some g->v4.ownBlock≠some g:=fun g h1 h2 e=>by
  rcases q with h | ⟨k,h,hk⟩
  ·exact h2 (h.symm.trans e)
  ·rw [h] at e; injection e with e; omega
 have hz:=hb.size
 have Q:=hg.size
 intro l hl
 rcases List.mem_append.1 hl with hl | hl
 ·obtain ⟨h1,h2⟩:=h l hl
  refine ⟨(h1.below hb).grown hg (fun g e=>(h2 g e).1),fun g e=>⟨K g ?_ (h2 g e).1,?_⟩⟩
  ·have:=(h2 g e).2; omega
  ·have:=(h2 g e).2; omega
 ·simp only [List.mem_singleton] at hl
  subst hl
  have hx:∀ g,nv.ownBlock=some g->v.ownBlock≠some g:=fun g e e2=>by
   have:=hv g e2
   have:=(H g e).1
   omega
  refine ⟨hn.grown hg hx,fun g e=>⟨K g (H g e).2 (hx g e),?_⟩⟩
  have:=(H g e).2
  omega
def Zv (n:Nat) (k t l sd:JZ):Option OpR:=
 if zDX l=true then
  (
   if k=zAB/\n=3 then some ⟨t,1,(Zy l l.size:Int),0⟩
   else if k=Zk/\n=3 then some ⟨t,3,(Zy l l.size:Int),0⟩
   else if k=zAx/\n=4/\Zh sd≠0 then some ⟨t,2,(Zy l l.size:Int),Zh sd⟩ else none)
 else none
theorem zG8 (t:JZ):Zh t=0\/Zh t=1\/Zh t=2\/Zh t=3:=by
 unfold Zh
 split
 ·exact yR (yQ rfl)
 ·split
  ·exact yR (yR (yQ rfl))
  ·split
   ·exact yR (yR (yR rfl))
   ·exact yQ rfl
theorem zKE (h:3<=ws.length):∃ k t l r,ws=k::t::l::r:=by
 match ws,h with
 | k::t::l::r,_=>exact ⟨k,t,l,r,rfl⟩
theorem zOD {k:JZ} {r:List JZ} (hr:r=[]\/∃ r',r=sd::r'):(∀ o,Zv (r.length+3) k t l sd=some o->OpW (k::t::l::r) o)/\(Zv (r.length+3) k t l sd=none->∀ o,¬ OpW (k::t::l::r) o):=by
 unfold Zv
 constructor
 ·intro o h
  split at h
  ·rename_i hl
   have hL:=(zCd l).1 hl
   split at h
   ·rename_i hk
    injection h with h
    have:r=[]:=yY.1 (by omega)
    subst this
    exact ⟨k,t,l,hL,yQ ⟨rfl,yQ ⟨hk.1,h.symm⟩⟩⟩
   ·split at h
    ·rename_i hk
     injection h with h
     have:r=[]:=yY.1 (by omega)
     subst this
     exact ⟨k,t,l,hL,yQ ⟨rfl,yR ⟨hk.1,h.symm⟩⟩⟩
    ·split at h
     ·rename_i hk
      injection h with h
      rcases hr with rfl | ⟨r',rfl⟩
      ·simp at hk
      ·have:r'=[]:=yY.1 (by have h9:=hk.2.1; simp only [yv] at h9; omega)
       subst this
       exact ⟨k,t,l,hL,yR ⟨sd,rfl,hk.1,hk.2.2,h.symm⟩⟩
     ·cases h
  ·cases h
 ·rintro h o ⟨k',t',l',hL,h2⟩
  have H:=fun (e:l=l')=>(zCd l).2 (e ▸ hL)
  rcases h2 with ⟨e,h2⟩ | ⟨sd',e,h2,h3,h4⟩
  ·simp only [List.cons.injEq] at e
   obtain ⟨rfl,rfl,rfl,rfl⟩:=e
   rw [yO (H rfl)] at h
   rcases h2 with ⟨hk,_⟩ | ⟨hk,_⟩
   ·rw [yO ⟨hk,rfl⟩] at h; cases h
   ·rw [yN (fun x=>by rw [hk] at x; exact yP x.1 (by decide)),yO ⟨hk,rfl⟩] at h; cases h
  ·simp only [List.cons.injEq] at e
   obtain ⟨rfl,rfl,rfl,rfl⟩:=e
   have:sd=sd':=by
    rcases hr with h | ⟨r',h⟩
    ·cases h
    ·simp only [List.cons.injEq] at h; exact h.1.symm
   subst this
   rw [yO (H rfl),yN (fun x=>by rw [h2] at x; exact yP x.1 (by decide)),yN (fun x=>by rw [h2] at x; exact yP x.1 (by decide)),yO ⟨h2,rfl,h3⟩] at h
   cases h
def zC2 (w:JY) (b:Nat) (o:OpR):Prop:=
 (w.cell? ⟨b,0,none⟩=some (.string o.s)/\w.cell? ⟨b,1,none⟩=some (.int .i64 o.k)/\w.cell? ⟨b,2,none⟩=some (.int .i64 o.l)/\w.cell? ⟨b,3,none⟩=some (.int .i64 o.sd)) /\
  (w.frozen? ⟨b,0,none⟩=false/\w.frozen? ⟨b,1,none⟩=false/\w.frozen? ⟨b,2,none⟩=false/\w.frozen? ⟨b,3,none⟩=false)
theorem zC2.below {o:OpR} (h:zC2 w b o) (hb:Below B w w') (hB:b<B):zC2 w' b o:=by
 obtain ⟨⟨h0,h1,h2,h3⟩,g0,g1,g2,g3⟩:=h
 have e:=fun j=>hb.cell (p:=⟨b,j,none⟩) hB
 have f:=fun j=>hb.frozen (p:=⟨b,j,none⟩) hB
 exact ⟨⟨(e 0).trans h0,(e 1).trans h1,(e 2).trans h2,(e 3).trans h3⟩,(f 0).trans g0,(f 1).trans g1,(f 2).trans g2,(f 3).trans g3⟩
def zI9 (w:JY) (n:Nat) (k t l sd:JZ) (e:Ending) (w':JY):Prop:=
 ∃ (o:OpR) (v:Bool),e = .returned (.tuple #[.agg #[.string o.s,.int .i64 o.k,.int .i64 o.l,.int .i64 o.sd],.bool v])/\((v=true/\Zv n k t l sd=some o)\/(v=false/\Zv n k t l sd=none))/\Below w.heap.size w w'
theorem zKF {k:JZ} (h:zDX l=false):Zv n k t l sd=none:=by
 unfold Zv; rw [h]; rfl
theorem zG9 {k:JZ} (h:zDX l=true) (hk:k=zAB):Zv n k t l sd=if n=3 then some ⟨t,1,(Zy l l.size:Int),0⟩ else none:=by
 subst hk
 unfold Zv
 rw [yO h]
 by_cases hn:n=3
 ·rw [yO ⟨rfl,hn⟩,yO hn]
 ·rw [yN (fun x=>hn x.2),yN (fun x=>hn x.2),yN (fun x=>yP x.1 (by decide)),yN hn]
theorem zFp {k:JZ} (h:zDX l=true) (hk:k=Zk):Zv n k t l sd=if n=3 then some ⟨t,3,(Zy l l.size:Int),0⟩ else none:=by
 subst hk
 unfold Zv
 rw [yO h]
 by_cases hn:n=3
 ·rw [yN (fun x=>yP x.1 (by decide)),yO ⟨rfl,hn⟩,yO hn]
 ·rw [yN (fun x=>hn x.2),yN (fun x=>hn x.2),yN (fun x=>yP x.1 (by decide)),yN hn]
theorem zIQ {k:JZ} (h:zDX l=true) (hk:k=zAx):Zv n k t l sd=if n=4/\Zh sd≠0 then some ⟨t,2,(Zy l l.size:Int),Zh sd⟩ else none:=by
 subst hk
 unfold Zv
 rw [yO h,yN (fun x=>yP x.1 (by decide)),yN (fun x=>yP x.1 (by decide))]
 by_cases hn:n=4/\Zh sd≠0
 ·rw [yO ⟨rfl,hn⟩,yO hn]
 ·rw [yN (fun x=>hn x.2),yN hn]
theorem zIR {k:JZ} (h1:k≠zAB) (h2:k≠Zk) (h3:k≠zAx):Zv n k t l sd=none:=by
 unfold Zv
 split
 ·rw [yN (fun x=>h1 x.1),yN (fun x=>h2 x.1),yN (fun x=>h3 x.1)]
 ·rfl
def Zw (w:JY) (B:Nat) (v:Value) (os:List OpR):Prop:=w.ownsRow B 57 4 v os.length (zU os)
theorem Zw.grown {us:List OpR} {row:Option Nat} (h:Zw w B u us) (hg:w.grownBy w' row) (H:∀ k,u.ownBlock=some k->row≠some k):Zw w' B u us:=
 World.ownsRow.kept h hg (by
  cases e:u.ownBlock with
  | none=>exact yQ rfl
  | some k=>exact yR (fun x=>H k e x.symm))
theorem Zw.below {us:List OpR} (h:Zw w B u us) (hb:Below w.heap.size w w'):Zw w' B u us:=
 h.grown (row:=none) (zH hb none) (fun k _ e=>by cases e)
theorem Zw.lt {w:JY} {B:Nat} {u:Value} {us:List OpR} (h:Zw w B u us):∀ g,u.ownBlock=some g->B<=g/\g<w.heap.size:=fun g hg=>World.ownsRow.lt h g hg
structure UnM (w:JY) (B U:Nat) (vu vo:Value) (us:List JZ) (os:List OpR) (b:JZ):Prop where
 c0:w.cell? ⟨U,0,none⟩=some vu
 c1:w.cell? ⟨U,1,none⟩=some vo
 c2:w.cell? ⟨U,2,none⟩=some (.string b)
 fz:∀ o,w.frozen? ⟨U,o,none⟩=false
 hB:B<=U
 ru:zZ w B vu us
 ro:Zw w B vo os
 nu:vu.ownBlock≠some U
 no:vo.ownBlock≠some U
 ne:∀ g,vu.ownBlock=some g->vo.ownBlock≠some g
theorem UnM.lt {b:JZ} (h:UnM w B U vu vo us os b):U<w.heap.size:=World.block_lt_of_cell? _ _ h.c0
theorem UnM.below {w w':JY} {B U:Nat} {vu vo:Value} {us:List JZ} {os:List OpR} {b:JZ} (h:UnM w B U vu vo us os b) (hb:Below w.heap.size w w'):UnM w' B U vu vo us os b:=
 ⟨(hb.cell (p:=⟨U,0,none⟩) h.lt).trans h.c0,(hb.cell (p:=⟨U,1,none⟩) h.lt).trans h.c1,(hb.cell (p:=⟨U,2,none⟩) h.lt).trans h.c2,fun o=>(hb.frozen (p:=⟨U,o,none⟩) h.lt).trans (h.fz o),h.hB,h.ru.below hb,h.ro.below hb,h.nu,h.no,h.ne⟩
theorem zv {row:Option Nat} (h:w.grownBy w' row) (hb:b<w.heap.size) (H:row≠some b) (o:Nat):w'.frozen? ⟨b,o,none⟩=w.frozen? ⟨b,o,none⟩:=
 yA (w:=w) (h.block b hb (fun e=>H e.symm))
theorem zf (W:JY) (p o:Nat) (V:Value):W.grownBy (W.setCell ⟨p,o,none⟩ V) (some p):=
 ⟨rfl,rfl,rfl,by simp [World.setCell],fun i _ hi=>yZ _ _ _ _ (fun e=>hi (by rw [e]))⟩
theorem UnM.keep {b:JZ} (h:UnM w B U vu vo us os b) (hb:Below w.heap.size w w1) (hv:v=vu\/v=vo) (hg:w1.grownBy w4 v.ownBlock):(∀ o,w4.cell? ⟨U,o,none⟩=w.cell? ⟨U,o,none⟩)/\(∀ o,w4.frozen? ⟨U,o,none⟩=false):=by
 have hl:=h.lt
 have H:v.ownBlock≠some U:=by
  rcases hv with rfl | rfl
  ·exact h.nu
  ·exact h.no
 have k:U<w1.heap.size:=yi hl hb.size
 exact ⟨fun o=>(zE hg k H o).trans (hb.cell (p:=⟨U,o,none⟩) hl),fun o=>(zv hg k H o).trans ((hb.frozen (p:=⟨U,o,none⟩) hl).trans (h.fz o))⟩
theorem zOE {H:Nat} (h:v4.ownBlock=v.ownBlock\/∃ k,v4.ownBlock=some k/\H<=k) (hv:v.ownBlock≠some U) (hU:U<H):v4.ownBlock≠some U:=fun e=>by
 rcases h with h | ⟨k,hk,K⟩
 ·exact hv (h.symm.trans e)
 ·rw [hk] at e; injection e with e; omega
theorem UnM.putU {b:JZ} (h:UnM w B U vu vo us os b) (hb:Below w.heap.size w w1) (hg:w1.grownBy w4 vu.ownBlock) (hr:zZ w4 B v4 us') (H:v4.ownBlock=vu.ownBlock\/∃ k,v4.ownBlock=some k/\w1.heap.size<=k) :
  UnM (w4.setCell ⟨U,0,none⟩ v4) B U v4 vo us' os b/\Below B w (w4.setCell ⟨U,0,none⟩ v4):=by
 obtain ⟨kc,kf⟩:=h.keep hb (yQ rfl) hg
 have hl:=h.lt
 have hz:=hb.size
 have q:=h.hB
 have X:=fun k e=>(h.ru.lt k e)
 have y:=fun k e=>(h.ro.lt k e)
 have h4:=zOE H h.nu (by omega)
 have K:Zw w4 B vo os:=(h.ro.below hb).grown hg (fun k e1 e2=>h.ne k e2 e1)
 have Q:Below B w w4:=(hb.mono (by omega)).grown hg (by omega) (fun k e=>(X k e).1)
 refine ⟨⟨yo _ _ _ ((kc 0).trans h.c0),(yg _ _ _ _ (by simp)).trans ((kc 1).trans h.c1),(yg _ _ _ _ (by simp)).trans ((kc 2).trans h.c2),fun o=>(yq _ _ _ _).trans (kf o),q,hr.grown (zf _ U 0 _) (fun k e x=>h4 (e.trans x.symm)),K.grown (zf _ U 0 _) (fun k e x=>h.no (e.trans x.symm)),h4,h.no,fun g e e2=>?_⟩,Q.setCell (p:=⟨U,0,none⟩) q _⟩
 rcases H with H | ⟨k,hk,Y⟩
 ·exact h.ne g (H.symm.trans e) e2
 ·rw [hk] at e; injection e with e; have:=(y g e2).2; omega
theorem UnM.putO {os':List OpR} {b:JZ} (h:UnM w B U vu vo us os b) (hb:Below w.heap.size w w1) (hg:w1.grownBy w4 vo.ownBlock) (hr:Zw w4 B v4 os') (H:v4.ownBlock=vo.ownBlock\/∃ k,v4.ownBlock=some k/\w1.heap.size<=k) :
  UnM (w4.setCell ⟨U,1,none⟩ v4) B U vu v4 us os' b/\Below B w (w4.setCell ⟨U,1,none⟩ v4):=by
 obtain ⟨kc,kf⟩:=h.keep hb (yR rfl) hg
 have hl:=h.lt
 have hz:=hb.size
 have q:=h.hB
 have X:=fun k e=>(h.ru.lt k e)
 have y:=fun k e=>(h.ro.lt k e)
 have h4:=zOE H h.no (by omega)
 have K:zZ w4 B vu us:=(h.ru.below hb).grown hg (fun k e1 e2=>h.ne k e1 e2)
 have Q:Below B w w4:=(hb.mono (by omega)).grown hg (by omega) (fun k e=>(y k e).1)
 refine ⟨⟨(yg _ _ _ _ (by simp)).trans ((kc 0).trans h.c0),yo _ _ _ ((kc 1).trans h.c1),(yg _ _ _ _ (by simp)).trans ((kc 2).trans h.c2),fun o=>(yq _ _ _ _).trans (kf o),q,K.grown (zf _ U 1 _) (fun k e x=>h.nu (e.trans x.symm)),hr.grown (zf _ U 1 _) (fun k e x=>h4 (e.trans x.symm)),h.nu,h4,fun g e e2=>?_⟩,Q.setCell (p:=⟨U,1,none⟩) q _⟩
 rcases H with H | ⟨k,hk,Y⟩
 ·exact h.ne g e (H.symm.trans e2)
 ·rw [hk] at e2; injection e2 with e2; have:=(X g e).2; omega
def zLL (w:JY) (ws:List JZ) (e:Ending) (w':JY):Prop:=
 ∃ (o:OpR) (v:Bool),e = .returned (.tuple #[.agg #[.string o.s,.int .i64 o.k,.int .i64 o.l,.int .i64 o.sd],.bool v])/\((v=true/\OpW ws o)\/(v=false/\∀ o',¬ OpW ws o'))/\Below w.heap.size w w'
theorem zMR (F:FuncId) (v:Value) (ws:List JZ) (w:JY) (hs:zq w v ws) (hz:∀ x∈ws,x.size<=maxLen)
  (few:∀ (a:Option Addr) (c n:Nat) (w:JY),n<3->Calls Tryz.prog F #[.slice a n c] w fun e w'=>(∃ o:OpR,e = .returned (.tuple #[.agg #[.string o.s,.int .i64 o.k,.int .i64 o.l,.int .i64 o.sd],.bool false]))/\Below w.heap.size w w')
  (core:∀ (g c n:Nat) (k t l sd:JZ) (w:JY),3<=n->l.size<=maxLen->w.cell? ⟨g,0,none⟩=some (.string k)->w.cell? ⟨g,1,none⟩=some (.string t)->w.cell? ⟨g,2,none⟩=some (.string l)->(4<=n->w.cell? ⟨g,3,none⟩=some (.string sd))->Calls Tryz.prog F #[.slice (some ⟨g,0,none⟩) n c] w (zI9 w n k t l sd)) :
  Calls Tryz.prog F #[v] w (zLL w ws):=by
 by_cases h3:ws.length<3
 ·obtain ⟨a,c,rfl,_⟩:=hs
  refine (few a c ws.length w h3).mono ?_
  rintro e w' ⟨⟨o,rfl⟩,hb⟩
  exact ⟨o,false,rfl,yR ⟨rfl,fun o' ho=>by have:=ho.len; omega⟩,hb⟩
 ·obtain ⟨g,c,rfl,hg,hc⟩:=hs.lt (by omega)
  obtain ⟨k,t,l,r,rfl⟩:=zKE (by omega:3<=ws.length)
  obtain ⟨sd,K⟩:∃ sd,r=[]\/∃ r',r=sd::r':=by
   cases r with
   | nil=>exact ⟨ByteArray.empty,yQ rfl⟩
   | cons x r'=>exact ⟨x,yR ⟨r',rfl⟩⟩
  have H:(k::t::l::r).length=r.length+3:=rfl
  obtain ⟨a1,a2⟩:=zOD (k:=k) (t:=t) (l:=l) K
  rw [H]
  refine (core g c (r.length+3) k t l sd w (by omega) (hz l (by simp)) (hc 0 k rfl) (hc 1 t rfl) (hc 2 l rfl) (fun h4=>hc 3 sd ?_)).mono ?_
  ·rcases K with rfl | ⟨r',rfl⟩
   ·simp at h4
   ·rfl
  ·rintro e w' ⟨o,v,rfl,h,hb⟩
   refine ⟨o,v,rfl,?_,hb⟩
   rcases h with ⟨rfl,h⟩ | ⟨rfl,h⟩
   ·exact yQ ⟨rfl,a1 o h⟩
   ·exact yR ⟨rfl,a2 h⟩
def zCG (w:JY) (b n:Nat) (f:Nat->Bool):Prop:=b<w.heap.size/\∀ j,j<n->w.cell? ⟨b,j,none⟩=some (.bool (f j))/\w.frozen? ⟨b,j,none⟩=false
theorem zCG.congr {f g:Nat->Bool} (h:zCG w b n f) (he:∀ j,j<n->f j=g j):zCG w b n g:=⟨h.1,fun j hj=>by rw [<- he j hj]; exact h.2 j hj⟩
theorem zCG.grown {f:Nat->Bool} {row:Option Nat} (h:zCG w b n f) (hg:w.grownBy w' row) (H:row≠some b):zCG w' b n f:=
 ⟨yi h.1 hg.size,fun j hj=>⟨(zE hg h.1 H j).trans (h.2 j hj).1,(zv hg h.1 H j).trans (h.2 j hj).2⟩⟩
theorem zCG.below {f:Nat->Bool} (h:zCG w b n f) (hb:Below w.heap.size w w'):zCG w' b n f:=h.grown (row:=none) (zH hb none) (by simp)
theorem zCG.set {f:Nat->Bool} (h:zCG w b n f) (hk:k<n) (v:Bool):zCG (w.setCell ⟨b,k,none⟩ (.bool v)) b n (fun j=>if j=k then v else f j):=by
 refine ⟨by simpa [World.setCell] using h.1,fun j hj=>⟨?_,(yq _ _ _ _).trans (h.2 j hj).2⟩⟩
 by_cases e:j=k
 ·subst e
  simp only [if_true]
  exact yo _ _ _ (h.2 j hj).1
 ·simp only [e,if_false]
  rw [yg _ _ _ _ (by simp; first | done | omega)]
  exact (h.2 j hj).1
theorem zIS (w:JY) (n:Nat):zCG (w.alloc (.cells (madeCells #[.bool false] n) 4)) w.heap.size n (fun _=>false):=by
 refine ⟨by simp,fun j hj=>?_⟩
 have hs:(madeCells #[.bool false] n).size=n:=by rw [size_madeCells]; first | done | simp
 have h:=yz (w:=w.alloc (.cells (madeCells #[.bool false] n) 4)) (b:=w.heap.size) (heap_alloc_new w _) 0 n
 have h1:=h j (.bool false) (by
  simp only [madeCells]
  simp [hj,Nat.mod_one])
 exact ⟨by simpa using h1,by simp [go_sem]⟩
def atR (rs:List Nat) (i:Nat):Nat:=rs.getD i 0
def zAw (n:Nat) (rs:List Nat):List Value:=rs.map fun r=>.slice (some ⟨r,0,none⟩) n n
theorem zHA (n:Nat) (a b:List Nat):zAw n (a++b)=zAw n a++zAw n b:=by simp [zAw]
theorem zMx (h:i<rs.length):(zAw n rs)[i]?=some (.slice (some ⟨atR rs i,0,none⟩) n n):=by
 simp [zAw,atR,yk,yn h]
theorem zKG (n:Nat) (rs:List Nat):∀ u∈zAw n rs,u.oneCell'=true:=by
 intro u hu
 simp only [zAw,List.mem_map] at hu
 obtain ⟨r,_,rfl⟩:=hu
 rfl
theorem zRI:(Tryz.prog.info? 50).map (fun i=>(i.zero,i.size,i.bytes))=some (some (.slice none 0 0),1,24):=by kernel_rfl
theorem zLM (w:JY) (v:Value):∀ j u,([v]:List Value)[j]?=some u->(w.alloc (.cells #[v] 50)).cell? ((⟨w.heap.size,0,none⟩:Addr).add j)=some u:=by
 intro j u hj
 rw [Addr.add_mid]
 have:=yz (w:=w.alloc (.cells #[v] 50)) (b:=w.heap.size) (heap_alloc_new w _) 0 1
 exact this j u (by simpa using hj)
def zDA (w:JY) (B n:Nat) (v:Value) (rs:List Nat):Prop:=w.ownsRow B 50 1 v rs.length (zAw n rs)
theorem zDA.grown {row:Option Nat} (h:zDA w B n u rs) (hg:w.grownBy w' row) (H:∀ k,u.ownBlock=some k->row≠some k):zDA w' B n u rs:=
 World.ownsRow.kept h hg (by
  cases e:u.ownBlock with
  | none=>exact yQ rfl
  | some k=>exact yR (fun x=>H k e x.symm))
theorem zDA.below (h:zDA w B n u rs) (hb:Below w.heap.size w w'):zDA w' B n u rs:=h.grown (row:=none) (zH hb none) (fun k _ e=>by cases e)
theorem zDA.lt {w:JY} {B n:Nat} {u:Value} {rs:List Nat} (h:zDA w B n u rs):∀ g,u.ownBlock=some g->B<=g/\g<w.heap.size:=fun g hg=>World.ownsRow.lt h g hg
theorem zDA.cell {c:Nat} (h:zDA w B n (.slice (some ⟨g,0,none⟩) rs.length c) rs) (hi:i<rs.length):w.cell? ⟨g,i,none⟩=some (.slice (some ⟨atR rs i,0,none⟩) n n):=by
 rw [World.ownsRow.cellAt h i (by omega)]
 exact zMx hi
def zBi (w:JY) (B n:Nat) (v:Value) (rs:List Nat) (M:Nat->Nat->Bool):Prop:=(∀ i,i<rs.length->zCG w (atR rs i) n (M i))/\(∀ i j,i<rs.length->j<rs.length->atR rs i=atR rs j->i=j)/\(∀ i,i<rs.length->v.ownBlock≠some (atR rs i)/\B<=atR rs i)
theorem zCe {x:Nat} (h:i<rs.length):atR (rs++[x]) i=atR rs i:=by
 unfold atR; rw [yk,yk,yB h]
theorem zEr {x:Nat}:atR (rs++[x]) rs.length=x:=by
 unfold atR; rw [yk,List.getElem?_append_right (yh _)]; simp
theorem zBi.congr {w:JY} {B n:Nat} {v:Value} {rs:List Nat} {M M':Nat->Nat->Bool} (h:zBi w B n v rs M) (he:∀ i j,i<rs.length->j<n->M i j=M' i j):zBi w B n v rs M':=
 ⟨fun i hi=>(h.1 i hi).congr (fun j hj=>he i j hi hj),h.2.1,h.2.2⟩
theorem zBi.push {M:Nat->Nat->Bool} {f:Nat->Bool} (h:zBi w B n v rs M) (hb:Below w.heap.size w w1) (hB:B<=w.heap.size) (hv:∀ g,v.ownBlock=some g->g<w.heap.size) (hr:zCG w1 b n f) (x:w.heap.size<=b) (hg:w1.grownBy w4 v.ownBlock) (Q:v4.ownBlock=v.ownBlock\/∃ k,v4.ownBlock=some k/\w1.heap.size<=k) :
  zBi w4 B n v4 (rs++[b]) (fun i=>if i=rs.length then f else M i):=by
 have hz:=hb.size
 have H:∀ i,i<rs.length->atR rs i<w.heap.size:=fun i hi=>(h.1 i hi).1
 have K:∀ g,g<w1.heap.size->v.ownBlock≠some g->v4.ownBlock≠some g:=fun g h1 h2 e=>by
  rcases Q with h | ⟨k,h,hk⟩
  ·exact h2 (h.symm.trans e)
  ·rw [h] at e; injection e with e; omega
 have q:v.ownBlock≠some b:=fun e=>by have:=hv b e; omega
 refine ⟨fun i hi=>?_,fun i j hi hj e=>?_,fun i hi=>?_⟩
 ·by_cases e:i<rs.length
  ·rw [zCe e]
   simp only [show i≠rs.length by omega,if_false]
   exact ((h.1 i e).below hb).grown hg (h.2.2 i e).1
  ·have e1:i=rs.length:=by simp at hi; omega
   subst e1
   rw [zEr]
   simp only [if_true]
   exact hr.grown hg q
 ·simp only [ym,yv,yW] at hi hj
  by_cases e1:i<rs.length <;> by_cases e2:j<rs.length
  ·rw [zCe e1,zCe e2] at e; exact h.2.1 i j e1 e2 e
  ·have e3:j=rs.length:=by omega
   subst e3
   rw [zCe e1,zEr] at e
   have:=H i e1
   omega
  ·have e3:i=rs.length:=by omega
   subst e3
   rw [zCe e2,zEr] at e
   have:=H j e2
   omega
  ·omega
 ·by_cases e:i<rs.length
  ·rw [zCe e]
   exact ⟨K _ (by have:=H i e; omega) (h.2.2 i e).1,(h.2.2 i e).2⟩
  ·have e1:i=rs.length:=by simp at hi; omega
   subst e1
   rw [zEr]
   exact ⟨K _ hr.1 q,by omega⟩
theorem zBi.set {w:JY} {B n:Nat} {v:Value} {rs:List Nat} {M:Nat->Nat->Bool} (h:zBi w B n v rs M) {i j:Nat} (hi:i<rs.length) (hj:j<n):zBi (w.setCell ⟨atR rs i,j,none⟩ (.bool true)) B n v rs (fun i' j'=>if i'=i/\j'=j then true else M i' j'):=by
 refine ⟨fun i' H=>?_,h.2.1,h.2.2⟩
 by_cases e:i'=i
 ·subst e
  refine ((h.1 i' H).set hj true).congr (fun j' _=>?_)
  by_cases e2:j'=j <;> simp [e2]
 ·refine ((h.1 i' H).grown (zf w (atR rs i) j _) (fun x=>e (h.2.1 i' i H hi (by injection x with x; exact x.symm)))).congr (fun j' _=>?_)
  simp [e]
def prt (M:Nat->Nat->Bool) (m i j:Nat):Nat->Nat->Bool:=fun i' j'=>M i' j'||(decide (i'<i\/(i'=i/\j'<j))&&(M i' m&&M m j'))
theorem zRJ (M:Nat->Nat->Bool) (m i j i':Nat):prt M m i j i' m=M i' m:=by
 unfold prt
 cases h:M i' m <;> simp
theorem zRK (M:Nat->Nat->Bool) (m i j j':Nat):prt M m i j m j'=M m j':=by
 unfold prt
 cases h:M m j' <;> simp
theorem zMy (M:Nat->Nat->Bool) (m:Nat) (i' j':Nat):prt M m 0 0 i' j'=M i' j':=by simp [prt]
theorem zPw (M:Nat->Nat->Bool) (m i n:Nat) (i' j':Nat) (hj:j'<n):prt M m i n i' j'=prt M m (i+1) 0 i' j':=by
 unfold prt
 have:(i'<i\/(i'=i/\j'<n))↔(i'<i+1\/(i'=i+1/\j'<0)):=by omega
 simp only [this]
theorem zPx (M:Nat->Nat->Bool) (m n:Nat) (i' j':Nat) (hi:i'<n):prt M m n 0 i' j'=wr1 M m i' j':=by
 unfold prt wr1
 simp [hi]
theorem zPy (M:Nat->Nat->Bool) (m i j:Nat) (h1:M i m=true) (h2:M m j=true) (i' j':Nat):(if i'=i/\j'=j then true else prt M m i j i' j')=prt M m i (j+1) i' j':=by
 unfold prt
 by_cases e:i'=i/\j'=j
 ·obtain ⟨rfl,rfl⟩:=e
  simp [h1,h2]
 ·rw [yN e]
  have:(i'<i\/(i'=i/\j'<j))↔(i'<i\/(i'=i/\j'<j+1)):=by omega
  simp only [this]
theorem zOF (M:Nat->Nat->Bool) (m i j:Nat) (h:M i m=false\/M m j=false) (i' j':Nat):prt M m i j i' j'=prt M m i (j+1) i' j':=by
 unfold prt
 by_cases e:i'=i/\j'=j
 ·obtain ⟨rfl,rfl⟩:=e
  rcases h with h | h <;> simp [h]
 ·have:(i'<i\/(i'=i/\j'<j))↔(i'<i\/(i'=i/\j'<j+1)):=by omega
  simp only [this]
theorem zZ.base {B':Nat} (h:zZ w B v ws) (hb:B'<=B):zZ w B' v ws:=by
 obtain ⟨h1,h2 | ⟨g,cap,H,hv,hg,h3⟩⟩:=h
 ·exact ⟨h1,yQ h2⟩
 ·exact ⟨h1,yR ⟨g,cap,H,hv,yr hb hg,h3⟩⟩
theorem Zw.base {B':Nat} {ws:List OpR} (h:Zw w B v ws) (hb:B'<=B):Zw w B' v ws:=by
 obtain ⟨h1,h2 | ⟨g,cap,H,hv,hg,h3⟩⟩:=h
 ·exact ⟨h1,yQ h2⟩
 ·exact ⟨h1,yR ⟨g,cap,H,hv,yr hb hg,h3⟩⟩
def zEs (w:JY) (s:JZ) (e:Ending) (w':JY):Prop:=
 ∃ (vu vo:Value) (us:List JZ) (os:List OpR) (b:JZ) (c l:Int),e = .returned (.tuple #[.agg #[vu,vo,.string b],.int .i64 c,.int .i64 l])/\zy s us os b c l /\
  zZ w' w.heap.size vu us/\Zw w' w.heap.size vo os/\(∀ g,vu.ownBlock=some g->vo.ownBlock≠some g)/\us.length<=20001/\os.length<=20001/\Below w.heap.size w w'
theorem zAE {c l:Int} (h:zy s [] [] ByteArray.empty c l) (hb:Below w.heap.size w w') :
  zEs w s (.returned (.tuple #[.agg #[.slice none 0 0,.slice none 0 0,.string ⟨#[]⟩],.int .i64 c,.int .i64 l])) w':=
 ⟨.slice none 0 0,.slice none 0 0,[],[],ByteArray.empty,c,l,rfl,h,World.ownsRow_nil _ _ _ _,World.ownsRow_nil _ _ _ _,(fun g e=>by cases e),by simp,by simp,hb⟩
def zDZ (w:JY) (H:Nat):Prop:=w.cell? ⟨H,0,none⟩=some (.slice none 0 0)/\w.cell? ⟨H,1,none⟩=some (.slice none 0 0)/\w.cell? ⟨H,2,none⟩=some (.string ⟨#[]⟩)/\(∀ o,w.frozen? ⟨H,o,none⟩=false)
theorem zDZ.below {H:Nat} (h:zDZ w H) (hb:Below B w w') (hB:H<B):zDZ w' H:=by
 obtain ⟨h0,h1,h2,h3⟩:=h
 exact ⟨(hb.cell (p:=⟨H,0,none⟩) hB).trans h0,(hb.cell (p:=⟨H,1,none⟩) hB).trans h1,(hb.cell (p:=⟨H,2,none⟩) hB).trans h2,fun o=>(hb.frozen (p:=⟨H,o,none⟩) hB).trans (h3 o)⟩
theorem zEt {w3:JY} {b b':JZ} (hU:w.heap.size<B) (h:UnM w3 B U vu vo us os b) (hb:Below w.heap.size w w3) (hi:zy s us os b' 0 0) (h1:us.length<=20001) (h2:os.length<=20001) :
  zEs w s (.returned (.tuple #[.agg #[vu,vo,.string b'],.int .i64 0,.int .i64 0])) ((w3.setCell ⟨U,2,none⟩ (.string b')).setCells w.heap.size 0 [vu,vo,.string b']) /\
  zEs w s (.returned (.tuple #[.agg #[vu,vo,.string b'],.int .i64 0,.int .i64 0])) (w3.setCells w.heap.size 0 [vu,vo,.string b']):=by
 have hk:=fun W=>zr (zBH (g:=w.heap.size) [vu,vo,.string b'] 0 W)
 have H:=h.hB
 have nu:∀ k,vu.ownBlock=some k->some w.heap.size≠some k:=fun k e x=>by injection x with x; have:=(h.ru.lt k e).1; omega
 have no:∀ k,vo.ownBlock=some k->some w.heap.size≠some k:=fun k e x=>by injection x with x; have:=(h.ro.lt k e).1; omega
 have nu2:∀ k,vu.ownBlock=some k->some U≠some k:=fun k e x=>h.nu (e.trans x.symm)
 have no2:∀ k,vo.ownBlock=some k->some U≠some k:=fun k e x=>h.no (e.trans x.symm)
 constructor
 ·exact ⟨vu,vo,us,os,b',0,0,rfl,hi,((h.ru.grown (zf _ U 2 _) nu2).grown (hk _) nu).base (by omega),((h.ro.grown (zf _ U 2 _) no2).grown (hk _) no).base (by omega),h.ne,h1,h2,zK (yh _) _ 0 _ (hb.setCell (p:=⟨U,2,none⟩) (by show w.heap.size<=U; omega) _)⟩
 ·exact ⟨vu,vo,us,os,b',0,0,rfl,hi,(h.ru.grown (hk _) nu).base (by omega),(h.ro.grown (hk _) no).base (by omega),h.ne,h1,h2,zK (yh _) _ 0 _ hb⟩
theorem zEu {x:JZ} (h:x∈wds l):x.size<=l.size:=by
 unfold wds at h
 obtain ⟨p,_,rfl⟩:=List.mem_map.1 h
 rw [Zs]
 omega
def zC3 (s:JZ) (ls:List (Nat×Nat)) (n:Nat) (us:List JZ) (os:List OpR):Prop:=∀ u o b c l,UnF s ls n us os u o b c l->zy s u o b c l
theorem zC3.start (hs:s.size<=20000):zC3 s (pcs 10 s 0) 1 [] []:=fun u o b c l h=>yR ⟨hs,h⟩
theorem zC3.begin (h:zC3 s (p::r) n us os) (hw:wds (s.extract p.1 p.2)=[Zp]):zy s us os (zA3 s p.2) 0 0:=
 h _ _ _ _ _ (yQ ⟨hw,rfl,rfl,rfl,rfl,rfl⟩)
theorem zC3.bad (h:zC3 s (p::r) n us os) (hw:wds (s.extract p.1 p.2)≠[Zp]) (hl:∀ us' os',¬ zAL (wds (s.extract p.1 p.2)) us os us' os'):zy s [] [] ByteArray.empty 2 (n:Int):=
 h _ _ _ _ _ (yR ⟨hw,yR ⟨hl,rfl,rfl,rfl,rfl,rfl⟩⟩)
theorem zC3.next {os':List OpR} (h:zC3 s (p::r) n us os) (hw:wds (s.extract p.1 p.2)≠[Zp]) (hl:zAL (wds (s.extract p.1 p.2)) us os us' os'):zC3 s r (n+1) us' os':=
 fun u o b c l hu=>h _ _ _ _ _ (yR ⟨hw,yQ ⟨us',os',hl,hu⟩⟩)
theorem zC3.fin (h:zC3 s [] n us os):zy s [] [] ByteArray.empty 3 0:=h _ _ _ _ _ ⟨rfl,rfl,rfl,rfl,rfl⟩
def zt (w:JY) (v:Value) (os:List OpR):Prop:=∃ a c,v = .slice a os.length c/\((os.length=0/\a=none/\c=0)\/∃ g,a=some ⟨g,0,none⟩/\g<w.heap.size/\Ops w g 0 os)
theorem Zw.ops {w:JY} {B:Nat} {v:Value} {os:List OpR} (h:Zw w B v os):zt w v os:=by
 have h':=h
 obtain ⟨_,⟨h1,h2⟩ | ⟨g,cap,H,h1,_⟩⟩:=h'
 ·exact ⟨none,0,by rw [h1,h2],yQ ⟨h2,rfl,rfl⟩⟩
 ·subst h1
  exact ⟨_,cap,rfl,yR ⟨g,rfl,(h.lt g rfl).2,(zBe h).2.ops⟩⟩
theorem zt.grown {row:Option Nat} (h:zt w v os) (hg:w.grownBy w' row) (H:∀ g,v.ownBlock=some g->row≠some g):zt w' v os:=by
 obtain ⟨a,c,rfl,h⟩:=h
 refine ⟨a,c,rfl,h.imp id ?_⟩
 rintro ⟨g,rfl,h1,h2⟩
 refine ⟨g,rfl,yi h1 hg.size,fun i hi=>?_⟩
 obtain ⟨q0,q1,q2,q3⟩:=h2 i hi
 have e:=fun o=>zE hg h1 (H g rfl) o
 exact ⟨(e _).trans q0,(e _).trans q1,(e _).trans q2,(e _).trans q3⟩
structure UvR where
 vu:Value
 vo:Value
 b:ByteArray
variable {vs:List UvR}
def atV (vs:List UvR) (i:Nat):UvR:=vs.getD i ⟨.slice none 0 0,.slice none 0 0,ByteArray.empty⟩
def Ze (zs:List UvR):List Value:=zs.flatMap fun x=>[x.vu,x.vo,.string x.b]
theorem zD4 (xs ys:List UvR):Ze (xs++ys)=Ze xs++Ze ys:=by simp [Ze]
theorem zIT:∀ (zs:List UvR) (i:Nat),i<zs.length->(Ze zs)[i*3]?=some (atV zs i).vu/\(Ze zs)[i*3+1]?=some (atV zs i).vo/\(Ze zs)[i*3+2]?=some (.string (atV zs i).b)
 | [],i,h=>yP h (yt i)
 | o::r,0,_=>⟨rfl,rfl,rfl⟩
 | o::r,i+1,h=>by
  have ih:=zIT r i (by simpa using h)
  have e:∀ j,(Ze (o::r))[(i+1)*3+j]?=(Ze r)[i*3+j]?:=fun j=>by
   have:(i+1)*3+j=(i*3+j)+3:=by omega
   rw [this]
   rfl
  exact ⟨(e 0).trans ih.1,(e 1).trans ih.2.1,(e 2).trans ih.2.2⟩
theorem zOG:(Tryz.prog.info? 41).map (fun i=>(i.zero,i.size,i.bytes))=some (some (.agg #[.slice none 0 0,.slice none 0 0,.string ⟨#[]⟩]),3,64):=by kernel_rfl
theorem zFP (w:JY) (x:UvR):∀ j u,(Ze [x])[j]?=some u->(w.alloc (.cells #[x.vu,x.vo,.string x.b] 41)).cell? ((⟨w.heap.size,0,none⟩:Addr).add j)=some u:=by
 intro j u hj
 rw [Addr.add_mid]
 have:=yz (w:=w.alloc (.cells #[x.vu,x.vo,.string x.b] 41)) (b:=w.heap.size) (heap_alloc_new w _) 0 3
 exact this j u (by simpa [Ze] using hj)
def zA9 (w:JY) (B:Nat) (u:Value) (vs:List UvR):Prop:=w.ownsRow B 41 3 u vs.length (Ze vs)
theorem zA9.below {us:List UvR} (h:zA9 w B u us) (hb:Below w.heap.size w w'):zA9 w' B u us:=
 World.ownsRow.kept h (zH hb none) (by cases u.ownBlock with
 | none=>exact yQ rfl
 | some k=>exact yR (by simp))
theorem zA9.grown {us:List UvR} {row:Option Nat} (h:zA9 w B u us) (hg:w.grownBy w' row) (H:∀ k,u.ownBlock=some k->row≠some k):zA9 w' B u us:=
 World.ownsRow.kept h hg (by
  cases e:u.ownBlock with
  | none=>exact yQ rfl
  | some k=>exact yR (fun x=>H k e x.symm))
theorem zA9.lt {w:JY} {B:Nat} {u:Value} {us:List UvR} (h:zA9 w B u us):∀ g,u.ownBlock=some g->B<=g/\g<w.heap.size:=fun g hg=>World.ownsRow.lt h g hg
def zLN (w:JY) (g:Nat) (vs:List UvR):Prop:=∀ i,i<vs.length->w.cell? ⟨g,i*3,none⟩=some (atV vs i).vu/\w.cell? ⟨g,i*3+1,none⟩=some (atV vs i).vo/\w.cell? ⟨g,i*3+2,none⟩=some (.string (atV vs i).b)
theorem zLN.below (h:zLN w g vs) (hb:Below B w w') (hB:g<B):zLN w' g vs:=fun i hi=>by
 obtain ⟨h0,h1,h2⟩:=h i hi
 exact ⟨(hb.cell (p:=⟨g,_,none⟩) hB).trans h0,(hb.cell (p:=⟨g,_,none⟩) hB).trans h1,(hb.cell (p:=⟨g,_,none⟩) hB).trans h2⟩
theorem zA9.ops {c:Nat} {us:List UvR} (h:zA9 w B (.slice (some ⟨g,0,none⟩) us.length c) us):zLN w g us:=fun i hi=>by
 obtain ⟨c0,c1,c2⟩:=zIT us i hi
 have e:=fun j (hj:j<3)=>World.ownsRow.cellAt h (i*3+j) (by omega)
 exact ⟨by simpa using (e 0 (by omega)).trans c0,by simpa using (e 1 (by omega)).trans c1,by simpa using (e 2 (by omega)).trans c2⟩
theorem zt.below (h:zt w v os) (hb:Below w.heap.size w w'):zt w' v os:=
 h.grown (row:=none) (zH hb none) (fun g _ e=>by cases e)
def zCB (w:JY) (B:Nat) (vs:List UvR) (U:List UnR):Prop:=vs.length=U.length/\∀ i,i<vs.length->(zq w (atV vs i).vu (atU U i).us/\zt w (atV vs i).vo (atU U i).os/\(atV vs i).b=(atU U i).b)/\(∀ g,(atV vs i).vu.ownBlock=some g->g<B)/\(∀ g,(atV vs i).vo.ownBlock=some g->g<B)
theorem zCB.belowB {C:Nat} {U:List UnR} (h:zCB w B vs U) (hb:Below C w w') (hC:B<=C):zCB w' B vs U:=by
 refine ⟨h.1,fun i hi=>?_⟩
 obtain ⟨⟨h1,h2,h3⟩,h4,h5⟩:=h.2 i hi
 refine ⟨⟨?_,?_,h3⟩,h4,h5⟩
 ·obtain ⟨a,c,hv,hx⟩:=h1
  refine ⟨a,c,hv,hx.imp id ?_⟩
  rintro ⟨g,rfl,q1,q2⟩
  have hg:g<B:=h4 g (by rw [hv]; rfl)
  exact ⟨g,rfl,yi q1 hb.size,fun j x hj=>(hb.cell (p:=⟨g,j,none⟩) (by show g<C; omega)).trans (q2 j x hj)⟩
 ·obtain ⟨a,c,hv,hx⟩:=h2
  refine ⟨a,c,hv,hx.imp id ?_⟩
  rintro ⟨g,rfl,q1,q2⟩
  have hg:g<B:=h5 g (by rw [hv]; rfl)
  exact ⟨g,rfl,yi q1 hb.size,q2.below hb (by omega)⟩
theorem zCB.mono {B':Nat} {U:List UnR} (h:zCB w B vs U) (hB:B<=B'):zCB w B' vs U:=
 ⟨h.1,fun i hi=>⟨(h.2 i hi).1,fun g e=>yi ((h.2 i hi).2.1 g e) hB,fun g e=>yi ((h.2 i hi).2.2 g e) hB⟩⟩
theorem zKH {x:UvR} (h:i<vs.length):atV (vs++[x]) i=atV vs i:=by
 unfold atV; rw [yk,yk,yB h]
theorem zKI {x:UvR}:atV (vs++[x]) vs.length=x:=by
 unfold atV; rw [yk,List.getElem?_append_right (yh _)]; simp
theorem zHB {vs:List UnR} {x:UnR} (h:i<vs.length):atU (vs++[x]) i=atU vs i:=by
 unfold atU; rw [yk,yk,yB h]
theorem zHC {vs:List UnR} {x:UnR}:atU (vs++[x]) vs.length=x:=by
 unfold atU; rw [yk,List.getElem?_append_right (yh _)]; simp
def zFq (w:JY) (v:Value) (vs:List UvR) (U:List UnR):Prop:=vs.length=U.length/\∀ i,i<vs.length->(zq w (atV vs i).vu (atU U i).us/\zt w (atV vs i).vo (atU U i).os/\(atV vs i).b=(atU U i).b)/\(∀ g,(atV vs i).vu.ownBlock=some g->v.ownBlock≠some g/\g<w.heap.size)/\(∀ g,(atV vs i).vo.ownBlock=some g->v.ownBlock≠some g/\g<w.heap.size)
theorem zFq.at {U:List UnR} (h:zFq w v vs U):zCB w w.heap.size vs U:=
 ⟨h.1,fun i hi=>⟨(h.2 i hi).1,fun g e=>((h.2 i hi).2.1 g e).2,fun g e=>((h.2 i hi).2.2 g e).2⟩⟩
theorem zFq.step {U:List UnR} {x:UvR} {y:UnR} (h:zFq w v vs U) (hb:Below w.heap.size w w1) (hv:∀ g,v.ownBlock=some g->g<w.heap.size) (h1:zq w1 x.vu y.us) (h2:zt w1 x.vo y.os) (h3:x.b=y.b) (hu:∀ g,x.vu.ownBlock=some g->w.heap.size<=g/\g<w1.heap.size) (ho:∀ g,x.vo.ownBlock=some g->w.heap.size<=g/\g<w1.heap.size)
  (hg:w1.grownBy w4 v.ownBlock) (K:v4.ownBlock=v.ownBlock\/∃ k,v4.ownBlock=some k/\w1.heap.size<=k):zFq w4 v4 (vs++[x]) (U++[y]):=by
 have H:∀ g,g<w1.heap.size->v.ownBlock≠some g->v4.ownBlock≠some g:=fun g h1 h2 e=>by
  rcases K with h | ⟨k,h,hk⟩
  ·exact h2 (h.symm.trans e)
  ·rw [h] at e; injection e with e; omega
 have hz:=hb.size
 have q:=hg.size
 have hx:∀ g,w.heap.size<=g->v.ownBlock≠some g:=fun g hg e=>by have:=hv g e; omega
 refine ⟨by simp [h.1],fun i hi=>?_⟩
 by_cases e:i<vs.length
 ·rw [zKH e,zHB (by rw [<- h.1]; exact e)]
  obtain ⟨⟨q1,q2,q3⟩,q4,q5⟩:=h.2 i e
  refine ⟨⟨(q1.below hb).grown hg (fun g e=>(q4 g e).1),(q2.below hb).grown hg (fun g e=>(q5 g e).1),q3⟩,fun g e=>⟨H g (by have:=(q4 g e).2; omega) (q4 g e).1,by have:=(q4 g e).2; omega⟩,fun g e=>⟨H g (by have:=(q5 g e).2; omega) (q5 g e).1,by have:=(q5 g e).2; omega⟩⟩
 ·have e1:i=vs.length:=by simp at hi; omega
  subst e1
  have e2:atU (U++[y]) vs.length=y:=by rw [h.1]; exact zHC
  rw [zKI,e2]
  refine ⟨⟨h1.grown hg (fun g e=>hx g (hu g e).1),h2.grown hg (fun g e=>hx g (ho g e).1),h3⟩,fun g e=>⟨H g (hu g e).2 (hx g (hu g e).1),by have:=(hu g e).2; omega⟩,fun g e=>⟨H g (ho g e).2 (hx g (ho g e).1),by have:=(ho g e).2; omega⟩⟩
end Go.Proofs.YtgbkgkdpdfdokaaGreatDoor
