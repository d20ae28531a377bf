import Derived.Test.YtgbkgkdpdfdokaaGreatDoorQ20
namespace Go.Proofs.YtgbkgkdpdfdokaaGreatDoor
set_option linter.all false
set_option maxHeartbeats 16000000
set_option maxRecDepth 100000
open Go.RowKit Go.Maps
variable {b cap i n off:Nat} {ns xs:List OpR} {ts:List zX} {w w1 wr wr':World}
def zHS (w wr:JY) (bo bs:Nat) (o:OpR):Prop:=
 (wr.cell? ⟨w.heap.size,0,none⟩=some (.map (some bo))/\wr.cell? ⟨w.heap.size,1,none⟩=some (.map (some bs))) /\
 wr.cell? ⟨w.heap.size+1,0,none⟩=some (.string o.s)/\wr.cell? ⟨w.heap.size+1,1,none⟩=some (.int .i64 o.k)/\wr.cell? ⟨w.heap.size+1,2,none⟩=some (.int .i64 o.l)/\wr.cell? ⟨w.heap.size+1,3,none⟩=some (.int .i64 o.sd)
theorem zHS.step {bo bs:Nat} {o:OpR} (h:zHS w wr bo bs o) (hk:zAA wr wr' bo bs) (hz:w.heap.size+1<wr.heap.size) (h1:bo<w.heap.size) (h2:bs<w.heap.size):zHS w wr' bo bs o:=by
 obtain ⟨⟨a,b⟩,c,d,e,f⟩:=h
 have e0:=hk.cell (b:=w.heap.size) (by omega) (by omega) (by omega)
 have e1:=hk.cell (b:=w.heap.size+1) (by omega) (by omega) (by omega)
 exact ⟨⟨(e0 _).trans a,(e0 _).trans b⟩,(e1 _).trans c,(e1 _).trans d,(e1 _).trans e,(e1 _).trans f⟩
theorem zHS.start (w:JY) (bo bs:Nat) (o:OpR) (t t':TypeId) :
  zHS w ((w.alloc (.cells #[.map (some bo),.map (some bs)] t)).alloc (.cells #[.string o.s,.int .i64 o.k,.int .i64 o.l,.int .i64 o.sd] t')) bo bs o:=by
 refine ⟨⟨?_,?_⟩,?_,?_,?_,?_⟩ <;> simp [go_sem]
theorem zMX (bo bs k:Nat) (xs:List OpR) (w:JY) (hi:Idx w bo bs xs k) (A:zB1 xs (k+1)) (hs:(atO xs k).s.size<=maxLen) (hk:k<1048576) :
  Calls Tryz.prog 42 #[.agg #[.map (some bo),.map (some bs)],.agg #[.string (atO xs k).s,.int .i64 (atO xs k).k,.int .i64 (atO xs k).l,.int .i64 (atO xs k).sd]] w fun e w'=>e = .returned (.tuple #[])/\Idx w' bo bs xs (k+1)/\zAA w w' bo bs:=by
 obtain ⟨⟨D,q,hD⟩,⟨E,K,hE⟩,p⟩:=hi
 have h:=A k (by omega)
 have B:k<maxLen:=by unfold maxLen; omega
 have HK:=zB (zMt hs (zOg h))
 have HL:=zB (zPm (zE0 h))
 have HS:=zB (zRY h)
 have f:=zB (show okB (atO xs k).s (atO xs k).k (atO xs k).l (atO xs k).sd=true from h)
 have HD:=zB (zOh q.isMap hs (zOg h) hD)
 have HE:=zB (zM5 K.isMap (zE0 h) hE)
 have V:=q.lt
 have P:=K.lt
 clear hD hE A h
 go_enter Tryz.func42,Tryz.ntmps42
 go_wp2_with (first | (at_mapUpdate; refine wpList_mapUpdate_own _ rfl _ _ _ 58 rfl 120 57 zNt Tryz.underlying58 zDS bo k D rfl ((q.alloc _).alloc _) B _ _ _ rfl rfl (zA HK) (zCb (atO xs k).s (atO xs k).k (atO xs k).l (atO xs k).sd) [] (zIF _ _ _ _) ?_; intro w1 u H; go_frame))
 have Q:=zAA.of_grown1 (bs:=bs) H
 have a:=(zHS.start w bo bs (atO xs k) 61 57).step Q (by simp) V P
 have b:w.heap.size+1<w1.heap.size:=by have:=Q.size; simp at this; omega
 have X:=((K.alloc (.cells #[.map (some bo),.map (some bs)] 61)).alloc (.cells #[.string (atO xs k).s,.int .i64 (atO xs k).k,.int .i64 (atO xs k).l,.int .i64 (atO xs k).sd] 57)).kept H (fun e=>p (Option.some.inj e).symm)
 have C:=zB ((zAA.of_below (bo:=bo) (bs:=bs) ((zC w (.cells #[.map (some bo),.map (some bs)] 61)).alloc (by simp) (.cells #[.string (atO xs k).s,.int .i64 (atO xs k).k,.int .i64 (atO xs k).l,.int .i64 (atO xs k).sd] 57))).trans Q)
 obtain ⟨⟨m0,m1⟩,c0,c1,c2,c3⟩:=a
 clear H Q q K
 go_region_held (fun w'=>(w'.cell? ⟨w.heap.size,0,none⟩=some (.map (some bo))/\w'.cell? ⟨w.heap.size,1,none⟩=some (.map (some bs))) /\
  w'.cell? ⟨w.heap.size+1,0,none⟩=some (.string (atO xs k).s)/\w'.cell? ⟨w.heap.size+1,1,none⟩=some (.int .i64 (atO xs k).k)/\w'.cell? ⟨w.heap.size+1,2,none⟩=some (.int .i64 (atO xs k).l)/\w'.cell? ⟨w.heap.size+1,3,none⟩=some (.int .i64 (atO xs k).sd)) (go_keep)
  (first | (go_at_call 69; refine (zGc _ _ _ _ _ (zA f)).mono ?_; rintro e w2 ⟨rfl,hb2⟩; have j:=zHS.step (w:=w) (wr:=w1.drew) (bo:=bo) (bs:=bs) (o:=atO xs k) ⟨⟨m0,m1⟩,c0,c1,c2,c3⟩ (zAA.of_below hb2) b V P; have Y:=X.drew.kept (w':=w2) (row:=none) ⟨hb2.os,hb2.tape,hb2.output,hb2.size,fun i hi _=>hb2.block i hi⟩ (by simp); have v:=u.drew.kept (w':=w2) (row:=none) ⟨hb2.os,hb2.tape,hb2.output,hb2.size,fun i hi _=>hb2.block i hi⟩ (by simp); obtain ⟨w3,d,y,x⟩:=Y.update zNu Tryz.underlying59 B (zA HL) (plainElem_int Tryz.underlying3 (zA HS)); have U:=j.step (zAA.of_grown2 x) (yi b hb2.size) V P; have J:=v.kept x (fun e=>p (Option.some.inj e)); have c:=zB (((zA C).trans (zAA.of_below ((yG _ _).drew.trans hb2))).trans (zAA.of_grown2 x)); obtain ⟨⟨n0,n1⟩,d0,d1,d2,d3⟩:=j; obtain ⟨⟨o0,o1⟩,f0,f1,f2,f3⟩:=U))
 go_wp2
 go_end0
 exact ⟨rfl,⟨⟨_,J,zA HD⟩,⟨_,y,zA HE⟩,p⟩,zA c⟩
structure Lp (w:JY) (b off cap:Nat) (xs:List OpR) (n1:Nat) (wr:JY):Prop where
 box:wr.cell? ⟨w.heap.size,0,none⟩=some (.slice (some ⟨b,off,none⟩) xs.length cap)
 r0:wr.cell? ⟨w.heap.size+1,0,none⟩=some (.map none)
 r1:wr.cell? ⟨w.heap.size+1,1,none⟩=some (.map none)
 f0:wr.frozen? ⟨w.heap.size+1,0,none⟩=false
 f1:wr.frozen? ⟨w.heap.size+1,1,none⟩=false
 x0:wr.cell? ⟨n1+1+1,0,none⟩=some (.map (some n1))
 x1:wr.cell? ⟨n1+1+1,1,none⟩=some (.map (some (n1+1)))
 ops:Ops wr b off xs
 bel:Below w.heap.size w wr
 lt:n1+1+1<wr.heap.size
 ord:w.heap.size+1<n1
theorem zAA.frozen {w w':JY} {bo bs:Nat} (h:zAA w w' bo bs) {b:Nat} (hb:b<w.heap.size) (h1:b≠bo) (h2:b≠bs) (o:Nat):w'.frozen? ⟨b,o,none⟩=w.frozen? ⟨b,o,none⟩:=
 yA (w:=w) (h.block b hb h1 h2)
theorem Lp.step {n1:Nat} (h:Lp w b off cap xs n1 wr) (hk:zAA wr wr' n1 (n1+1)) (hB:b<w.heap.size):Lp w b off cap xs n1 wr':=by
 have k:=h.lt
 have H:=h.ord
 have a:=hk.cell (b:=w.heap.size) (by omega) (by omega) (by omega)
 have c:=hk.cell (b:=w.heap.size+1) (by omega) (by omega) (by omega)
 have d:=hk.cell (b:=n1+1+1) (by omega) (by omega) (by omega)
 have e:=hk.cell (b:=b) (by omega) (by omega) (by omega)
 have f:=hk.frozen (b:=w.heap.size+1) (by omega) (by omega) (by omega)
 refine ⟨(a _).trans h.box,(c _).trans h.r0,(c _).trans h.r1,(f _).trans h.f0,(f _).trans h.f1,(d _).trans h.x0,(d _).trans h.x1,fun i hi=>?_,h.bel.trans (hk.below (by omega) (by omega) (by omega)),yi k hk.size,H⟩
 obtain ⟨q0,q1,q2,q3⟩:=h.ops i hi
 exact ⟨(e _).trans q0,(e _).trans q1,(e _).trans q2,(e _).trans q3⟩
theorem Lp.below {n1:Nat} (h:Lp w b off cap xs n1 wr) (hb:Below wr.heap.size wr wr') (hB:b<w.heap.size):Lp w b off cap xs n1 wr':=
 h.step (zAA.of_below hb) hB
theorem Idx.set {bo bs k o:Nat} {v:Value} (h:Idx w bo bs xs k) (h1:bo≠b) (h2:bs≠b):Idx (w.setCell ⟨b,o,none⟩ v) bo bs xs k:=by
 obtain ⟨⟨D,a1,a2⟩,⟨E,a3,a4⟩,a5⟩:=h
 have hg:w.grownBy (w.setCell ⟨b,o,none⟩ v) (some b):=⟨rfl,rfl,rfl,by simp [World.setCell],fun i _ hi=>yZ _ _ _ _ (fun e=>hi (by rw [e]))⟩
 exact ⟨⟨D,a1.kept hg (fun e=>h1 (Option.some.inj e)),a2⟩,⟨E,a3.kept hg (fun e=>h2 (Option.some.inj e)),a4⟩,a5⟩
theorem Idx.start (w:JY) (xs:List OpR) (o:Obj):Idx (((w.alloc (.map #[] 0)).alloc (.map #[] 0)).alloc o) w.heap.size (w.heap.size+1) xs 0:=by
 have h1:=World.ownsMap_made (H:=Unit) w Tryz.prog 120 zDS
 have h2:=World.ownsMap_made (H:=Unit) (w.alloc (.map #[] 0)) Tryz.prog 3 (plainElem Tryz.prog 3)
 have e:(w.alloc (.map #[] 0)).heap.size=w.heap.size+1:=by simp
 rw [e] at h2
 refine ⟨⟨_,(h1.alloc _).alloc _,fun s kd _ _=>?_⟩,⟨_,h2.alloc _,fun l _=>?_⟩,by omega⟩
 ·simp [Maps.has]
 ·simp [Maps.has]
theorem zCO {o:Nat} (h:b<w1.heap.size) (o1 o2 o3:Obj):(((w1.alloc o1).alloc o2).alloc o3).cell? ⟨b,o,none⟩=w1.cell? ⟨b,o,none⟩:=
 (((zC _ o1).alloc (by simp) o2).alloc (by simp; omega) o3).cell (p:=⟨b,o,none⟩) h
theorem zD6 {o:Nat} (h:b<w1.heap.size) (o1 o2 o3:Obj):(((w1.alloc o1).alloc o2).alloc o3).frozen? ⟨b,o,none⟩=w1.frozen? ⟨b,o,none⟩:=
 (((zC _ o1).alloc (by simp) o2).alloc (by simp; omega) o3).frozen (p:=⟨b,o,none⟩) h
theorem Lp.start (hw:Ops w b off xs) (hB:b<w.heap.size) (t t' t3:TypeId)
  (H:Below ((w.alloc (.cells #[.slice (some ⟨b,off,none⟩) xs.length cap] t)).alloc (.cells #[.map none,.map none] t')).heap.size ((w.alloc (.cells #[.slice (some ⟨b,off,none⟩) xs.length cap] t)).alloc (.cells #[.map none,.map none] t')) w1) :
  Lp w b off cap xs w1.heap.size (((w1.alloc (.map #[] 0)).alloc (.map #[] 0)).alloc (.cells #[.map (some w1.heap.size),.map (some (w1.heap.size+1))] t3)):=by
 obtain ⟨k,K⟩:=zJX H
 have q:w.heap.size+1<w1.heap.size:=by have:=H.size; simp at this; omega
 have h:Below w.heap.size w w1:=((zC _ _).alloc (by simp) _).trans (H.mono (by simp; omega))
 refine ⟨?_,?_,?_,?_,?_,?_,?_,?_,?_,?_,q⟩
 ·rw [zCO (by omega),k _ _ (by simp; omega)]; simp [go_sem]
 ·rw [zCO (by omega),k _ _ (by simp)]; simp [go_sem]
 ·rw [zCO (by omega),k _ _ (by simp)]; simp [go_sem]
 ·rw [zD6 (by omega),K _ _ (by simp)]; simp [go_sem]
 ·rw [zD6 (by omega),K _ _ (by simp)]; simp [go_sem]
 ·simp [go_sem]
 ·simp [go_sem]
 ·exact (hw.below h hB).below (((zC _ _).alloc (by simp) _).alloc (by simp; omega) _) (by omega)
 ·exact ((h.alloc (by omega) _).alloc (by simp; omega) _).alloc (by simp; omega) _
 ·simp
theorem zHo {w2:JY} {o:OpR} {t:TypeId} (hb:Below (wr.alloc (.cells #[.string o.s,.int .i64 o.k,.int .i64 o.l,.int .i64 o.sd] t)).heap.size (wr.alloc (.cells #[.string o.s,.int .i64 o.k,.int .i64 o.l,.int .i64 o.sd] t)) w2) :
  w2.cell? ⟨wr.heap.size,0,none⟩=some (.string o.s)/\w2.cell? ⟨wr.heap.size,1,none⟩=some (.int .i64 o.k)/\w2.cell? ⟨wr.heap.size,2,none⟩=some (.int .i64 o.l)/\w2.cell? ⟨wr.heap.size,3,none⟩=some (.int .i64 o.sd):=by
 obtain ⟨hc,_⟩:=zJX hb
 refine ⟨?_,?_,?_,?_⟩ <;> (rw [hc _ _ (by simp)]; simp [go_sem])
theorem zHp {w2 w3:JY} {o:OpR} (hb:Below w2.heap.size w2 w3) (hn:n<w2.heap.size) (h0:w2.cell? ⟨n,0,none⟩=some (.string o.s)) (h1:w2.cell? ⟨n,1,none⟩=some (.int .i64 o.k)) (h2:w2.cell? ⟨n,2,none⟩=some (.int .i64 o.l)) (h3:w2.cell? ⟨n,3,none⟩=some (.int .i64 o.sd)) :
  w3.cell? ⟨n,0,none⟩=some (.string o.s)/\w3.cell? ⟨n,1,none⟩=some (.int .i64 o.k)/\w3.cell? ⟨n,2,none⟩=some (.int .i64 o.l)/\w3.cell? ⟨n,3,none⟩=some (.int .i64 o.sd):=by
 have e:=fun q=>hb.cell (p:=⟨n,q,none⟩) hn
 exact ⟨(e _).trans h0,(e _).trans h1,(e _).trans h2,(e _).trans h3⟩
theorem zHT (b P cap:Nat) (xs:List OpR) (w:JY) (hm:xs.length<=1048576) (hw:Ops w b P xs) (hs:Zg xs) (hB:b<w.heap.size) :
  Calls Tryz.prog 20 #[.agg #[.slice (some ⟨b,P,none⟩) xs.length cap]] w fun e w'=>(∃ (x y:Option Nat) (c:Int),e = .returned (.tuple #[.agg #[.map x,.map y],.int .i64 c])/\zR xs c/\(c=0->∃ bo bs,x=some bo/\y=some bs/\Idx w' bo bs xs xs.length))/\Below w.heap.size w w':=by
 have O:=@run_makeMap Tryz.prog
 by_cases g:500<xs.length
 ·go_enter Tryz.func20,Tryz.ntmps20
  go_wp2
  exact yK (v:=.tuple #[.agg #[.map none,.map none],.int .i64 1]) (by simp [results,Tryz.results20,go_sem]) rfl ⟨⟨none,none,1,rfl,yQ ⟨rfl,g⟩,fun h=>yP h (by decide)⟩,(zC _ _).alloc (by simp) _⟩
 have K:xs.length<=500:=by omega
 go_enter Tryz.func20,Tryz.ntmps20
 go_wp2_with fail
 refine (zMo b P cap xs _ hm ((hw.below (zC _ _) hB).below (zC _ _) (by simp; omega)) hs (by simp; omega)).mono ?_
 rintro e w1 ⟨⟨v,rfl,hv⟩,hb1⟩
 have HV:=zB hv
 clear hv
 obtain ⟨d,N⟩:=zJX hb1
 have r:w.heap.size+1<w1.heap.size:=by have:=hb1.size; simp at this; omega
 have E:Below w.heap.size w w1:=((zC _ _).alloc (by simp) _).trans (hb1.mono (by simp; omega))
 cases v
 ·go_wp2_with fail
  refine yK (v:=.tuple #[.agg #[.map none,.map none],.int .i64 2]) (by simp [results,Tryz.results20,go_sem,d]) rfl ⟨⟨none,none,2,rfl,yR ⟨K,yQ ⟨rfl,fun h=>?_⟩⟩,fun h=>yP h (by decide)⟩,(E.setCell (by simp) _).setCell (by simp) _⟩
  exact Bool.false_ne_true ((zA HV).2 h)
 ·have X:zB1 xs xs.length:=(zA HV).1 rfl
  have hL:=zB (Lp.start (t3:=61) hw hB _ _ hb1)
  have hI:=zB (Idx.start w1 xs (.cells #[.map (some w1.heap.size),.map (some (w1.heap.size+1))] 61))
  have f:∀ o1 o2 o3,(((w1.alloc o1).alloc o2).alloc o3).cell? ⟨w.heap.size,0,none⟩=some (.slice (some ⟨b,P,none⟩) xs.length cap):=fun o1 o2 o3=>by
   rw [zCO (by omega),d _ _ (by simp; omega)]; simp [go_sem]
  clear HV d N hb1
  go_wp2_with fail
  clear f
  go_loopw [24,5] (fun i mx wr=>∃ (k:Nat) (m:Bool),k<=xs.length/\i = .int .i64 k/\mx = .bool m/\Hid (zGd 3 xs k/\(m=true↔¬ zGd 4 xs k))/\Hid (Idx wr w1.heap.size (w1.heap.size+1) xs k)/\Hid (Lp w b P cap xs w1.heap.size wr)) (fun i _ _=>xs.length-(intOf i).toNat)
  case atStart=>exact ⟨0,false,yj _,rfl,rfl,zB ⟨fun i j _ h=>(by omega),⟨fun h=>(by cases h),fun h=>yP (fun i j _ h=>(by omega)) h⟩⟩,hI,hL⟩
  case round=>
   clear hI hL
   obtain ⟨k,m,hk,rfl,rfl,H,hI,hL⟩:=hrel
   by_cases p:k<xs.length
   ·have HO:=zB (show zB1 xs (k+1) from fun j hj=>X j (by omega))
    obtain ⟨a0,a1,a2,a3⟩:=(zA hL).ops k p
    have x0:=(zA hL).x0
    have x1:=(zA hL).x1
    have xlt:=(zA hL).lt
    have D:=zB ((zA hI).kept (zC wr (.cells #[.string (atO xs k).s,.int .i64 (atO xs k).k,.int .i64 (atO xs k).l,.int .i64 (atO xs k).sd] 57)))
    have F:=zB ((zA hL).below (zC wr (.cells #[.string (atO xs k).s,.int .i64 (atO xs k).k,.int .i64 (atO xs k).l,.int .i64 (atO xs k).sd] 57)) hB)
    clear hI hL
    go_wp2_with fail
    refine (zJE _ _ _ _ _ (zA D) (zA HO) (hs k p)).mono ?_
    rintro e w2 ⟨⟨v,rfl,hv⟩,hb2⟩
    have HV:=zB hv
    clear hv
    have q:=(zA F).below hb2 hB
    have a:=zB ((zA D).kept hb2)
    have y0:=q.x0
    have y1:=q.x1
    have r0:=q.r0
    have r1:=q.r1
    have f0:=q.f0
    have f1:=q.f1
    have Y:=q.bel
    have ylt:wr.heap.size<w2.heap.size:=by have:=hb2.size; simp at this; omega
    obtain ⟨o0,o1,o2,o3⟩:=zHo hb2
    have B:=zB q
    clear q D F hb2 a0 a1 a2 a3 x0 x1 xlt
    cases v
    ·have J:=zB (zFE (zA H).1 (fun j hj hc=>Bool.false_ne_true ((zA HV).2 ⟨j,hj,hc⟩)))
     cases m
     ·have Q:zGd 4 xs k:=Classical.byContradiction fun x=>Bool.false_ne_true ((zA H).2.2 x)
      have u:=zB Q
      clear Q HV H
      go_wp2_with fail
      refine (zJF _ _ _ _ _ (zA a) (zA HO) (zA u)).mono ?_
      rintro e w3 ⟨⟨v',rfl,hv'⟩,hb3⟩
      have n:=zB hv'
      clear hv'
      have U:=(zA B).below hb3 hB
      have I:=zB ((zA a).kept hb3)
      have z0:=U.x0
      have z1:=U.x1
      have zlt:wr.heap.size<w3.heap.size:=yi ylt hb3.size
      obtain ⟨p0,p1,p2,p3⟩:=zHp hb3 ylt o0 o1 o2 o3
      have G:=zB U
      clear U a B hb3 y0 y1 r0 r1 f0 f1 o0 o1 o2 o3
      go_wp2_with fail
      refine (zMX _ _ _ _ _ (zA I) (zA HO) (hs k p) (by omega)).mono ?_
      rintro e w4 ⟨rfl,hI4,hk4⟩
      have C:=zB hI4
      have A:=zB ((zA G).step hk4 hB)
      clear hI4 hk4
      go_wp2_with fail
      refine ⟨⟨k+1,v',by omega,by go_num,rfl,zB ⟨zA J,?_⟩,C,A⟩,by simp [intOf]; omega⟩
      rw [zA n]
      constructor
      ·rintro ⟨j,hj,hc⟩ hn
       exact hn k j hj (by omega) hc
      ·intro hn
       exact Classical.byContradiction fun x=>hn (zFE (zA u) (fun j hj hc=>x ⟨j,hj,hc⟩))
     ·have Q:=zB (show ¬ zGd 4 xs (k+1) from fun h=>(zA H).2.1 rfl (fun i j hj hi=>h i j hj (by omega)))
      clear HV H
      go_wp2_with fail
      refine (zMX _ _ _ _ _ (zA a) (zA HO) (hs k p) (by omega)).mono ?_
      rintro e w4 ⟨rfl,hI4,hk4⟩
      have C:=zB hI4
      have A:=zB ((zA B).step hk4 hB)
      clear hI4 hk4
      go_wp2_with fail
      exact ⟨⟨k+1,true,by omega,by go_num,rfl,zB ⟨zA J,⟨fun _=>zA Q,fun _=>rfl⟩⟩,C,A⟩,by simp [intOf]; omega⟩
    ·have L:=zB (show Pr 3 xs by
      obtain ⟨j,hj,hc⟩:=(zA HV).1 rfl
      exact ⟨k,j,hj,p,hc⟩)
     clear HV
     go_wp2_with fail
     exact yK (v:=.tuple #[.agg #[.map none,.map none],.int .i64 3]) (by simp [results,Tryz.results20,go_sem,r0,r1]) rfl ⟨⟨none,none,3,rfl,yR ⟨K,yR ⟨X,yQ ⟨rfl,zA L⟩⟩⟩,fun h=>yP h (by decide)⟩,(Y.setCell (by simp) _).setCell (by simp) _⟩
   ·have V:k=xs.length:=by omega
    have J:=zB (show ¬ Pr 3 xs from zGe (V ▸ (zA H).1))
    have Y:=(zA hL).bel
    have r0:=(zA hL).r0
    have r1:=(zA hL).r1
    have f0:=(zA hL).f0
    have f1:=(zA hL).f1
    have x0:=(zA hL).x0
    have x1:=(zA hL).x1
    have ord:=(zA hL).ord
    cases m
    ·have Q:zGd 4 xs k:=Classical.byContradiction fun x=>Bool.false_ne_true ((zA H).2.2 x)
     have u:=zB (show ¬ Pr 4 xs from zGe (V ▸ Q))
     have o:=zB (show Idx wr w1.heap.size (w1.heap.size+1) xs xs.length from V ▸ zA hI)
     clear Q H V
     go_wp2_with fail
     exact yK (v:=.tuple #[.agg #[.map (some w1.heap.size),.map (some (w1.heap.size+1))],.int .i64 0]) (by simp [results,Tryz.results20,go_sem,r0,r1]) rfl ⟨⟨_,_,0,rfl,yR ⟨K,yR ⟨X,yR ⟨zA J,yR ⟨rfl,zA u⟩⟩⟩⟩,fun _=>⟨_,_,rfl,rfl,((zA o).set (by omega) (by omega)).set (by omega) (by omega)⟩⟩,(Y.setCell (by simp) _).setCell (by simp) _⟩
    ·have M:=zB (show Pr 4 xs by
      have h4:=(zA H).2.1 rfl
      refine Classical.byContradiction fun x=>h4 (fun i j hj hi hc=>x ⟨i,j,hj,by omega,hc⟩))
     clear H V
     go_wp2_with fail
     exact yK (v:=.tuple #[.agg #[.map none,.map none],.int .i64 4]) (by simp [results,Tryz.results20,go_sem,r0,r1]) rfl ⟨⟨none,none,4,rfl,yR ⟨K,yR ⟨X,yR ⟨zA J,yQ ⟨rfl,zA M⟩⟩⟩⟩,fun h=>yP h (by decide)⟩,(Y.setCell (by simp) _).setCell (by simp) _⟩
theorem zJG (h:zR xs 0):zB1 xs xs.length:=by
 rcases h with ⟨h,_⟩ | ⟨_,⟨h,_⟩ | ⟨h,_⟩⟩
 ·exact yP h (by decide)
 ·exact yP h (by decide)
 ·exact h
theorem zM6 {base e size g:Nat} {xs:List Value} (h:w.ownsRow base e size (.slice (some ⟨g,0,none⟩) n cap) n xs):n<=cap/\cap<=maxLen:=by
 obtain ⟨_,⟨h,_⟩ | ⟨g',H,k,h,_,_,h1,h2,_⟩⟩:=h
 ·cases h
 ·injection h with _ _ h
  subst h
  exact ⟨h1,h2⟩
theorem zJH (b Q cap:Nat) (xs:List OpR) (s:JZ) (w:JY) (hm:xs.length<=1048576) (hw:Ops w b Q xs) (G:Zg xs) (hB:b<w.heap.size) (hs:s.size<=maxLen) :
  Calls Tryz.prog 95 #[.agg #[.slice (some ⟨b,Q,none⟩) xs.length cap],.string s] w fun e w'=>(∃ (g c:Nat) (us:List zX) (v:Bool),e = .returned (.tuple #[.slice (some ⟨g,0,none⟩) us.length c,.bool v])/\(w.heap.size<=g/\us.length<=c/\c<=maxLen)/\zL1 w' g us us.length/\zRs xs (zR xs 0) s us v)/\Below w.heap.size w w':=by
 unfold maxLen at hs
 have HW:=zB hw
 have HS:=zB G
 clear hw G
 go_enter Tryz.func95,Tryz.ntmps95
 go_wp2_with fail
 refine (ZY b Q cap xs _ hm ((zA HW).below ((zC _ _).alloc (by simp) _) hB) (zA HS) (by simp; omega)).mono ?_
 rintro e w1 ⟨⟨c,rfl,hc⟩,hb1⟩
 have HC:=zB hc
 have z1:w.heap.size+2<=w1.heap.size:=by have:=hb1.size; simp at this; omega
 have D:Below w.heap.size w w1:=((zC _ _).alloc (by simp) _).trans (hb1.mono (by simp; omega))
 have c1:w1.cell? ⟨w.heap.size,0,none⟩=some (.slice (some ⟨b,Q,none⟩) xs.length cap):=by rw [hb1.cell (p:=⟨w.heap.size,0,none⟩) (by simp; omega)]; simp [go_sem]
 have HO:=zB (show w1.ownsRow (w.heap.size+1) 150 3 (.slice (some ⟨w.heap.size+1,0,none⟩) 0 0) 0 (ZI []) by
  have h0:=yD (base:=w.heap.size+1) (e:=150) (size:=3) (w.alloc (.cells #[.slice (some ⟨b,Q,none⟩) xs.length cap] 33)) #[] 0 (by simp) (yj _) rfl
  have h1:=h0.kept (zAn hb1 none) (yR (by simp [Value.ownBlock]))
  simpa [ZI] using h1)
 have bel1':Below (w.heap.size+1) (w.alloc (.cells #[.slice (some ⟨b,Q,none⟩) xs.length cap] 33)) w1:=((zC _ _).mono (by simp)).trans (hb1.mono (by simp))
 clear hb1 hc
 by_cases A:c=0
 case neg=>
  have t:(c != 0)=true:=by simpa using A
  have HN:=zB (show ¬ (zR xs 0/\s.size<=20000) from fun h=>A (zAD (zA HC) h.1))
  clear A
  go_wp2_with fail
  go_ret2
  obtain ⟨hg,hf⟩:=zCz (zs:=[]) (zA HO)
  exact ⟨⟨w.heap.size+1,0,[],false,rfl,⟨by omega,yh _,yj _⟩,hf,yR ⟨zA HN,rfl,rfl⟩⟩,D⟩
 subst A
 by_cases h2:20000<s.size
 ·have HN:=zB (show ¬ (zR xs 0/\s.size<=20000) from fun h=>by omega)
  have ha:(20000:Int)<(s.size:Int):=by omega
  go_wp2_with fail
  go_ret2
  obtain ⟨hg,hf⟩:=zCz (zs:=[]) (zA HO)
  exact ⟨⟨w.heap.size+1,0,[],false,rfl,⟨by omega,yh _,yj _⟩,hf,yR ⟨zA HN,rfl,rfl⟩⟩,D⟩
 have HV:=zB (zEX (zJG (zA HC)))
 have HK:=zB (zOf (zJG (zA HC)))
 have S:s.size<=20000:=by omega
 clear hs h2
 go_wp2_with fail
 obtain ⟨i0,hi,l,m,M⟩:=info_parts zRq
 have HI:=zB hi
 have HZ:=zB (yH l (yH m M))
 clear hi l m M c1
 go_loopw [6,7] (fun out i wr=>∃ (p go co:Nat) (K:List zX),p<=s.size/\i = .int .i64 (p:Int)/\out = .slice (some ⟨go,0,none⟩) K.length co/\Hid (zI0 xs s p K)/\Hid (wr.ownsRow (w.heap.size+1) 150 3 (.slice (some ⟨go,0,none⟩) K.length co) K.length (ZI K))/\Below (w.heap.size+1) (w.alloc (.cells #[.slice (some ⟨b,Q,none⟩) xs.length cap] 33)) wr) (fun _ i _=>s.size-(intOf i).toNat)
 case atStart=>exact ⟨0,w.heap.size+1,0,[],yj _,rfl,rfl,zB (zI0.start xs s),HO,bel1'⟩
 case round=>
  clear HO bel1'
  obtain ⟨p,go,co,K,hp,rfl,rfl,B,P,x⟩:=hrel
  have a:Below w.heap.size w wr:=(zC _ _).trans (x.mono (by omega))
  have zw:w.heap.size<wr.heap.size:=by have:=x.size; simp at this; omega
  have c0:wr.cell? ⟨w.heap.size,0,none⟩=some (.slice (some ⟨b,Q,none⟩) xs.length cap):=by
   rw [x.cell (p:=⟨w.heap.size,0,none⟩) (show w.heap.size<_ by omega)]; simp [go_sem]
  go_wp2_with fail
  go_loop [7] (fun iv=>∃ j:Nat,p<=j/\j<=s.size/\iv = .int .i64 (j:Int)/\Hid (zDF s p j)) (fun iv=>s.size-(intOf iv).toNat)
  case atStart=>exact ⟨p,yh _,hp,rfl,zB (fun q h1 h2=>by omega)⟩
  case round=>
   obtain ⟨j,R,hj,rfl,f⟩:=hrel
   by_cases C:j<s.size
   ·cases hb:decide (cls s[j]=1)
    ·have N:=zB (show cls (bt s j)≠1 by rw [ZP C] at hb; simpa using hb)
     have r:((j:Int)==(s.size:Int))=false:=by simp; omega
     have O:K.length<=20000:=by have:=(zA B).1; omega
     go_wp2_with (go_at_call 112; refine (zFg _ _).mono ?_; rintro e w2 ⟨rfl,hx⟩; obtain rfl:=hx.symm)
     refine (zHn b Q cap xs s j _ hm ((zA HW).below a hB) (by omega) (zA HK) (by omega) C).mono ?_
     rintro e w2 ⟨⟨n,rfl,hn⟩,hb2⟩
     have J:=zJh (zA HV) hn (zA N)
     have L:j+n<=s.size:=J.2.1
     have hh:1<=n:=J.1
     have HT:=zB J
     have y:=x.trans (hb2.mono zw)
     have o:Below w.heap.size w w2:=(zC _ _).trans (y.mono (by omega))
     have z2:w.heap.size<w2.heap.size:=yi zw hb2.size
     have V:=zB ((zA P).kept (zAn hb2 none) (yR (by simp [Value.ownBlock])))
     have d0:w2.cell? ⟨w.heap.size,0,none⟩=some (.slice (some ⟨b,Q,none⟩) xs.length cap):=(hb2.cell (p:=⟨w.heap.size,0,none⟩) zw).trans c0
     have hk:IntKind.i64.wrap ((j:Int)+(n:Int))=(j:Int)+(n:Int):=by rw [IntKind.wrap_i64]; omega
     have hd:(j:Int)<=(j:Int)+(n:Int):=by omega
     have z:(j:Int)+(n:Int)<=(s.size:Int):=by omega
     have Z:(0:Int)<=(j:Int)+(n:Int):=by omega
     have hl:((j:Int)+(n:Int)).toNat=j+n:=by omega
     have W:(p:Int)<=(j:Int):=by omega
     have he:(j:Int)<=(s.size:Int):=by omega
     have zb:b<w2.heap.size:=by omega
     clear hn J hb2 P x a c0
     go_wp2_with fail
     go_region_held_law (fun w'=>w'.cell? ⟨w.heap.size,0,none⟩=some (.slice (some ⟨b,Q,none⟩) xs.length cap)) (go_keep)
      (first | (go_at_call 114; refine (zHQ b Q cap xs (sub s j n) _ hm ((zA HW).below o.drew hB) zb (zA HK) (by rw [zBb L]; unfold maxLen; omega)).mono ?_; rintro e w3 ⟨rfl,hb3⟩; have c3:=(hb3.cell (p:=⟨w.heap.size,0,none⟩) z2).trans (show w2.drew.cell? ⟨w.heap.size,0,none⟩=_ from d0); have U:=y.drew.trans (hb3.mono z2); have X:=zB ((zA V).drew.kept (zAn hb3 none) (yR (by simp [Value.ownBlock]))); have z3:=yi z2 hb3.size; have E:=zB ((zA X).lt go rfl)) | (refine step_append_lies _ (by rfl) (.tmp 49) (.tmp 69) 146 (by rfl) (w.heap.size+1) 150 i0 _ 3 40 Tryz.underlying146 (zA HI) (zA HZ).1 (zA HZ).2.1 (zA HZ).2.2 rfl (by decide) _ K.length (ZI K) (by rfl) ((zA X).alloc _) ⟨w3.heap.size,0,none⟩ 1 1 (ZI [⟨(ZV xs (sub s j n):Int),s.extract p j,s.extract j (j+n)⟩]) (by rfl) rfl (zIC w3 ⟨(ZV xs (sub s j n):Int),s.extract p j,s.extract j (j+n)⟩) (zEn _) (by decide) (by unfold maxLen; omega) (by omega) (by simp; omega) _ rfl ?_; intro g4 c4 w4 H k _ T; have q4:=(k.cell_far ⟨w.heap.size,0,none⟩ (by simp; omega) (by have:=zA E; simp [Value.ownBlock]; omega)).trans (((zC w3 _).cell (p:=⟨w.heap.size,0,none⟩) z3).trans c3); simp only [yc,ya,yb]; simp only [Act.put,yd,ye,yf]))
     have Y:Below (w.heap.size+1) _ w4:=(U.alloc z3 _).grown k (by simp; omega) (fun q hq=>by have:=zA E; simp [Value.ownBlock] at hq; omega)
     rw [<- zDQ] at H
     have F:K.length+1=(K++[(⟨(ZV xs (sub s j n):Int),s.extract p j,s.extract j (j+n)⟩:zX)]).length:=by simp
     rw [F] at H ⊢
     have d:=zB H
     clear H k X V U y c3 q4
     go_wp2
     refine ⟨⟨j+n,g4,c4,_,L,by go_num,rfl,zB ((zA B).step R C (zA f) (zA N) (zA HT)),d,Y⟩,by simp [intOf]; omega⟩
    ·have Hb:=zB (show zDF s p (j+1) from fun q h1 h2=>by
      by_cases e:q=j
      ·subst e
       rw [ZP C] at hb
       simpa using hb
      ·exact (zA f) q h1 (by omega))
     go_wp2_with (go_at_call 112; refine (zFg _ _).mono ?_; rintro e w' ⟨rfl,rfl⟩)
     exact ⟨⟨j+1,by omega,by omega,by go_num,Hb⟩,by simp [intOf]; omega⟩
   ·have HJ:=zB (show j=s.size by omega)
    have r:((j:Int)==(s.size:Int))=true:=by simp; omega
    have O:K.length<=20000:=by have:=(zA B).1; omega
    go_wp2_with (at_builtin; refine wpList_append_own _ rfl (.tmp 37) (.tmp 43) 146 rfl (w.heap.size+1) 150 i0 _ 3 40 Tryz.underlying146 (zA HI) (zA HZ).1 (zA HZ).2.1 (zA HZ).2.2 rfl (by decide) _ K.length (ZI K) rfl ((zA P).alloc _) ⟨wr.heap.size,0,none⟩ 1 1 (ZI [⟨7,s.extract p j,⟨#[]⟩⟩]) rfl rfl (zIC wr ⟨7,s.extract p j,⟨#[]⟩⟩) (zEn _) ?b1 ?b2 ?b3 ?next)
    case b1=>unfold maxLen; omega
    case b2=>omega
    case b3=>have:=x.size; simp; omega
    case next=>
     intro v4 w4 H k u
     have E:=(zA P).lt go rfl
     have Y:Below w.heap.size w w4:=(a.alloc a.size _).grown k (by have:=a.size; simp; omega) (fun q hq=>by simp [Value.ownBlock] at hq; omega)
     obtain ⟨g4,c4,rfl⟩:=ZW H (by simp [u])
     rw [<- zDQ] at H
     have F:K.length+1=(K++[(⟨7,s.extract p j,⟨#[]⟩⟩:zX)]).length:=by simp
     rw [F] at H ⊢
     have d:=zB H
     clear H k u
     go_wp2
     go_ret2
     obtain ⟨hg,hf⟩:=zCz (zA d)
     have I:=(zA B).done hp (zA HJ ▸ zA f)
     rw [<- zA HJ] at I
     exact ⟨⟨g4,c4,_,true,rfl,⟨by omega,zM6 (zA d)⟩,hf,yQ ⟨⟨zA HC,S⟩,rfl,I⟩⟩,Y⟩
theorem zQE:(Tryz.prog.info? 3).map (fun i=>(i.zero,i.size,i.bytes))=some (some (.int .i64 0),1,8):=by kernel_rfl
theorem zDt (w:JY) (v:Int):∀ j u,(ZE [v])[j]?=some u->(w.alloc (.cells #[.int .i64 v] 3)).cell? ((⟨w.heap.size,0,none⟩:Addr).add j)=some u:=by
 intro j u hj
 rw [Addr.add_mid]
 have:=yz (w:=w.alloc (.cells #[.int .i64 v] 3)) (b:=w.heap.size) (heap_alloc_new w _) 0 1
 exact this j u (by simpa [ZE] using hj)
def hL:ET->List Int
 | .nil=>[]
 | .node _ _ _ l r=>hL l++hL r++[((1+max (hT l) (hT r):Nat):Int)]
theorem zES:∀ T:ET,(hL T).length=tsz T
 | .nil=>rfl
 | .node _ _ _ l r=>by simp [hL,tsz,zES l,zES r]; omega
theorem zE1 {a b:List Int} (h:i<a.length):atI (a++b) i=atI a i:=by
 simp [atI,List.getD,List.getElem?_append,h]
theorem zE2 {a b:List Int} (h:a.length<=i):atI (a++b) i=atI b (i-a.length):=by
 simp [atI,List.getD,List.getElem?_append_right h]
theorem zKY {a b:List zD} (h:i<a.length):atN (a++b) i=atN a i:=by
 simp [atN,List.getD,List.getElem?_append,h]
theorem zKZ {a b:List zD} (h:a.length<=i):atN (a++b) i=atN b (i-a.length):=by
 simp [atN,List.getD,List.getElem?_append_right h]
theorem zGP:∀ {T:ET},Sh T->atI (hL T) (tsz T-1)=(hT T:Int)
 | .nil,h=>h.elim
 | .node b o t l r,_=>by
  have e:tsz (.node b o t l r:ET)-1=(hL l++hL r).length:=by simp [tsz,zES]
  rw [e]
  simp only [hL,hT]
  rw [zE2 (yh _)]
  simp [atI]
def zOi (n:zD) (H:List Int) (s i:Nat):Prop:=
 (ze n.k=0/\atI H i=1)\/(ze n.k=1/\∃ a,n.a=((s+a:Nat):Int)/\a<i/\atI H i=atI H a+1) \/
 (ze n.k=2/\∃ a c,n.a=((s+a:Nat):Int)/\n.b=((s+c:Nat):Int)/\a<i/\c<i/\atI H i=max (atI H a) (atI H c)+1)
theorem zOj:∀ (T:ET),Sh T->∀ (s i:Nat),i<tsz T->zOi (atN (nd T s) i) (hL T) s i
 | .nil,h,_,_,_=>h.elim
 | .node b o t l r,h,s,i,hi=>by
  simp only [tsz] at hi
  have el:=zES l
  have er:=zES r
  have nl:=ZO l s
  have nr:=ZO r (s+tsz l)
  by_cases h1:i<tsz l
  ·have K:Sh l:=by
    rcases h.2 with ⟨_,rfl,_⟩ | ⟨_,hl,_⟩ | ⟨_,hl,_⟩
    ·simp [tsz] at h1
    ·exact hl
    ·exact hl
   have ih:=zOj l K s i h1
   have en:atN (nd (.node b o t l r) s) i=atN (nd l s) i:=by
    simp only [nd]; rw [yx,zKY (by omega)]
   have eH:∀ k,k<tsz l->atI (hL (.node b o t l r)) k=atI (hL l) k:=fun k hk=>by
    simp only [hL]; rw [yx,zE1 (by omega)]
   unfold zOi
   rw [en]
   rcases ih with ⟨k0,e⟩ | ⟨k1,a,e1,e2,e3⟩ | ⟨k2,a,c,e1,e2,e3,e4,e5⟩
   ·exact yQ ⟨k0,by rw [eH i h1]; exact e⟩
   ·exact yR (yQ ⟨k1,a,e1,e2,by rw [eH i h1,eH a (by omega)]; exact e3⟩)
   ·exact yR (yR ⟨k2,a,c,e1,e2,e3,e4,by rw [eH i h1,eH a (by omega),eH c (by omega)]; exact e5⟩)
  ·by_cases h2:i<tsz l+tsz r
   ·have H:Sh r:=by
     rcases h.2 with ⟨_,rfl,rfl⟩ | ⟨_,hl,rfl⟩ | ⟨_,_,hr⟩
     ·simp [tsz] at h2
     ·simp [tsz] at h2; omega
     ·exact hr
    have ih:=zOj r H (s+tsz l) (i-tsz l) (by omega)
    have en:atN (nd (.node b o t l r) s) i=atN (nd r (s+tsz l)) (i-tsz l):=by
     simp only [nd]; rw [yx,zKZ (by omega),nl,zKY (by omega)]
    have eH:∀ k,k<tsz r->atI (hL (.node b o t l r)) (tsz l+k)=atI (hL r) k:=fun k hk=>by
     simp only [hL]; rw [yx,zE2 (by omega),el,zE1 (by omega)]; congr 1; omega
    have ei:i=tsz l+(i-tsz l):=by omega
    unfold zOi
    rw [en]
    rcases ih with ⟨k0,e⟩ | ⟨k1,a,e1,e2,e3⟩ | ⟨k2,a,c,e1,e2,e3,e4,e5⟩
    ·exact yQ ⟨k0,by rw [ei,eH _ (by omega)]; exact e⟩
    ·refine yR (yQ ⟨k1,tsz l+a,by rw [e1]; congr 1; omega,by omega,?_⟩)
     conv=>lhs; rw [ei]
     rw [eH _ (by omega),eH a (by omega)]; exact e3
    ·refine yR (yR ⟨k2,tsz l+a,tsz l+c,by rw [e1]; congr 1; omega,by rw [e2]; congr 1; omega,by omega,by omega,?_⟩)
     conv=>lhs; rw [ei]
     rw [eH _ (by omega),eH a (by omega),eH c (by omega)]; exact e5
   ·have ei:i=tsz l+tsz r:=by omega
    have en:atN (nd (.node b o t l r) s) i=tN b t l r s:=by
     simp only [nd]; rw [zKZ (by simp; omega)]
     have:i-(nd l s++nd r (s+tsz l)).length=0:=by simp; omega
     rw [this]; rfl
    have eI:atI (hL (.node b o t l r)) i=((1+max (hT l) (hT r):Nat):Int):=by
     simp only [hL]; rw [zE2 (by simp; omega)]
     have:i-(hL l++hL r).length=0:=by simp; omega
     rw [this]; rfl
    unfold zOi
    rw [en,eI]
    rcases h.2 with ⟨k0,rfl,rfl⟩ | ⟨k1,hl,rfl⟩ | ⟨k2,hl,hr⟩
    ·exact yQ ⟨k0,rfl⟩
    ·have hp:=Sh.pos hl
     refine yR (yQ ⟨k1,tsz l-1,?_,by omega,?_⟩)
     ·simp only [tN,k1]
      rw [yN (by decide)]
      omega
     ·have e:atI (hL (.node b o t l .nil)) (tsz l-1)=(hT l:Int):=by
       simp only [hL]; rw [yx,zE1 (by omega)]; exact zGP hl
      rw [e]
      simp only [hT]
      omega
    ·have hp:=Sh.pos hl
     have q:=Sh.pos hr
     refine yR (yR ⟨k2,tsz l-1,tsz l+tsz r-1,?_,?_,by omega,by omega,?_⟩)
     ·simp only [tN,k2]
      rw [yN (by decide)]
      omega
     ·simp only [tN,k2]
      rw [yO trivial]
      omega
     ·have e:atI (hL (.node b o t l r)) (tsz l-1)=(hT l:Int):=by
       simp only [hL]; rw [yx,zE1 (by omega)]; exact zGP hl
      have e2:atI (hL (.node b o t l r)) (tsz l+tsz r-1)=(hT r:Int):=by
       simp only [hL]; rw [yx,zE2 (by omega),el,zE1 (by omega)]
       have:tsz l+tsz r-1-tsz l=tsz r-1:=by omega
       rw [this]
       exact zGP hr
      rw [e,e2]
      omega
theorem zOk:∀ (T:ET) (x:Int),x∈hL T->0<=x/\x<=(tsz T:Int)
 | .nil,x,h=>by simp [hL] at h
 | .node b o t l r,x,h=>by
  simp only [hL,List.mem_append,List.mem_singleton] at h
  simp only [tsz]
  rcases h with (h | h) | h
  ·have:=zOk l x h; omega
  ·have:=zOk r x h; omega
  ·have:=zME l
   have:=zME r
   subst h
   omega
theorem zQF (T:ET) (h:i<tsz T):0<=atI (hL T) i/\atI (hL T) i<=(tsz T:Int):=by
 have hl:=zES T
 refine zOk T _ ?_
 unfold atI
 rw [yk,yn (by omega)]
 exact List.getElem_mem _
theorem zBz (h:i<n):atI (Z0 ns ts n) i=zi ns ts i:=by
 simp [atI,Z0,List.getD,h]
def TkF (ns:List OpR) (ts:List zX) (i:Nat):Prop:=
 ((atT ts i).k=3/\(1<=zi ns ts i/\zi ns ts i<=3)/\sgT ns ts i=((zi ns ts i).toNat+2,(atT ts i).t)/\∃ j,fnd ns (atT ts i).t (zi ns ts i)=some j/\sLv ns (sgT ns ts i)=(atO ns j).l/\sSo ns (sgT ns ts i)=srt (atO ns j).k (atO ns j).sd) \/
 ((atT ts i).k≠3/\zi ns ts i=0/\¬ (3<=(sgT ns ts i).1/\(sgT ns ts i).1<=5))
theorem zR4 {t:JZ} {r:Int} (h:Zu ns t r=true) (hr:1<=r/\r<=3):∃ j,fnd ns t r=some j/\sLv ns (r.toNat+2,t)=(atO ns j).l/\sSo ns (r.toNat+2,t)=srt (atO ns j).k (atO ns j).sd:=by
 have e:((r.toNat+2:Nat):Int)-2=r:=by omega
 have hk:=zI1 h e
 cases hf:fnd ns t r with
 | none=>
  unfold knB at hk
  rw [e,hf] at hk
  cases hk
 | some j=>
  have hA:opA ns (rt (r.toNat+2) t)=atO ns j:=by
   unfold opA
   simp only [rt]
   rw [e,hf]
  refine ⟨j,rfl,?_,?_⟩
  ·rw [zRB (by omega) hk,hA]
  ·unfold sSo
   simp only
   rw [hA]
theorem zRZ (hr:0<=zi ns ts i):TkF ns ts i:=by
 unfold TkF
 have key:((atT ts i).k=3/\((zi ns ts i=1/\Zu ns (atT ts i).t 1=true)\/(zi ns ts i=2/\Zu ns (atT ts i).t 2=true)\/(zi ns ts i=3/\Zu ns (atT ts i).t 3=true))) \/
   (((atT ts i).k=1\/(atT ts i).k=2\/(atT ts i).k=4\/(atT ts i).k=5\/(atT ts i).k=7)/\zi ns ts i=0):=by
  unfold zi at hr ⊢
  generalize atT ts i=t at hr ⊢
  generalize zFK ts i=op at hr ⊢
  generalize decide (i+1=ts.length)=la at hr ⊢
  generalize zFJ ns ts i=bh at hr ⊢
  cases bh
  ·rw [zJ2] at hr ⊢
   by_cases k1:t.k=1\/t.k=2\/t.k=4
   ·rw [yO k1]; exact yR ⟨by omega,rfl⟩
   ·rw [yN k1] at hr ⊢
    by_cases c:t.k=3/\Zu ns t.t 1=true
    ·rw [yO c]; exact yQ ⟨c.1,yQ ⟨rfl,c.2⟩⟩
    ·rw [yN c] at hr; omega
  ·rw [zJ3] at hr ⊢
   by_cases c2:t.k=3/\Zu ns t.t 2=true
   ·rw [yO c2]; exact yQ ⟨c2.1,yR (yQ ⟨rfl,c2.2⟩)⟩
   ·rw [yN c2] at hr ⊢
    by_cases c3:t.k=3/\Zu ns t.t 3=true
    ·rw [yO c3]; exact yQ ⟨c3.1,yR (yR ⟨rfl,c3.2⟩)⟩
    ·rw [yN c3] at hr ⊢
     by_cases c5:t.k=5/\0<op
     ·rw [yO c5]; exact yR ⟨by omega,rfl⟩
     ·rw [yN c5] at hr ⊢
      by_cases c7:t.k=7/\op=0/\la=true
      ·rw [yO c7]; exact yR ⟨by omega,rfl⟩
      ·rw [yN c7] at hr; omega
 rcases key with ⟨k3,h⟩ | ⟨hk,h0⟩
 ·left
  have es:sgT ns ts i=((zi ns ts i).toNat+2,(atT ts i).t):=by unfold sgT; rw [yO k3]
  have hb:Zu ns (atT ts i).t (zi ns ts i)=true/\1<=zi ns ts i/\zi ns ts i<=3:=by
   rcases h with ⟨e,h⟩ | ⟨e,h⟩ | ⟨e,h⟩ <;> rw [e] <;> exact ⟨h,by decide,by decide⟩
  refine ⟨k3,hb.2,es,?_⟩
  rw [es]
  exact zR4 hb.1 hb.2
 ·right
  refine ⟨by omega,h0,?_⟩
  unfold sgT
  rw [yN (by omega)]
  by_cases k4:(atT ts i).k=4
  ·rw [yO k4]; decide
  ·rw [yN k4]
   by_cases k5:(atT ts i).k=5
   ·rw [yO k5]; decide
   ·rw [yN k5]
    by_cases k7:(atT ts i).k=7
    ·rw [yO k7]; decide
    ·rw [yN k7]
     simp only
     omega
theorem zRa (h:TkF ns ts i) (hk:1<=(atT ts i).k/\(atT ts i).k<=7/\(atT ts i).k≠6) (op:Int):opS op (sgT ns ts i)=op+(if (atT ts i).k=4 then 1 else 0)-(if (atT ts i).k=5 then 1 else 0):=by
 rcases h with ⟨k3,hr,es,_⟩ | ⟨k3,h0,hn⟩
 ·rw [zk (by rw [es]; simp only; omega),yN (by omega),yN (by omega)]; omega
 ·unfold sgT
  rw [yN k3]
  by_cases k4:(atT ts i).k=4
  ·rw [yO k4,zBf,yO k4,yN (by omega)]; omega
  ·rw [yN k4]
   by_cases k5:(atT ts i).k=5
   ·rw [yO k5,zDn,yN k4,yO k5]; omega
   ·rw [yN k5,yN k4,yN k5]
    by_cases k7:(atT ts i).k=7
    ·rw [yO k7,zk (by decide)]; omega
    ·rw [yN k7,zk (by simp only; omega)]; omega
theorem zRb (op:Int) (s:SyR):op-1<=opS op s/\opS op s<=op+1:=by
 unfold opS
 split <;> split <;> omega
theorem zOl:∀ (ss:List SyR) (op:Int),op-(ss.length:Int)<=opL op ss/\opL op ss<=op+(ss.length:Int)
 | [],op=>by simp [opL]
 | s::r,op=>by
  rw [Zm]
  have h1:=zOl r (opS op s)
  have h2:=zRb op s
  simp only [yv]
  omega
def zCP (x:Option (Nat×SyR)):Int:=match x with
 | none=>-1
 | some x=>(x.1:Int)
theorem zQG (ns:List OpR) (ts:List zX) (a n:Nat):rtF ns (sgs ns ts a (n+1)) a 0 none=(if opS (opL 0 (sgs ns ts a n)) (sgT ns ts (a+n))≠0\/¬ (3<=(sgT ns ts (a+n)).1/\(sgT ns ts (a+n)).1<=5) then rtF ns (sgs ns ts a n) a 0 none else zBM ns (rtF ns (sgs ns ts a n) a 0 none) (a+n,sgT ns ts (a+n))):=by
 rw [zDR,ZF,zDp]
 rfl
theorem zMY (ns:List OpR) (ts:List zX) (a n:Nat):opL 0 (sgs ns ts a (n+1))=opS (opL 0 (sgs ns ts a n)) (sgT ns ts (a+n)):=by
 rw [zDR,zB6]
 rfl
theorem zMZ {a:Nat} {L R:List SyR} {s:SyR} (h:sgs ns ts a n=L++s::R):s=sgT ns ts (a+L.length)/\L.length<n/\L=sgs ns ts a L.length/\R=sgs ns ts (a+L.length+1) (n-L.length-1):=by
 have hl:=yS List.length h
 rw [zDp,ym,yv] at hl
 have e:n=L.length+(R.length+1):=by omega
 rw [e,zMA,zEo] at h
 have h2:=List.append_inj h (by rw [zDp])
 injection h2.2 with h3 h4
 refine ⟨h3.symm,by omega,h2.1.symm,?_⟩
 rw [<- h4]
 congr 1
 omega
theorem zQH {a:Nat} {x:Nat×SyR} (h:rtF ns (sgs ns ts a n) a 0 none=some x):a<=x.1/\x.1<a+n/\x.2=sgT ns ts x.1/\(3<=x.2.1/\x.2.1<=5):=by
 rcases zGl _ _ _ _ _ h with h | ⟨L,R,h1,h2,h3,_⟩
 ·cases h
 ·have:=zMZ h1
  refine ⟨by omega,by omega,?_,h3⟩
  rw [h2]; exact this.1
def shO (k:Nat) (x:Option (Nat×SyR)):Option (Nat×SyR):=x.map (fun x=>(x.1+k,x.2))
theorem zId (ns:List OpR) (k:Nat):∀ (ss:List SyR) (i:Nat) (op:Int) (h:Option (Nat×SyR)),rtF ns ss (i+k) op (shO k h)=shO k (rtF ns ss i op h)
 | [],i,op,h=>rfl
 | s::r,i,op,h=>by
  simp only [rtF]
  have e:i+k+1=(i+1)+k:=by omega
  rw [e]
  rw [<- zId ns k r]
  congr 1
  split
  ·rfl
  ·cases h with
   | none=>rfl
   | some b=>
    simp only [zBM,shO,Option.map]
    split <;> rfl
theorem zOm (ns:List OpR) (ss:List SyR) (a:Nat):rtF ns ss a 0 none=shO a (rtF ns ss 0 0 none):=by
 have:=zId ns a ss 0 0 none
 rw [yV] at this
 exact this
theorem zHU (b A cap:Nat) (xs:List zX) (w:JY) (hm:xs.length+Z2 xs xs.length<=1048576) (hw:zFA w b A xs) (hB:b<w.heap.size) :
  Calls Tryz.prog 115 #[.slice (some ⟨b,A,none⟩) xs.length cap] w fun e w'=>e = .returned (.string ⟨(zAe xs xs.length).toArray⟩)/\Below w.heap.size w w':=by
 obtain ⟨i0,hi,F,L,m⟩:=info_parts zJ0
 have HI:=zB hi
 have HZ:=zB (yH F (yH L m))
 have HW:=zB hw
 have HO:=zB (show (w.alloc (.cells #[] 5)).ownsRow w.heap.size 5 1 (.slice (some ⟨w.heap.size,0,none⟩) 0 0) 0 (cellsB (zAe xs 0)) by
  show (w.alloc (.cells #[] 5)).ownsRow w.heap.size 5 1 (.slice (some ⟨w.heap.size,0,none⟩) 0 0) 0 []
  simpa using yD (base:=w.heap.size) (e:=5) (size:=1) w #[] 0 (yh _) (yj _) rfl)
 clear hi F L m hw
 go_enter Tryz.func115,Tryz.ntmps115
 go_wp2
 go_loopw [3,4] (fun out i wr=>∃ (k go co n:Nat),k<=xs.length/\i = .int .i64 (k:Int)/\out = .slice (some ⟨go,0,none⟩) n co/\Hid (n=(zAe xs k).length)/\Hid (wr.ownsRow w.heap.size 5 1 (.slice (some ⟨go,0,none⟩) n co) n (cellsB (zAe xs k)))/\Below w.heap.size w wr) (fun _ i _=>xs.length-(intOf i).toNat)
 case atStart=>exact ⟨0,w.heap.size,0,0,yj _,rfl,rfl,zB rfl,HO,zC _ _⟩
 case round=>
  clear HO
  obtain ⟨k,go,co,n,hk,rfl,rfl,hn,P,h⟩:=hrel
  by_cases r:k<xs.length
  ·have B:=((zA HW) k r).below h hB
   obtain ⟨a0,a1,a2⟩:=B
   have f:=(zA hn).trans (zDP xs k)
   have D:Z2 xs (k+1)<=Z2 xs xs.length:=zGo xs _ _ (by omega)
   simp only [Z2,zPU] at D
   obtain ⟨c1,w1,c,u,J⟩:=zGn wr (atT xs k).g
   have E:=zB u
   have o:=zB J
   have b2:=(J.cell (p:=⟨b,A+k*3+2,none⟩) (yi hB h.size)).trans a2
   have y:=zB ((zA P).kept (zAn J none) (yR (by simp [Value.ownBlock])))
   have X:=h.trans (J.mono h.size)
   have l:=zB f
   have T:n+(atT xs k).g.size+(atT xs k).t.size<=1048576:=by omega
   clear u J P f D h a2
   go_wp2_with (at_builtin; refine wpList_append_own _ rfl (.tmp 12) (.tmp 18) 22 rfl w.heap.size 5 i0 _ 1 1 Tryz.underlying22 (zA HI) (zA HZ).1 (zA HZ).2.1 (zA HZ).2.2 rfl (by decide) _ n (cellsB (zAe xs k)) rfl (zA y) ⟨wr.heap.size,0,none⟩ (atT xs k).g.size c1 (cellsB (atT xs k).g.data.toList) rfl (by rw [ZR]; simp) (zA E) (zGm _) ?b1 ?b2 ?b3 ?next)
   case b1=>unfold maxLen; omega
   case b2=>omega
   case b3=>exact X.size
   case next=>
    intro v2 w2 K Q U
    have R:=(zA y).lt go rfl
    have V:Below w.heap.size w w2:=X.grown Q X.size (fun q hq=>by simp [Value.ownBlock] at hq; omega)
    obtain ⟨g2,q2,rfl⟩:=ZW K (by simp [U])
    rw [<- zBW] at K
    have d2:w2.cell? ⟨b,A+k*3+2,none⟩=some (.string (atT xs k).t):=Q.cell b2 (by simp [Value.ownBlock]; omega)
    obtain ⟨c3,w3,O,a,C⟩:=zGn w2 (atT xs k).t
    have I:=zB a
    have x:=zB (K.kept (zAn C none) (yR (by simp [Value.ownBlock])))
    have Y:=V.trans (C.mono V.size)
    clear K Q U y E o a C b2 c a0 a1
    go_wp2_with (at_builtin; refine wpList_append_own _ rfl (.tmp 20) (.tmp 26) 22 rfl w.heap.size 5 i0 _ 1 1 Tryz.underlying22 (zA HI) (zA HZ).1 (zA HZ).2.1 (zA HZ).2.2 rfl (by decide) _ (n+(atT xs k).g.size) _ rfl (zA x) ⟨w2.heap.size,0,none⟩ (atT xs k).t.size c3 (cellsB (atT xs k).t.data.toList) rfl (by rw [ZR]; simp) (zA I) (zGm _) ?b1 ?b2 ?b3 ?next)
    case b1=>unfold maxLen; omega
    case b2=>omega
    case b3=>exact Y.size
    case next=>
     intro v4 w4 H j v
     have s:=(zA x).lt g2 rfl
     have d:Below w.heap.size w w4:=Y.grown j Y.size (fun q hq=>by simp [Value.ownBlock] at hq; omega)
     obtain ⟨g4,q4,rfl⟩:=ZW H (by simp [v])
     rw [<- zBW] at H
     have M:=zB (show w4.ownsRow w.heap.size 5 1 (.slice (some ⟨g4,0,none⟩) (n+(atT xs k).g.size+(atT xs k).t.size) q4) (n+(atT xs k).g.size+(atT xs k).t.size) (cellsB (zAe xs (k+1))) from H)
     have N:=zB (show n+(atT xs k).g.size+(atT xs k).t.size=(zAe xs (k+1)).length by rw [zDP]; have:=zA l; simp only [Z2,zPU]; omega)
     clear H j v x I l hn
     go_wp2
     exact ⟨⟨k+1,g4,q4,_,by omega,by go_num,rfl,N,M,d⟩,by simp [intOf]; omega⟩
  ·have G:k=xs.length:=by omega
   have S:=zFl wr go n co (zAe xs k) (zA hn) (zJ1 (zA P))
   have HK:=zB G
   clear G
   go_wp2
   go_ret
   exact ⟨zLy (by rw [zA HK]),h⟩
end Go.Proofs.YtgbkgkdpdfdokaaGreatDoor
