import Derived.Deep.DeepCutAuto
import Derived.Deep.RegionHeld
import Derived.Deep.RegionHeldLaw
import Derived.Deep.AppendLies
import Derived.BigQuiet
import Derived.Test.YtfboipappaonhaaGreatF10
import Derived.Test.YtfboipappaonhaaGreatF17
import Derived.Test.YtfboipappaonhaaGreatF18
namespace Go.Proofs.YtfboipappaonhaaGreat
set_option linter.unusedSimpArgs false
set_option linter.unusedVariables false
set_option maxHeartbeats 16000000
set_option maxRecDepth 100000
open Go.RowKit
def zFL (w:World) (a:Nat) (x:zu):Prop:=w.cell? ⟨a,0,none⟩=some (.string x.t)/\w.cell? ⟨a,1,none⟩=some (.bool x.o)/\w.cell? ⟨a,2,none⟩=some (.bool x.i)
theorem zPF {W:World} {b:Nat} (x:zu) (h0:∃ u,W.cell? ⟨b,0,none⟩=some u) (h1:∃ u,W.cell? ⟨b,1,none⟩=some u) (h2:∃ u,W.cell? ⟨b,2,none⟩=some u):zFL (W.setCells b 0 [.string x.t,.bool x.o,.bool x.i]) b x:=by
 have hin:=World.cell?_setCells_in b [.string x.t,.bool x.o,.bool x.i] 0 W (fun j hj=>by
  simp only [List.length_cons,List.length_nil] at hj
  obtain ⟨u0,h0⟩:=h0
  obtain ⟨u1,h1⟩:=h1
  obtain ⟨u2,h2⟩:=h2
  match j,hj with
  | 0,_=>rw [h0]; rfl
  | 1,_=>rw [h1]; rfl
  | 2,_=>rw [h2]; rfl)
 exact ⟨by simpa using hin 0 (by simp),by simpa using hin 1 (by simp),by simpa using hin 2 (by simp)⟩
theorem zN6 {W:World} {b N:Nat} {o:zD} (h:ZC W N o) (vs:List Value) (hne:b≠N):ZC (W.setCells b 0 vs) N o:=
 h.grown (ze (zAd vs 0 W)) (fun e=>hne (Option.some.inj e))
theorem ZK {w w':World} {b off:Nat} {xs:List zD} {row:Option Nat} (h:Zu w b off xs) (hg:w.grownBy w' row) (hb:b<w.heap.size) (hne:row≠some b):Zu w' b off xs:=fun i hi=>by
 obtain ⟨h0,h1,h2,h3⟩:=h i hi
 have e:=fun o=>zH hg hb hne o
 exact ⟨(e _).trans h0,(e _).trans h1,(e _).trans h2,(e _).trans h3⟩
theorem zFL.grown {w w':World} {a:Nat} {x:zu} {row:Option Nat} (h:zFL w a x) (hg:w.grownBy w' row) (hne:row≠some a):zFL w' a x:=by
 obtain ⟨h0,h1,h2⟩:=h
 have e:=fun o=>zH hg (block_lt_of_cell h0) hne o
 exact ⟨(e _).trans h0,(e _).trans h1,(e _).trans h2⟩
def SY (A b8:Nat) (k ja jb:Int) (x:zu) (w:World):Prop:=w.cell? ⟨A,0,none⟩=some (.int .i64 k)/\w.cell? ⟨A,2,none⟩=some (.int .i64 ja)/\w.cell? ⟨A,3,none⟩=some (.int .i64 jb)/\w.cell? ⟨b8,0,none⟩=some (.string x.t)/\w.cell? ⟨b8,1,none⟩=some (.bool x.o)/\w.cell? ⟨b8,2,none⟩=some (.bool x.i)
theorem SY.grown {A b8:Nat} {k ja jb:Int} {x:zu} {w w':World} {row:Option Nat} (h:SY A b8 k ja jb x w) (hg:w.grownBy w' row) (h1:row≠some A) (h2:row≠some b8):SY A b8 k ja jb x w':=by
 obtain ⟨z,a,b,c,d,e⟩:=h
 have ea:=fun o=>zH hg (block_lt_of_cell a) h1 o
 have eb:=fun o=>zH hg (block_lt_of_cell c) h2 o
 exact ⟨(ea _).trans z,(ea _).trans a,(ea _).trans b,(eb _).trans c,(eb _).trans d,(eb _).trans e⟩
theorem SY.below {A b8:Nat} {k ja jb:Int} {x:zu} {w w':World} (h:SY A b8 k ja jb x w) (hb:Below w.heap.size w w'):SY A b8 k ja jb x w':=h.grown (row:=none) (zZ hb none) (by simp) (by simp)
theorem zFL.news {w:World} {a:Nat} {x:zu} (h:zFL w a x):∀ j u,(ZG [x])[j]?=some u->w.cell? ((⟨a,0,none⟩:Addr).add j)=some u:=by
 intro j u hj
 rw [Addr.add_mid,Nat.zero_add]
 obtain ⟨h0,h1,h2⟩:=h
 match j,hj with
 | 0,hj=>simp [ZG] at hj; subst hj; exact h0
 | 1,hj=>simp [ZG] at hj; subst hj; exact h1
 | 2,hj=>simp [ZG] at hj; subst hj; exact h2
theorem zGC {r r':Option Nat} {H x:Nat} (h:r'=r\/∃ k,r'=some k/\H<=k) (hn:r≠some x) (hx:x<H):r'≠some x:=fun e=>by
 rcases h with h | ⟨k,h1,h2⟩
 ·exact hn (h.symm.trans e)
 ·rw [h1] at e; injection e with e; omega
theorem zPx {v:Value} {g H x:Nat} (hat:v.ownBlock=some g\/g=H) (hnb:v.ownBlock≠some x) (hx:x<H):some g≠some x:=fun e=>by
 injection e with e
 rcases hat with h | h
 ·exact hnb (by rw [h,e])
 ·omega
def zMa (bz offz cz:Nat) (zs:List zD) (B:Nat) (j:Nat) (a b:List zu):Prop:=∀ (u:Value) (W:World),Zu W bz offz zs->B<=W.heap.size->zBN W B u a ->
 Calls Tryz.prog 30 #[.slice (some ⟨bz,offz,none⟩) zs.length cz,.int .i64 (j:Int),u] W (zKM W B u b)
def zQs (bz offz cz:Nat) (zs:List zD) (B:Nat) (k:Int) (t:ByteArray) (ja jb:Nat) (us vs:List zu):Prop:=
 (zU k=0/\vs=us++[⟨t,false,false⟩])\/(k=3/\∃ us1,us1=us++[⟨t,true,false⟩]/\zMa bz offz cz zs B ja us1 vs) \/
 (k=6/\∃ us1 us2,us1=us++[⟨opn,false,false⟩]/\zMa bz offz cz zs B ja us1 us2/\vs=us2++[⟨zA1,false,false⟩]/\us2.length<=90000) \/
 (k=5/\∃ us1,zMa bz offz cz zs B ja us us1/\vs=us1++[⟨t,true,false⟩]/\us1.length<=90000) \/
 (k=4/\∃ us1 us2,zMa bz offz cz zs B ja us us1/\us2=us1++[⟨t,true,true⟩]/\zMa bz offz cz zs B jb us2 vs/\us1.length<=90000)
theorem zHL (bz offz cz i:Nat) (zs:List zD) (k:Int) (t:ByteArray) (ja jb:Nat) (B:Nat) (u:Value) (us vs:List zu) (w:World) (hwz:Zu w bz offz zs) (hbz:bz<B) (hB:B<=w.heap.size) (hrow:zBN w B u us) (hi:i<zs.length) (hzl:zs.length<=20000) (ho:atN zs i=⟨k,t,(ja:Int),(jb:Int)⟩) (hlen:us.length<=90000) (hc:zQs bz offz cz zs B k t ja jb us vs) :
  Calls Tryz.prog 30 #[.slice (some ⟨bz,offz,none⟩) zs.length cz,.int .i64 (i:Int),u] w (zKM w B u vs):=by
 obtain ⟨i0,hi0,hz0,hz1,hz2⟩:=zl zQr
 have HI:=zB hi0
 have HZ:=zB (And.intro hz0 (And.intro hz1 hz2))
 clear hi0 hz0 hz1 hz2
 have hjI:(i:Int)<(zs.length:Int):=by omega
 obtain ⟨h0,h1,h2,h3⟩:=hwz i hi
 rw [ho] at h0 h1 h2 h3
 obtain ⟨vo,HD⟩:∃ vo,Hid (vo=decide (3<=k/\k<=5)):=⟨_,zB rfl⟩
 obtain ⟨av,cv,rfl⟩:=zBY hrow
 have hnb:∀ x,w.heap.size<=x->(Value.slice av us.length cv).ownBlock≠some x:=fun x hx e=>by have:=(hrow.lt _ e).2; omega
 have hnz:(Value.slice av us.length cv).ownBlock≠some bz:=fun e=>by have:=(hrow.lt _ e).1; omega
 have HNB:=zB hnb
 have HNZ:=zB hnz
 have HR:=zB hrow
 have HC:=zB hc
 have HWZ:=zB hwz
 clear hrow hc hwz ho hnb hnz
 go_enter Tryz.func30,Tryz.ntmps30
 go_wp2_with fail
 have HN:=zB (show ZC (w.alloc (.cells #[.int .i64 k,.string t,.int .i64 (ja:Int),.int .i64 (jb:Int)] 81)) w.heap.size ⟨k,t,(ja:Int),(jb:Int)⟩ from ⟨by simp [go_sem],by simp [go_sem],by simp [go_sem],by simp [go_sem],by simp [go_sem],by simp [go_sem]⟩)
 have HBW:=zB (show Below w.heap.size w (w.alloc (.cells #[.int .i64 k,.string t,.int .i64 (ja:Int),.int .i64 (jb:Int)] 81)) from zC _ _)
 clear h0 h1 h2 h3
 go_cut [8] (fun s8 wc=>∃ b8:Nat,s8 = .pointer (some ⟨b8,0,none⟩)/\w.heap.size<=b8/\Hid (zFL wc b8 ⟨t,vo,k==4⟩)/\Hid (ZC wc w.heap.size ⟨k,t,(ja:Int),(jb:Int)⟩)/\Hid (Below w.heap.size w wc))
 case first=>
  clear HC HR HNB HNZ HWZ
  have HNa:=zB ((zA HN).below (Below.refl _ _).drew)
  have HNb:=zB (((zA HN).below (zC _ (.cells #[.string ⟨#[]⟩,.bool false,.bool false] 54))).below (Below.refl _ _).drew)
  have HBa:=zB (zA HBW).drew
  have HBb:=zB ((zA HBW).alloc (zA HBW).size (.cells #[.string ⟨#[]⟩,.bool false,.bool false] 54)).drew
  obtain ⟨q0,q1,q2,q3,_,_⟩:=zA HNa
  simp only at q0 q1 q2 q3
  go_region_held (fun w'=>w'.cell? ⟨w.heap.size,0,none⟩=some (.int .i64 k)/\w'.cell? ⟨w.heap.size,1,none⟩=some (.string t)/\w'.cell? ⟨w.heap.size,2,none⟩=some (.int .i64 (ja:Int))/\w'.cell? ⟨w.heap.size,3,none⟩=some (.int .i64 (jb:Int))) (first | (go_keep; done) | exact ⟨p0,p1,p2,p3⟩ | exact ⟨((zC _ _).cell (p:=⟨w.heap.size,0,none⟩) (by omega)).trans p0,((zC _ _).cell (p:=⟨w.heap.size,1,none⟩) (by omega)).trans p1,((zC _ _).cell (p:=⟨w.heap.size,2,none⟩) (by omega)).trans p2,((zC _ _).cell (p:=⟨w.heap.size,3,none⟩) (by omega)).trans p3⟩)
   ((go_at_call 65; refine (zAP ⟨k,t,(ja:Int),(jb:Int)⟩ _ vo (zA HD)).mono ?_; rintro e w1 ⟨rfl,hb1⟩; (first | (have HN1:=zB ((zA HNa).below hb1); have HB1:=zB ((zA HBa).trans (hb1.mono (zA HBa).size)); have z1:w.heap.size+1<=w1.heap.size:=(by have:=hb1.size; simp at this; omega)) | (have HN1:=zB ((zA HNb).below hb1); have HB1:=zB ((zA HBb).trans (hb1.mono (zA HBb).size)); have z1:w.heap.size+1+1<=w1.heap.size:=(by have:=hb1.size; simp at this; omega); have d0:w1.cell? ⟨w.heap.size+1,0,none⟩=some (.string ⟨#[]⟩):=(hb1.cell (p:=⟨w.heap.size+1,0,none⟩) (by simp)).trans (by simp [go_sem]); have d1:w1.cell? ⟨w.heap.size+1,1,none⟩=some (.bool false):=(hb1.cell (p:=⟨w.heap.size+1,1,none⟩) (by simp)).trans (by simp [go_sem]); have d2:w1.cell? ⟨w.heap.size+1,2,none⟩=some (.bool false):=(hb1.cell (p:=⟨w.heap.size+1,2,none⟩) (by simp)).trans (by simp [go_sem]); have e0:w1.frozen? ⟨w.heap.size+1,0,none⟩=false:=(hb1.frozen (p:=⟨w.heap.size+1,0,none⟩) (by simp)).trans (by simp [go_sem]); have e1:w1.frozen? ⟨w.heap.size+1,1,none⟩=false:=(hb1.frozen (p:=⟨w.heap.size+1,1,none⟩) (by simp)).trans (by simp [go_sem]); have e2:w1.frozen? ⟨w.heap.size+1,2,none⟩=false:=(hb1.frozen (p:=⟨w.heap.size+1,2,none⟩) (by simp)).trans (by simp [go_sem]))); obtain ⟨p0,p1,p2,p3,_,_⟩:=zA HN1; simp only at p0 p1 p2 p3; clear hb1))
  all_goals
   clear q0 q1 q2 q3 HNa HNb HBa HBb
   go_wp2_with fail
   go_meet
   case rel=>
    go_light
    first
     | exact ⟨w1.heap.size,rfl,by omega,zB ⟨by simp [go_sem],by simp [go_sem],by simp [go_sem]⟩,zB ((zA HN1).below (zC _ _)),zB ((zA HB1).alloc (zA HB1).size _)⟩
     | exact ⟨w.heap.size+1,rfl,by omega,zB (zPF ⟨t,vo,k==4⟩ ⟨_,d0⟩ ⟨_,d1⟩ ⟨_,d2⟩),zB (zN6 (b:=w.heap.size+1) (zA HN1) [.string t,.bool vo,.bool (k==4)] (by omega)),zB (zAc (g:=w.heap.size+1) (by omega) [.string t,.bool vo,.bool (k==4)] 0 w1 (zA HB1))⟩
 case rest=>
  obtain ⟨b8,rfl,hb8,HX8,HN8,HB8⟩:=hcut
  obtain ⟨n0,n1,n2,n3,_,_⟩:=zA HN8
  obtain ⟨x0,x1,x2⟩:=zA HX8
  simp only at x0 x1 x2 n0 n1 n2 n3
  have zc:=(zA HB8).size
  have hb8l:b8<wc.heap.size:=block_lt_of_cell x0
  have hNl:w.heap.size<wc.heap.size:=block_lt_of_cell n0
  have HR8:=zB ((zA HR).below (zA HB8))
  have HW8:=zB ((zA HWZ).below (zA HB8) (by omega))
  clear HN HBW HR HWZ
  rcases zA HC with ⟨hk,hvs⟩ | ⟨rfl,us1,hu1,hrec⟩ | ⟨rfl,us1,us2,hu1,hrec,hvs,hl2⟩ | ⟨rfl,us1,hrec,hvs,hl1⟩ | ⟨rfl,us1,us2,hrec,hu2,hrec2,hl1⟩
  ·have HK:=zB hk
   have HV:=zB hvs
   obtain ⟨hvo,h4⟩:vo=false/\(k==4)=false:=by
    have hn:¬ (3<=k/\k<=5):=by
     intro h
     have:k=3\/k=4\/k=5:=by omega
     rcases this with e | e | e <;> rw [e] at hk <;> simp [zU] at hk
    refine ⟨by rw [zA HD]; simpa using hn,?_⟩
    simp only [beq_eq_false_iff_ne,ne_eq]
    intro e
    rw [e] at hk
    simp [zU] at hk
   subst hvo
   rw [h4] at x2
   clear hk hvs HX8 HN8 n1 n2 n3 HC h4
   go_wp2_with fail
   refine (zS (zA HK) 0 rfl _).mono ?_
   rintro e w' ⟨rfl,hw'⟩
   have hw2:=hw'.symm
   subst hw2
   go_wp2_with (at_builtin; refine wpList_append_own_at _ rfl (.tmp 25) (.tmp 27) 51 rfl B 54 i0 _ 3 24 Tryz.underlying51 (zA HI) (zA HZ).1 (zA HZ).2.1 (zA HZ).2.2 rfl (by decide) _ us.length (ZG us) rfl ((zA HR8).below (zC _ _)) ⟨wc.heap.size,0,none⟩ 1 1 (ZG [⟨t,false,false⟩]) rfl rfl (by simpa using zB4 wc ⟨t,false,false⟩) (zAI _) ?b1 ?b2 ?b3 ?next)
   case b1=>unfold maxLen; omega
   case b2=>omega
   case b3=>first | omega | (simp; omega)
   case next=>
    intro v4 w4 hown4 hgrow4 hnil4 hat4
    have HO:=zB (show zBN w4 B v4 vs by
     rw [zA HV]
     unfold zBN
     rw [Zj,List.length_append]
     exact hown4)
    have HG:=zB (zN ((zA HB8).alloc (zA HB8).size _) hgrow4)
    have HA:=zB (show v4.ownBlock=(Value.slice av us.length cv).ownBlock\/∃ k,v4.ownBlock=some k/\w.heap.size<=k from hat4.imp id (fun h=>⟨_,h,by first | omega | (simp; omega)⟩))
    clear hown4 hgrow4 hnil4 hat4
    go_wp2_with fail
    go_ret
    exact ⟨v4,rfl,HO,HG,HA⟩
  ·have HU1:=zB hu1
   have HREC:=zB hrec
   have hvo:vo=true:=by rw [zA HD]; decide
   subst hvo
   have h4:((3:Int)==4)=false:=by decide
   rw [h4] at x2
   have HSY:=zB (show SY w.heap.size b8 3 (ja:Int) (jb:Int) ⟨t,true,false⟩ wc from ⟨n0,n2,n3,x0,x1,x2⟩)
   clear hu1 hrec HX8 HN8 HC h4
   go_wp2_with fail
   refine (zS (show zU 3=1 from rfl) 1 rfl _).mono ?_
   rintro e w' ⟨rfl,hw'⟩
   have hw2:=hw'.symm
   subst hw2
   go_wp2_with fail
   go_region_held_law (fun w'=>w'.cell? ⟨w.heap.size,0,none⟩=some (.int .i64 3)/\w'.cell? ⟨w.heap.size,2,none⟩=some (.int .i64 (ja:Int))/\w'.cell? ⟨w.heap.size,3,none⟩=some (.int .i64 (jb:Int))/\w'.cell? ⟨b8,0,none⟩=some (.string t)/\w'.cell? ⟨b8,1,none⟩=some (.bool true)/\w'.cell? ⟨b8,2,none⟩=some (.bool false)) (first | (go_keep; done) | exact zA HSY4 | exact zA HSY5)
    (first | (refine step_append_lies _ (by rfl) (.tmp 35) (.tmp 37) 51 (by rfl) B 54 i0 _ 3 24 Tryz.underlying51 (zA HI) (zA HZ).1 (zA HZ).2.1 (zA HZ).2.2 rfl (by decide) _ us.length (ZG us) (by rfl) ?hown1 ⟨wc.heap.size,0,none⟩ 1 1 (ZG [⟨t,true,false⟩]) (by rfl) rfl ?hnews1 (zAI _) (by decide) (by unfold maxLen; omega) (by omega) ?hbase1 _ rfl ?_; exact (((zA HR8).below (zC _ _)).below (Below.refl _ _).drew); exact (fun j u hj=>zB4 wc ⟨t,true,false⟩ j u hj); (simp; omega); intro g4 c4 w4 hown4 hgrow4 hat4 hlt4; have HG4:=zB (show ∀ x,w.heap.size<=x->x<wc.heap.size->some g4≠some x from fun x hx hx2=>zPx hat4 ((zA HNB) x hx) (by simp; omega)); have HSY4:=zB (((zA HSY).below ((zC _ _).drew)).grown hgrow4 ((zA HNB) _ (Nat.le_refl _)) ((zA HNB) _ hb8)); have HR4:=zB (show zBN w4 B (.slice (some ⟨g4,0,none⟩) (us.length+1) c4) us1 by unfold zBN; rw [zA HU1,Zj,List.length_append]; exact hown4); have HW4:=zB (ZK ((zA HW8).below ((zC _ _).drew) (by omega)) hgrow4 (by simp; omega) (zA HNZ)); have HGR4:=zB (zN (((zA HB8).alloc (zA HB8).size _).drew) hgrow4); have HA4:=zB (show (Value.slice (some ⟨g4,0,none⟩) (us.length+1) c4).ownBlock=(Value.slice av us.length cv).ownBlock\/∃ k,(Value.slice (some ⟨g4,0,none⟩) (us.length+1) c4).ownBlock=some k/\w.heap.size<=k from hat4.imp (fun h=>h.symm) (fun h=>⟨_,rfl,(by subst h; simp; omega)⟩)); have z4:=(zA HGR4).size; clear hown4 hgrow4 hat4) | (go_at_call 30; refine ((zA HREC) _ w4 (zA HW4) (by omega) (zA HR4)).mono ?_; intro x w5 hp5; have HSY5:Hid (SY w.heap.size b8 3 (ja:Int) (jb:Int) ⟨t,true,false⟩ w5):=(by obtain ⟨_,_,_,g5,_⟩:=hp5; exact zB ((zA HSY4).grown (zA g5) ((zA HG4) _ (Nat.le_refl _) hNl) ((zA HG4) _ hb8 hb8l))); obtain ⟨u5,rfl,r5,g5,o5⟩:=hp5.join (zA HGR4) (zA HA4)))
   go_wp2_with fail
   go_ret
   exact ⟨u5,rfl,r5,g5,o5⟩
  ·have HU1:=zB hu1
   have HREC:=zB hrec
   have HV:=zB hvs
   have hvo:vo=false:=by rw [zA HD]; decide
   subst hvo
   have h4:((6:Int)==4)=false:=by decide
   rw [h4] at x2
   have HSY:=zB (show SY w.heap.size b8 6 (ja:Int) (jb:Int) ⟨t,false,false⟩ wc from ⟨n0,n2,n3,x0,x1,x2⟩)
   clear hu1 hrec hvs HX8 HN8 HC h4
   go_wp2_with fail
   refine (zS (show zU 6=1 from rfl) 1 rfl _).mono ?_
   rintro e w' ⟨rfl,hw'⟩
   have hw2:=hw'.symm
   subst hw2
   go_wp2_with fail
   go_region_held_law (fun w'=>w'.cell? ⟨w.heap.size,0,none⟩=some (.int .i64 6)/\w'.cell? ⟨w.heap.size,2,none⟩=some (.int .i64 (ja:Int))/\w'.cell? ⟨w.heap.size,3,none⟩=some (.int .i64 (jb:Int))/\w'.cell? ⟨b8,0,none⟩=some (.string t)/\w'.cell? ⟨b8,1,none⟩=some (.bool false)/\w'.cell? ⟨b8,2,none⟩=some (.bool false)) (first | (go_keep; done) | exact zA HSY4 | exact zA HSY5)
    (first | (refine step_append_lies _ (by rfl) (.tmp 46) (.tmp 48) 51 (by rfl) B 54 i0 _ 3 24 Tryz.underlying51 (zA HI) (zA HZ).1 (zA HZ).2.1 (zA HZ).2.2 rfl (by decide) _ us.length (ZG us) (by rfl) ?hown2 ⟨wc.heap.size,0,none⟩ 1 1 (ZG [⟨⟨#[40]⟩,false,false⟩]) (by rfl) rfl ?hnews2 (zAI _) (by decide) (by unfold maxLen; omega) (by omega) ?hbase2 _ rfl ?_; exact (((zA HR8).below (zC _ _)).below (Below.refl _ _).drew); exact (fun j u hj=>zB4 wc ⟨⟨#[40]⟩,false,false⟩ j u hj); (simp; omega); intro g4 c4 w4 hown4 hgrow4 hat4 hlt4; have HG4:=zB (show ∀ x,w.heap.size<=x->x<wc.heap.size->some g4≠some x from fun x hx hx2=>zPx hat4 ((zA HNB) x hx) (by simp; omega)); have HSY4:=zB (((zA HSY).below ((zC _ _).drew)).grown hgrow4 ((zA HNB) _ (Nat.le_refl _)) ((zA HNB) _ hb8)); have HR4:=zB (show zBN w4 B (.slice (some ⟨g4,0,none⟩) (us.length+1) c4) us1 by unfold zBN; rw [zA HU1,Zj,List.length_append]; exact hown4); have HW4:=zB (ZK ((zA HW8).below ((zC _ _).drew) (by omega)) hgrow4 (by simp; omega) (zA HNZ)); have HGR4:=zB (zN (((zA HB8).alloc (zA HB8).size _).drew) hgrow4); have HA4:=zB (show (Value.slice (some ⟨g4,0,none⟩) (us.length+1) c4).ownBlock=(Value.slice av us.length cv).ownBlock\/∃ k,(Value.slice (some ⟨g4,0,none⟩) (us.length+1) c4).ownBlock=some k/\w.heap.size<=k from hat4.imp (fun h=>h.symm) (fun h=>⟨_,rfl,(by subst h; simp; omega)⟩)); have z4:=(zA HGR4).size; clear hown4 hgrow4 hat4) | (go_at_call 30; refine ((zA HREC) _ w4 (zA HW4) (by omega) (zA HR4)).mono ?_; intro x w5 hp5; have HSY5:Hid (SY w.heap.size b8 6 (ja:Int) (jb:Int) ⟨t,false,false⟩ w5):=(by obtain ⟨_,_,_,g5,_⟩:=hp5; exact zB ((zA HSY4).grown (zA g5) ((zA HG4) _ (Nat.le_refl _) hNl) ((zA HG4) _ hb8 hb8l))); obtain ⟨u5,rfl,r5,g5,o5⟩:=hp5.join (zA HGR4) (zA HA4); obtain ⟨a5,k5,rfl⟩:=zBY (zA r5)))
   have z5:=(zA g5).size
   clear n0 n1 n2 n3 x0 x1 x2
   go_wp2_with (at_builtin; refine wpList_append_own_at _ rfl (.tmp 51) (.tmp 53) 51 rfl B 54 i0 _ 3 24 Tryz.underlying51 (zA HI) (zA HZ).1 (zA HZ).2.1 (zA HZ).2.2 rfl (by decide) _ us2.length (ZG us2) rfl ((zA r5).below (zC _ _)) ⟨w5.heap.size,0,none⟩ 1 1 (ZG [⟨⟨#[41]⟩,false,false⟩]) rfl rfl (by simpa using zB4 w5 ⟨⟨#[41]⟩,false,false⟩) (zAI _) ?b1 ?b2 ?b3 ?next)
   case b1=>unfold maxLen; omega
   case b2=>omega
   case b3=>first | omega | (simp; omega)
   case next=>
    intro v6 w6 hown6 hgrow6 hnil6 hat6
    have HO:=zB (show zBN w6 B v6 vs by
     rw [zA HV]
     unfold zBN
     rw [Zj,List.length_append]
     exact hown6)
    have HGc:=zB (zN (zC w5 _) hgrow6)
    have HG6:=zB (zO (zA g5) (zA HGc) (zA o5))
    have HA6:=zB (ZN (zA g5) (zA o5) v6.ownBlock (hat6.imp id (fun h=>⟨_,h,by first | exact Nat.le_refl _ | simp⟩)))
    clear hown6 hgrow6 hnil6 hat6 HGc
    go_wp2_with fail
    go_ret
    exact ⟨v6,rfl,HO,HG6,HA6⟩
  ·have HREC:=zB hrec
   have HV:=zB hvs
   clear hvs
   have hvo:vo=true:=by rw [zA HD]; decide
   subst hvo
   have h4:((5:Int)==4)=false:=by decide
   rw [h4] at x2
   have HSY:=zB (show SY w.heap.size b8 5 (ja:Int) (jb:Int) ⟨t,true,false⟩ wc from ⟨n0,n2,n3,x0,x1,x2⟩)
   have HSYd:=zB ((zA HSY).below (Below.refl _ _).drew)
   have HW8d:=zB (show Zu wc.drew bz offz zs from (zA HW8).below (B:=wc.heap.size) (Below.refl _ _).drew (by omega))
   have HR8d:=zB ((zA HR8).below (Below.refl _ _).drew)
   have HSYe:=zB (((zA HSY).below (zC _ (.cells #[.string t,.bool true,.bool false] 54))).below (Below.refl _ _).drew)
   have HXe:=zB (show zFL (wc.alloc (.cells #[.string t,.bool true,.bool false] 54)).drew wc.heap.size ⟨t,true,false⟩ from ⟨by simp [go_sem],by simp [go_sem],by simp [go_sem]⟩)
   have HW8e:=zB (show Zu (wc.alloc (.cells #[.string t,.bool true,.bool false] 54)).drew bz offz zs from (zA HW8).below (B:=wc.heap.size) (zC _ _).drew (by omega))
   have HR8e:=zB (((zA HR8).below (zC _ (.cells #[.string t,.bool true,.bool false] 54))).below (Below.refl _ _).drew)
   clear hrec HX8 HN8 HC h4
   go_wp2_with fail
   refine (zS (show zU 5=1 from rfl) 1 rfl _).mono ?_
   rintro e w' ⟨rfl,hw'⟩
   have hw2:=hw'.symm
   subst hw2
   go_wp2_with fail
   go_region_held_law (fun w'=>w'.cell? ⟨w.heap.size,0,none⟩=some (.int .i64 5)/\w'.cell? ⟨w.heap.size,2,none⟩=some (.int .i64 (ja:Int))/\w'.cell? ⟨w.heap.size,3,none⟩=some (.int .i64 (jb:Int))/\w'.cell? ⟨b8,0,none⟩=some (.string t)/\w'.cell? ⟨b8,1,none⟩=some (.bool true)/\w'.cell? ⟨b8,2,none⟩=some (.bool false)) (first | (go_keep; done) | exact zA HSY5 | exact (zA HSY5).below (zC _ _) | exact zA HSY6)
    (first | (go_at_call 30; have HXC:=(zA HREC) _ wc.drew (zA HW8d) (by simp; omega) (zA HR8d); (with_reducible refine HXC.mono ?_); clear HXC; rintro x w5 ⟨u5,rfl,r5,g5,o5⟩; obtain ⟨a5,k5,rfl⟩:=zBY (zA r5); have HSY5:=zB ((zA HSYd).grown (zA g5) ((zA HNB) _ (Nat.le_refl _)) ((zA HNB) _ hb8)); have HGR5:=zB (zN ((zA HB8).drew) (zA g5)); have HNB5:=zB (show ∀ x,w.heap.size<=x->x<wc.heap.size->(Value.slice a5 us1.length k5).ownBlock≠some x from fun x hx hx2=>zGC (zA o5) ((zA HNB) x hx) (by simpa using hx2)); have HW5:=zB (ZK (zA HW8d) (zA g5) (by simp; omega) (zA HNZ)); have HNZ5:=zB (zGC (zA o5) (zA HNZ) (by simp; omega)); have HA5:=zB ((zA o5).imp id (fun ⟨k,h1,h2⟩=>⟨k,h1,(by simp at h2; omega)⟩):(Value.slice a5 us1.length k5).ownBlock=(Value.slice av us.length cv).ownBlock\/∃ k,(Value.slice a5 us1.length k5).ownBlock=some k/\w.heap.size<=k); have z5:wc.heap.size<=w5.heap.size:=(by have:=(zA g5).size; simp at this; omega); clear g5 o5) | (go_at_call 30; have HXC:=(zA HREC) _ (wc.alloc (.cells #[.string t,.bool true,.bool false] 54)).drew (zA HW8e) (by simp; omega) (zA HR8e); (with_reducible refine HXC.mono ?_); clear HXC; rintro x w5 ⟨u5,rfl,r5,g5,o5⟩; obtain ⟨a5,k5,rfl⟩:=zBY (zA r5); have HSY5:=zB ((zA HSYe).grown (zA g5) ((zA HNB) _ (Nat.le_refl _)) ((zA HNB) _ hb8)); have HX5:=zB ((zA HXe).grown (zA g5) ((zA HNB) _ zc)); have HGR5:=zB (zN (((zA HB8).alloc (zA HB8).size _).drew) (zA g5)); have HNB5:=zB (show ∀ x,w.heap.size<=x->x<wc.heap.size->(Value.slice a5 us1.length k5).ownBlock≠some x from fun x hx hx2=>zGC (zA o5) ((zA HNB) x hx) (by simp; omega)); have HW5:=zB (ZK (zA HW8e) (zA g5) (by simp; omega) (zA HNZ)); have HNZ5:=zB (zGC (zA o5) (zA HNZ) (by simp; omega)); have HA5:=zB ((zA o5).imp id (fun ⟨k,h1,h2⟩=>⟨k,h1,(by simp at h2; omega)⟩):(Value.slice a5 us1.length k5).ownBlock=(Value.slice av us.length cv).ownBlock\/∃ k,(Value.slice a5 us1.length k5).ownBlock=some k/\w.heap.size<=k); have z5:wc.heap.size<=w5.heap.size:=(by have:=(zA g5).size; simp at this; omega); clear g5 o5) | (refine step_append_lies _ (by rfl) (.tmp 59) (.tmp 61) 51 (by rfl) B 54 i0 _ 3 24 Tryz.underlying51 (zA HI) (zA HZ).1 (zA HZ).2.1 (zA HZ).2.2 rfl (by decide) _ us1.length (ZG us1) (by rfl) ?hownA3 ⟨w5.heap.size,0,none⟩ 1 1 (ZG [⟨t,true,false⟩]) (by rfl) rfl ?hnewsA3 (zAI _) (by decide) (by unfold maxLen; omega) (by omega) ?hbaseA3 _ rfl ?_; exact ((zA r5).below (zC _ _)); exact (fun j u hj=>zB4 w5 ⟨t,true,false⟩ j u hj); (first | (simp; omega) | omega); intro g6 c6 w6 hown6 hgrow6 hat6 hlt6; have HSY6:=zB (((zA HSY5).below (zC _ _)).grown hgrow6 ((zA HNB5) _ (Nat.le_refl _) hNl) ((zA HNB5) _ hb8 hb8l)); have HGR6:=zB (zO (zA HGR5) (zN (zC w5 _) hgrow6) (zA HA5)); have HW6:=zB (ZK ((zA HW5).below (zC _ _) (by omega)) hgrow6 (by simp; omega) (zA HNZ5)); have HR6:=zB (show zBN w6 B (.slice (some ⟨g6,0,none⟩) (us1.length+1) c6) vs by unfold zBN; rw [zA HV,Zj,List.length_append]; exact hown6); have HA6:=zB (ZN (zA HGR5) (zA HA5) (Value.slice (some ⟨g6,0,none⟩) (us1.length+1) c6).ownBlock (hat6.imp (fun h=>h.symm) (fun h=>⟨_,rfl,(by subst h; first | simp | exact Nat.le_refl _)⟩))); clear hown6 hgrow6 hat6) | (refine step_append_lies _ (by rfl) (.tmp 59) (.tmp 61) 51 (by rfl) B 54 i0 _ 3 24 Tryz.underlying51 (zA HI) (zA HZ).1 (zA HZ).2.1 (zA HZ).2.2 rfl (by decide) _ us1.length (ZG us1) (by rfl) ?hownB3 ⟨wc.heap.size,0,none⟩ 1 1 (ZG [⟨t,true,false⟩]) (by rfl) rfl ?hnewsB3 (zAI _) (by decide) (by unfold maxLen; omega) (by omega) ?hbaseB3 _ rfl ?_; exact (zA r5); exact ((zA HX5).news); (first | (simp; omega) | omega); intro g6 c6 w6 hown6 hgrow6 hat6 hlt6; have HSY6:=zB ((zA HSY5).grown hgrow6 ((zA HNB5) _ (Nat.le_refl _) hNl) ((zA HNB5) _ hb8 hb8l)); have HGR6:=zB (zO (zA HGR5) hgrow6 (zA HA5)); have HW6:=zB (ZK (zA HW5) hgrow6 (by omega) (zA HNZ5)); have HR6:=zB (show zBN w6 B (.slice (some ⟨g6,0,none⟩) (us1.length+1) c6) vs by unfold zBN; rw [zA HV,Zj,List.length_append]; exact hown6); have HA6:=zB (ZN (zA HGR5) (zA HA5) (Value.slice (some ⟨g6,0,none⟩) (us1.length+1) c6).ownBlock (hat6.imp (fun h=>h.symm) (fun h=>⟨_,rfl,(by subst h; first | simp | exact Nat.le_refl _)⟩))); clear hown6 hgrow6 hat6))
   all_goals
    obtain ⟨m0,m2,m3,_,_,_⟩:=zA HSY6
    have z6:=(zA HGR6).size
    clear n0 n1 n2 n3 x0 x1 x2
    go_wp2_with fail
    go_ret
    exact ⟨_,rfl,HR6,HGR6,HA6⟩
  ·have HREC:=zB hrec
   have HREC2:=zB hrec2
   have HV:=zB hu2
   clear hu2 hrec2
   have hvo:vo=true:=by rw [zA HD]; decide
   subst hvo
   have h4:((4:Int)==4)=true:=by decide
   rw [h4] at x2
   have HSY:=zB (show SY w.heap.size b8 4 (ja:Int) (jb:Int) ⟨t,true,true⟩ wc from ⟨n0,n2,n3,x0,x1,x2⟩)
   have HSYd:=zB ((zA HSY).below (Below.refl _ _).drew)
   have HW8d:=zB (show Zu wc.drew bz offz zs from (zA HW8).below (B:=wc.heap.size) (Below.refl _ _).drew (by omega))
   have HR8d:=zB ((zA HR8).below (Below.refl _ _).drew)
   have HSYe:=zB (((zA HSY).below (zC _ (.cells #[.string t,.bool true,.bool true] 54))).below (Below.refl _ _).drew)
   have HXe:=zB (show zFL (wc.alloc (.cells #[.string t,.bool true,.bool true] 54)).drew wc.heap.size ⟨t,true,true⟩ from ⟨by simp [go_sem],by simp [go_sem],by simp [go_sem]⟩)
   have HW8e:=zB (show Zu (wc.alloc (.cells #[.string t,.bool true,.bool true] 54)).drew bz offz zs from (zA HW8).below (B:=wc.heap.size) (zC _ _).drew (by omega))
   have HR8e:=zB (((zA HR8).below (zC _ (.cells #[.string t,.bool true,.bool true] 54))).below (Below.refl _ _).drew)
   clear hrec HX8 HN8 HC h4
   go_wp2_with fail
   refine (zS (show zU 4=2 from rfl) 2 rfl _).mono ?_
   rintro e w' ⟨rfl,hw'⟩
   have hw2:=hw'.symm
   subst hw2
   go_wp2_with fail
   go_region_held_law (fun w'=>w'.cell? ⟨w.heap.size,0,none⟩=some (.int .i64 4)/\w'.cell? ⟨w.heap.size,2,none⟩=some (.int .i64 (ja:Int))/\w'.cell? ⟨w.heap.size,3,none⟩=some (.int .i64 (jb:Int))/\w'.cell? ⟨b8,0,none⟩=some (.string t)/\w'.cell? ⟨b8,1,none⟩=some (.bool true)/\w'.cell? ⟨b8,2,none⟩=some (.bool true)) (first | (go_keep; done) | exact zA HSY5 | exact (zA HSY5).below (zC _ _) | exact zA HSY6)
    (first | (go_at_call 30; have HXC:=(zA HREC) _ wc.drew (zA HW8d) (by simp; omega) (zA HR8d); (with_reducible refine HXC.mono ?_); clear HXC; rintro x w5 ⟨u5,rfl,r5,g5,o5⟩; obtain ⟨a5,k5,rfl⟩:=zBY (zA r5); have HSY5:=zB ((zA HSYd).grown (zA g5) ((zA HNB) _ (Nat.le_refl _)) ((zA HNB) _ hb8)); have HGR5:=zB (zN ((zA HB8).drew) (zA g5)); have HNB5:=zB (show ∀ x,w.heap.size<=x->x<wc.heap.size->(Value.slice a5 us1.length k5).ownBlock≠some x from fun x hx hx2=>zGC (zA o5) ((zA HNB) x hx) (by simpa using hx2)); have HW5:=zB (ZK (zA HW8d) (zA g5) (by simp; omega) (zA HNZ)); have HNZ5:=zB (zGC (zA o5) (zA HNZ) (by simp; omega)); have HA5:=zB ((zA o5).imp id (fun ⟨k,h1,h2⟩=>⟨k,h1,(by simp at h2; omega)⟩):(Value.slice a5 us1.length k5).ownBlock=(Value.slice av us.length cv).ownBlock\/∃ k,(Value.slice a5 us1.length k5).ownBlock=some k/\w.heap.size<=k); have z5:wc.heap.size<=w5.heap.size:=(by have:=(zA g5).size; simp at this; omega); clear g5 o5) | (go_at_call 30; have HXC:=(zA HREC) _ (wc.alloc (.cells #[.string t,.bool true,.bool true] 54)).drew (zA HW8e) (by simp; omega) (zA HR8e); (with_reducible refine HXC.mono ?_); clear HXC; rintro x w5 ⟨u5,rfl,r5,g5,o5⟩; obtain ⟨a5,k5,rfl⟩:=zBY (zA r5); have HSY5:=zB ((zA HSYe).grown (zA g5) ((zA HNB) _ (Nat.le_refl _)) ((zA HNB) _ hb8)); have HX5:=zB ((zA HXe).grown (zA g5) ((zA HNB) _ zc)); have HGR5:=zB (zN (((zA HB8).alloc (zA HB8).size _).drew) (zA g5)); have HNB5:=zB (show ∀ x,w.heap.size<=x->x<wc.heap.size->(Value.slice a5 us1.length k5).ownBlock≠some x from fun x hx hx2=>zGC (zA o5) ((zA HNB) x hx) (by simp; omega)); have HW5:=zB (ZK (zA HW8e) (zA g5) (by simp; omega) (zA HNZ)); have HNZ5:=zB (zGC (zA o5) (zA HNZ) (by simp; omega)); have HA5:=zB ((zA o5).imp id (fun ⟨k,h1,h2⟩=>⟨k,h1,(by simp at h2; omega)⟩):(Value.slice a5 us1.length k5).ownBlock=(Value.slice av us.length cv).ownBlock\/∃ k,(Value.slice a5 us1.length k5).ownBlock=some k/\w.heap.size<=k); have z5:wc.heap.size<=w5.heap.size:=(by have:=(zA g5).size; simp at this; omega); clear g5 o5) | (refine step_append_lies _ (by rfl) (.tmp 59) (.tmp 61) 51 (by rfl) B 54 i0 _ 3 24 Tryz.underlying51 (zA HI) (zA HZ).1 (zA HZ).2.1 (zA HZ).2.2 rfl (by decide) _ us1.length (ZG us1) (by rfl) ?hownA4 ⟨w5.heap.size,0,none⟩ 1 1 (ZG [⟨t,true,true⟩]) (by rfl) rfl ?hnewsA4 (zAI _) (by decide) (by unfold maxLen; omega) (by omega) ?hbaseA4 _ rfl ?_; exact ((zA r5).below (zC _ _)); exact (fun j u hj=>zB4 w5 ⟨t,true,true⟩ j u hj); (first | (simp; omega) | omega); intro g6 c6 w6 hown6 hgrow6 hat6 hlt6; have HSY6:=zB (((zA HSY5).below (zC _ _)).grown hgrow6 ((zA HNB5) _ (Nat.le_refl _) hNl) ((zA HNB5) _ hb8 hb8l)); have HGR6:=zB (zO (zA HGR5) (zN (zC w5 _) hgrow6) (zA HA5)); have HW6:=zB (ZK ((zA HW5).below (zC _ _) (by omega)) hgrow6 (by simp; omega) (zA HNZ5)); have HR6:=zB (show zBN w6 B (.slice (some ⟨g6,0,none⟩) (us1.length+1) c6) us2 by unfold zBN; rw [zA HV,Zj,List.length_append]; exact hown6); have HA6:=zB (ZN (zA HGR5) (zA HA5) (Value.slice (some ⟨g6,0,none⟩) (us1.length+1) c6).ownBlock (hat6.imp (fun h=>h.symm) (fun h=>⟨_,rfl,(by subst h; first | simp | exact Nat.le_refl _)⟩))); clear hown6 hgrow6 hat6) | (refine step_append_lies _ (by rfl) (.tmp 59) (.tmp 61) 51 (by rfl) B 54 i0 _ 3 24 Tryz.underlying51 (zA HI) (zA HZ).1 (zA HZ).2.1 (zA HZ).2.2 rfl (by decide) _ us1.length (ZG us1) (by rfl) ?hownB4 ⟨wc.heap.size,0,none⟩ 1 1 (ZG [⟨t,true,true⟩]) (by rfl) rfl ?hnewsB4 (zAI _) (by decide) (by unfold maxLen; omega) (by omega) ?hbaseB4 _ rfl ?_; exact (zA r5); exact ((zA HX5).news); (first | (simp; omega) | omega); intro g6 c6 w6 hown6 hgrow6 hat6 hlt6; have HSY6:=zB ((zA HSY5).grown hgrow6 ((zA HNB5) _ (Nat.le_refl _) hNl) ((zA HNB5) _ hb8 hb8l)); have HGR6:=zB (zO (zA HGR5) hgrow6 (zA HA5)); have HW6:=zB (ZK (zA HW5) hgrow6 (by omega) (zA HNZ5)); have HR6:=zB (show zBN w6 B (.slice (some ⟨g6,0,none⟩) (us1.length+1) c6) us2 by unfold zBN; rw [zA HV,Zj,List.length_append]; exact hown6); have HA6:=zB (ZN (zA HGR5) (zA HA5) (Value.slice (some ⟨g6,0,none⟩) (us1.length+1) c6).ownBlock (hat6.imp (fun h=>h.symm) (fun h=>⟨_,rfl,(by subst h; first | simp | exact Nat.le_refl _)⟩))); clear hown6 hgrow6 hat6))
   all_goals
    obtain ⟨m0,m2,m3,_,_,_⟩:=zA HSY6
    have z6:=(zA HGR6).size
    clear n0 n1 n2 n3 x0 x1 x2
    go_wp2_with fail
    refine ((zA HREC2) _ _ (zA HW6) (by omega) (zA HR6)).mono ?_
    intro x w7 hp7
    obtain ⟨u7,rfl,r7,g7,o7⟩:=hp7.join (zA HGR6) (zA HA6)
    clear m0 m2 m3
    go_wp2_with fail
    go_ret
    exact ⟨u7,rfl,r7,g7,o7⟩
end Go.Proofs.YtfboipappaonhaaGreat
