import Derived.Deep.QuietTactic
import Derived.BigQuiet
import Derived.Test.YtfboipappaonhaaGreatF00
import Derived.Test.YtfboipappaonhaaGreatF01
import Derived.Test.YtfboipappaonhaaGreatF02
import Derived.Test.YtfboipappaonhaaGreatF03
import Derived.Test.YtfboipappaonhaaGreatF12
import Derived.Test.YtfboipappaonhaaGreatF14
import Derived.Test.YtfboipappaonhaaGreatF28
namespace Go.Proofs.YtfboipappaonhaaGreat
set_option linter.unusedSimpArgs false
set_option linter.unusedVariables false
set_option maxHeartbeats 16000000
set_option maxRecDepth 100000
open Go.RowKit
open Go.Deep (BT)
theorem zMg {ns:List OpR}:∀ (T:ET) (least:Int),zf ns T->(tsz (grT ns T least)<=tsz T+1/\hT (grT ns T least)<=hT T+1)/\(least<=lvT ns T->tsz (grT ns T least)<=tsz T/\hT (grT ns T least)<=hT T):=by
 intro T
 induction T with
 | nil=>intro least h; exact h.elim
 | node b o t l r ihl ihr=>
  rintro least ⟨h0,h⟩
  simp only [grT]
  by_cases e:b=6
  ·rw [if_pos e]
   subst e
   obtain ⟨hl,hr⟩:zf ns l/\r = .nil:=by
    rcases h with ⟨h | h,_⟩ | ⟨_,_,a,b⟩ | ⟨h | h,_⟩ | ⟨h,_⟩
    ·omega
    ·omega
    ·exact ⟨a,b⟩
    ·omega
    ·omega
    ·omega
   subst hr
   obtain ⟨⟨h1,h2⟩,_⟩:=ihl least hl
   simp only [tsz,hT]
   exact ⟨⟨by omega,by omega⟩,fun _=>⟨by omega,by omega⟩⟩
  ·rw [if_neg e]
   have hL:tsz (grT ns l (zY ns (rt b t) false))<=tsz l/\hT (grT ns l (zY ns (rt b t) false))<=hT l:=by
    rcases h with ⟨_,rfl,_⟩ | ⟨h,_⟩ | ⟨_,_,hl,_,hh⟩ | ⟨_,_,hl,_,hh,_⟩
    ·exact ⟨Nat.le_refl _,Nat.le_refl _⟩
    ·exact absurd h e
    ·exact (ihl _ hl).2 hh
    ·exact (ihl _ hl).2 hh
   have hR:tsz (grT ns r (zY ns (rt b t) true))<=tsz r/\hT (grT ns r (zY ns (rt b t) true))<=hT r:=by
    rcases h with ⟨_,_,rfl⟩ | ⟨h,_⟩ | ⟨_,_,_,rfl,_⟩ | ⟨_,_,_,hr,_,hh⟩
    ·exact ⟨Nat.le_refl _,Nat.le_refl _⟩
    ·exact absurd h e
    ·exact ⟨Nat.le_refl _,Nat.le_refl _⟩
    ·exact (ihr _ hr).2 hh
   unfold clT
   by_cases hlv:Zd ns (rt b t)<least
   ·rw [if_pos hlv]
    simp only [tsz,hT]
    refine ⟨⟨by omega,by omega⟩,fun hle=>?_⟩
    exfalso
    simp only [lvT] at hle
    have:sLv ns (b,t)=Zd ns (rt b t):=rfl
    omega
   ·rw [if_neg hlv]
    simp only [tsz,hT]
    exact ⟨⟨by omega,by omega⟩,fun _=>⟨by omega,by omega⟩⟩
theorem zOK (ns:List OpR):∀ (T:ET) (least:Int),grT ns (grT ns T least) least=grT ns T least:=by
 intro T
 induction T with
 | nil=>intro least; rfl
 | node b o t l r ihl ihr=>
  intro least
  by_cases e:b=6
  ·have:grT ns (.node b o t l r:ET) least=grT ns l least:=by simp only [grT,if_pos e]
   rw [this]
   exact ihl least
  ·have e1:grT ns (.node b o t l r:ET) least=clT ns b t least (.node b 0 t (grT ns l (zY ns (rt b t) false)) (grT ns r (zY ns (rt b t) true))):=by simp only [grT,if_neg e]
   have e2:grT ns (.node b 0 t (grT ns l (zY ns (rt b t) false)) (grT ns r (zY ns (rt b t) true)):ET) least=clT ns b t least (.node b 0 t (grT ns l (zY ns (rt b t) false)) (grT ns r (zY ns (rt b t) true))):=by
    simp only [grT,if_neg e,ihl,ihr]
   rw [e1]
   unfold clT at e2 ⊢
   by_cases hlv:Zd ns (rt b t)<least
   ·rw [if_pos hlv] at e2 ⊢
    have e3:grT ns (.node 6 0 ByteArray.empty (.node b 0 t (grT ns l (zY ns (rt b t) false)) (grT ns r (zY ns (rt b t) true))) .nil:ET) least=grT ns (.node b 0 t (grT ns l (zY ns (rt b t) false)) (grT ns r (zY ns (rt b t) true)):ET) least:=by simp only [grT,if_true]
    rw [e3,e2]
   ·rw [if_neg hlv] at e2 ⊢
    exact e2
structure FmT (ns:List OpR) (us:List zD) (f:ByteArray) (T:ET):Prop where
 sh:Sh (erT T)
 z:tsz (erT T)<=20000
 ord:ZE us
 bare:∀ vs v,zEB us vs v->vs=nd (erT T) 0
 pos:1<=f.size
 par:∀ vs c p,f.size<=20000->zAQ ns f vs c p->c=0/\1<=vs.length/\vs.length<=20000/\zAX vs/\(∀ ws v,zEB vs ws v->ws=nd (erT T) 0)
 again:∀ g c p,f.size<=20000->zCL ns f g c p->c=0/\g=f
theorem zQw {ns:List OpR} {s f:ByteArray} {us:List zD} {p p':Int} (hp:zAQ ns s us 0 p) (h:zCL ns s f 0 p'):∃ T,FmT ns us f T:=by
 obtain ⟨T,hv,hg,hx,htx,hz,hh⟩:=zMf hp
 have hord:ZE us:=by rw [hx]; exact zJW hg.well.sh hz htx
 have hkn:zAt ns us:=by rw [hx]; exact zHQ hg.well
 have hlv:(0:Int)<=lvT ns T:=by
  have:=zJ7 hv T 0 hg.well (by omega)
  cases T with
  | nil=>exact hg.elim
  | node b o t l r=>
   simp only [lvT]
   by_cases hb:b=3\/b=4\/b=5
   ·have hkn:knB ns (b,t)=true:=by
     rcases hg.2 with ⟨h | h,_⟩ | ⟨h,_⟩ | ⟨_,hk,_⟩ | ⟨_,hk,_⟩
     ·omega
     ·omega
     ·omega
     ·exact hk
     ·exact hk
    have f:=opF hv (s:=(b,t)) (by omega) hkn
    have:=f.lo
    omega
   ·rw [zAW ns b t hb]
    omega
 obtain ⟨hsm1,hsm2⟩:=(zMg T 0 hg).2 hlv
 have hli:zBr us T 0:=by rw [hx]; exact ZW T
 have hul:us.length=tsz T:=by rw [hx,zi]
 have hgs:gS ns us (us.length-1) 0 0=nd (grT ns T 0) 0:=by
  have:=zGX ns us T 0 hg.well.sh hli 0 0
  rw [Nat.zero_add,<- hul] at this
  exact this
 have hto:zCo us=T:=by rw [hx]; exact zB3 hg.well.sh
 have hcond:(zM ns 0/\ZE us/\zAt ns us)/\(gS ns us (us.length-1) 0 0).length<=20000:=⟨⟨hv,hord,hkn⟩,by rw [hgs,zi]; omega⟩
 have hpr:zCb ns us f true:=by
  obtain ⟨us',c0,p0,hp',h⟩:=h
  obtain ⟨rfl,rfl,rfl⟩:=hp.one hp'
  rcases h with ⟨h,_⟩ | ⟨_,⟨v,hpi⟩,_⟩
  ·exact absurd rfl h
  ·rcases hpi with ⟨a,_,b⟩ | ⟨a,_⟩
   ·exact Or.inl ⟨a,rfl,b⟩
   ·exact absurd hcond a
 obtain ⟨G,hG,hgd,_,hzg,_,_⟩:=zDc hcond
 rw [hto] at hG
 have hs:f=⟨(txT G).toArray⟩:=by
  rcases hpr with ⟨_,_,b⟩ | ⟨a,_⟩
  ·rw [hto,<- hG] at b; exact b
  ·exact absurd hcond a
 have htg:TxT G:=by rw [hG]; exact zL0 ns T 0 htx
 have hog:ZE (nd G 0):=zJW hgd.well.sh hzg htg
 have hsv:ZA ns:=zAL (zBl hv).1
 have hwd:=zKR (ns:=ns) (xs:=nd G 0) hog.2.2.2 G 0 hgd.well (ZW G) (by rw [zi]; omega)
 rw [zJV hgd.well.sh] at hs
 have hsp:=zEl hsv (ySy G) ByteArray.empty (fun i hi=>by simp at hi) (zJS _ _ _ (zHI G hgd.well 0)) (zEK G hgd.well) hwd
 have hlx:=zF5 hsv (gwP ByteArray.empty (ySy G)) ByteArray.empty hsp
 rw [<- hs] at hlx
 have hz2:=zGi T
 have hhg:hT G<=1000:=by rw [hG]; omega
 have heg:erT G=erT T:=by rw [hG,zL2]
 have hread:∀ vs c p,f.size<=20000->zAQ ns f vs c p->c=0/\vs=nd G 0:=fun vs c p h20 hpf=>(zGB hv h20 hgd.well hlx (zKS (ySy G) _ _) hpf).1 hgd hhg
 refine ⟨T,zOH T hg.well.sh,by omega,hord,fun vs v he=>?_,?_,fun vs c p h20 hpf=>?_,fun g c p h20 hfm=>?_⟩
 ·rcases he with ⟨_,_,rfl⟩ | ⟨hno,_,_⟩
  ·have:=zL3 hg.well.sh
   rw [<- hx] at this
   exact this
  ·exact absurd hord hno
 ·exact (zQv hpr).elim fun _ h=>h.elim fun _ h=>h.pos
 ·obtain ⟨rfl,rfl⟩:=hread vs c p h20 hpf
  refine ⟨rfl,hog.1,hog.2.1,hog.sizedN,fun ws v he=>?_⟩
  rcases he with ⟨_,_,rfl⟩ | ⟨hno,_,_⟩
  ·rw [zL3 hgd.well.sh,heg]
  ·exact absurd hog hno
 ·obtain ⟨us',c0,p0,hp',h⟩:=hfm
  obtain ⟨rfl,rfl⟩:=hread us' c0 p0 h20 hp'
  rcases h with ⟨h,_⟩ | ⟨_,⟨v,hpi⟩,hc,_⟩
  ·exact absurd rfl h
  ·refine ⟨hc,?_⟩
   have hkg:zAt ns (nd G 0):=zHQ hgd.well
   have htog:zCo (nd G 0)=G:=zB3 hgd.well.sh
   have hidem:grT ns G 0=G:=by rw [hG]; exact zOK ns T 0
   have hgg:gS ns (nd G 0) ((nd G 0).length-1) 0 0=nd G 0:=by
    have:=zGX ns (nd G 0) G 0 hgd.well.sh (ZW G) 0 0
    rw [Nat.zero_add,<- zi G 0,hidem] at this
    exact this
   rcases hpi with ⟨_,_,b⟩ | ⟨a,_⟩
   ·rw [b,htog,hidem,zJV hgd.well.sh,<- hs]
   ·exact absurd ⟨⟨hv,hog,hkg⟩,by rw [hgg]; exact hog.2.1⟩ a
end Go.Proofs.YtfboipappaonhaaGreat
namespace Go.Proofs.YtfboipappaonhaaGreat
set_option linter.unusedSimpArgs false
set_option linter.unusedVariables false
set_option maxHeartbeats 16000000
set_option maxRecDepth 100000
open Go.RowKit
def zL4 (a b:zD):Bool:=(a.k==b.k)&&(a.t.toList==b.t.toList)&&(a.a==b.a)&&(a.b==b.b)
theorem zIX (a b:zD):zL4 a b=true↔a=b:=by
 unfold zL4
 obtain ⟨k,t,x,y⟩:=a
 obtain ⟨k',t',x',y'⟩:=b
 simp only [Bool.and_eq_true,beq_iff_eq]
 constructor
 ·rintro ⟨⟨⟨rfl,h2⟩,rfl⟩,rfl⟩
  rw [zAK h2]
 ·intro h
  injection h with h1 h2 h3 h4
  exact ⟨⟨⟨h1,by rw [h2]⟩,h3⟩,h4⟩
theorem zMh:Tryz.prog.underlying 81=some (.struct (Tryz.prog.fieldsOf 81)):=by kernel_rfl
theorem zPM:Tryz.prog.stoodInHeld 81=false:=by kernel_rfl
theorem zOL:Tryz.prog.eqGuardType Tryz.prog.depth 81=false:=by kernel_rfl
theorem zKW (a b:zD) (w:World) :
  (binOp .neq 81 (.agg #[.int .i64 a.k,.string a.t,.int .i64 a.a,.int .i64 a.b]) (.agg #[.int .i64 b.k,.string b.t,.int .i64 b.a,.int .i64 b.b])).run Tryz.prog w = .ok (.bool (!zL4 a b)) w:=by
 rw [run_neq_struct,run_equalIn_agg _ _ _ _ _ zMh zPM]
 unfold Program.fieldsOf zL4
 rw [Tryz.underlying81]
 cases h1:(a.k==b.k) <;> cases h2:(a.t.toList==b.t.toList) <;> cases h3:(a.a==b.a) <;> cases h4:(a.b==b.b) <;> simp [go_sem,h1,h2,h3,h4]
theorem zMi {xs ys:List zD} (hl:xs.length=ys.length) (h:∀ j,j<xs.length->atN xs j=atN ys j):xs=ys:=
 List.ext_getElem hl fun i h1 h2=>by
  have:=h i h1
  simpa [atN,List.getD_eq_getElem?_getD,h1,h2] using this
theorem zHV (a a':Option Addr) (cap cap':Nat) (xs ys:List zD) (w:World) (hm:xs.length<=1048576) (hm':ys.length<=1048576) (h:zKs w a xs) (h':zKs w a' ys) :
  Calls Tryz.prog 16 #[.agg #[.slice a xs.length cap],.agg #[.slice a' ys.length cap']] w fun e w'=>(∃ v,e = .returned (.bool v)/\(v=true↔xs=ys))/\Below w.heap.size w w':=by
 obtain ⟨W,hW⟩:∃ W,W=(w.alloc (.cells #[.slice a xs.length cap] 28)).alloc (.cells #[.slice a' ys.length cap'] 28):=⟨_,rfl⟩
 have hb:Below w.heap.size w W:=by rw [hW]; exact (zC _ _).alloc (by simp) _
 have HA:=zB (h.below hb)
 have HA':=zB (h'.below hb)
 have HB:=zB hb
 have HW:=zB hW
 have hzW:W.heap.size=w.heap.size+2:=by rw [hW]; simp
 have t0:W.cell? ⟨w.heap.size,0,none⟩=some (.slice a xs.length cap):=by rw [hW]; exact ((zC (w.alloc _) _).cell (p:=⟨w.heap.size,0,none⟩) (by simp)).trans (by simp [go_sem])
 have t1:W.cell? ⟨w.heap.size+1,0,none⟩=some (.slice a' ys.length cap'):=by rw [hW]; simp [go_sem]
 clear h h' hb hW
 by_cases hl:xs.length=ys.length
 ·have hlI:((xs.length:Int) != (ys.length:Int))=false:=by simp [hl]
  have HL:=zB hl
  clear hl
  go_enter Tryz.func16,Tryz.ntmps16
  go_wp2_with fail
  rw [<- zA HW]
  go_loopw [5] (fun i wr=>∃ n:Nat,n<=xs.length/\i = .int .i64 (n:Int)/\Hid (∀ j,j<n->atN xs j=atN ys j)/\Below W.heap.size W wr) (fun i _=>xs.length-(intOf i).toNat)
  case atStart=>exact ⟨0,Nat.zero_le _,rfl,zB (fun j h=>by omega),Below.refl _ _⟩
  case round=>
   obtain ⟨n,hn,rfl,hno,hbel⟩:=hrel
   have d0:=(hbel.cell (p:=⟨w.heap.size,0,none⟩) (show w.heap.size<_ by omega)).trans t0
   have d1:=(hbel.cell (p:=⟨w.heap.size+1,0,none⟩) (show w.heap.size+1<_ by omega)).trans t1
   by_cases hlt:n<xs.length
   ·have hltI:(n:Int)<(xs.length:Int):=by omega
    have hlt2:n<ys.length:=by rw [<- zA HL]; exact hlt
    have hltJ:(n:Int)<(ys.length:Int):=by omega
    rcases zA HA with h | ⟨b,off,rfl,ho,hB⟩
    ·omega
    rcases zA HA' with h | ⟨b',off',rfl,ho',hB'⟩
    ·omega
    obtain ⟨a0,a1,a2,a3⟩:=(ho n hlt).below hbel hB
    obtain ⟨b0,b1,b2,b3⟩:=(ho' n hlt2).below hbel hB'
    have hq:=fun V=>zKW (atN xs n) (atN ys n) V
    have hg:=zOL
    have HBE:=zB hbel
    clear ho ho' hbel hlI
    go_wp2_with fail
    go_quiet (fail)
    clear hq hg a0 a1 a2 a3 b0 b1 b2 b3
    cases hsm:zL4 (atN xs n) (atN ys n)
    ·have HN:=zB (show xs≠ys from fun e=>by
      have:=(zIX (atN xs n) (atN ys n)).2 (by rw [e])
      rw [hsm] at this
      cases this)
     clear hsm
     go_wp2_with fail
     go_ret
     exact ⟨⟨false,rfl,fun e=>(by cases e),fun e=>absurd e (zA HN)⟩,(zA HB).trans ((below_drewN (zA HBE) _).mono (zA HB).size)⟩
    ·have HN:=zB (show ∀ j,j<n+1->atN xs j=atN ys j from fun j hj=>by
      by_cases e:j=n
      ·rw [e]; exact (zIX _ _).1 hsm
      ·exact (zA hno) j (by omega))
     clear hsm
     go_wp2_with fail
     exact ⟨⟨n+1,by omega,by go_num,HN,below_drewN (zA HBE) _⟩,by simp [intOf]; omega⟩
   ·have HE:=zB (show xs=ys from zMi (zA HL) (fun j hj=>(zA hno) j (by omega)))
    have HBE:=zB ((zA HB).trans (hbel.mono (zA HB).size))
    clear hbel hlI
    go_wp2_with fail
    go_ret
    exact ⟨⟨true,rfl,fun _=>zA HE,fun _=>rfl⟩,zA HBE⟩
 ·have hlI:((xs.length:Int) != (ys.length:Int))=true:=by simp; omega
  have HL:=zB hl
  clear hl
  go_enter Tryz.func16,Tryz.ntmps16
  go_wp2_with fail
  go_ret
  exact ⟨⟨false,rfl,fun e=>(by cases e),fun e=>absurd (by rw [e]) (zA HL)⟩,by rw [<- zA HW]; exact zA HB⟩
theorem zHW (b off cap:Nat) (xs:List zD) (w:World) (hm:xs.length<=1048576) (hw:Zu w b off xs) (hs:zAX xs) (hB:b<w.heap.size) :
  Calls Tryz.prog 11 #[.agg #[.slice (some ⟨b,off,none⟩) xs.length cap]] w fun e w'=>(∃ (a:Option Addr) (c:Nat) (us:List zD) (v:Bool),e = .returned (.agg #[.slice a us.length c])/\Hid (Zv w' w.heap.size a us)/\Hid (zEB xs us v))/\Below w.heap.size w w':=by
 have HB0:=zB (show Below w.heap.size w ((w.alloc (.cells #[.slice (some ⟨b,off,none⟩) xs.length cap] 28)).alloc (.cells #[.slice none 0 0] 28)) from (zC _ _).alloc (by simp) _)
 have HX:=zB (zEQ b off cap xs _ hm (hw.below (zA HB0) hB) hs (Nat.lt_of_lt_of_le hB (zA HB0).size))
 clear hw hs
 go_enter Tryz.func11,Tryz.ntmps11
 go_wp2_with fail
 (with_reducible refine (zA HX).mono ?_)
 rintro e w1 ⟨⟨a,c,us,v,rfl,hO,hE⟩,hb1⟩
 have z1:w.heap.size+2<=w1.heap.size:=by have:=hb1.size; simpa using this
 have Q1:w1.cell? ⟨w.heap.size+1,0,none⟩=some (.slice none 0 0):=(hb1.cell (p:=⟨w.heap.size+1,0,none⟩) (by simp)).trans (by simp [go_sem])
 have G1:w1.frozen? ⟨w.heap.size+1,0,none⟩=false:=(hb1.frozen (p:=⟨w.heap.size+1,0,none⟩) (by simp)).trans (by simp [go_sem])
 have l1:w.heap.size+1<w1.heap.size:=by omega
 have n1:¬ w.heap.size+1=w1.heap.size:=by omega
 have bel:=zB ((zA HB0).trans (hb1.mono (by simp; omega)))
 clear HX
 go_wp2_with fail
 have HOF:=zB (show Zv ((w1.setCell ⟨w.heap.size+1,0,none⟩ (.slice a us.length c)).alloc (.cells #[.slice a us.length c] 28)) w.heap.size a us from by
  have h1:=((zA hO).grown (ze (zAd [.slice a us.length c] 0 w1 (g:=w.heap.size+1))) (fun q hq=>by injection hq with hq; subst hq; simp)).step (zC _ (.cells #[.slice a us.length c] 28))
  rcases h1 with h | ⟨g,rfl,hn,hf⟩
  ·exact Or.inl h
  ·exact Or.inr ⟨g,rfl,by simp at hn; omega,hf⟩)
 refine bodyPost_ret (v:=.agg #[.slice a us.length c]) ?res rfl ⟨⟨a,c,us,v,rfl,HOF,hE⟩,((zA bel).setCell (by simp) _).alloc (by simp [World.setCell]; omega) _⟩
 case res=>simp [results,Tryz.results11,go_sem,Q1,l1,n1]
end Go.Proofs.YtfboipappaonhaaGreat
namespace Go.Proofs.YtfboipappaonhaaGreat
set_option maxHeartbeats 16000000
set_option maxRecDepth 100000
open Go.RowKit
def atI (xs:List Int) (i:Nat):Int:=xs.getD i 0
def za (l:List Int):List Value:=l.map fun n=>.int .i64 n
theorem zEm (l:List Int):(za l).length=l.length:=by simp [za]
theorem Z8 (l l':List Int):za (l++l')=za l++za l':=by simp [za]
theorem zAn (l:List Int):∀ u∈za l,u.oneCell'=true:=by
 intro u hu
 simp only [za,List.mem_map] at hu
 obtain ⟨b,_,rfl⟩:=hu
 rfl
theorem zIY (l:List Int) (i:Nat) (h:i<l.length):(za l)[i]?=some (.int .i64 (atI l i)):=by
 simp [za,atI,h]
def zFN (w:World) (g:Nat) (xs:List Int) (k:Nat):Prop:=
 g<w.heap.size/\w.there g 0 xs.length/\∀ i,i<k->w.cell? ⟨g,i,none⟩=some (.int .i64 (atI xs i))
theorem zDi {w:World} {base g cap:Nat} {e:TypeId} {zs:List Int} (h:w.ownsRow base e 1 (.slice (some ⟨g,0,none⟩) zs.length cap) zs.length (za zs)):base<=g/\zFN w g zs zs.length:=by
 have hlt:=h.lt g rfl
 refine ⟨hlt.1,hlt.2,fun j hj=>⟨?_,h.frozenAt _⟩,fun i hi=>?_⟩
 ·rw [h.cellAt (0+j) (by omega)]
  have:0+j<(za zs).length:=by rw [zEm]; omega
  rw [List.getElem?_eq_getElem this]
  rfl
 ·exact (h.cellAt i (by omega)).trans (zIY zs i hi)
def zQN (w:World) (n:Nat) (a:Option Addr) (us:List Int):Prop:=(us.length=0/\a=none)\/∃ g,a=some ⟨g,0,none⟩/\n<=g/\zFN w g us us.length
def zHX (xs:List OpR):Prop:=∀ j,j<xs.length->((atO xs j).k=1\/(atO xs j).k=2\/(atO xs j).k=3)
theorem zKX {xs:List OpR} (h:zBF xs xs.length):zHX xs:=fun j hj=>by
 obtain ⟨_,h⟩:=zBe _ _ _ _ (h j hj)
 omega
theorem zIZ {xs:List OpR} {t:ByteArray} (h:zHX xs):opT xs t↔((∃ j,j<xs.length/\(atO xs j).s=t/\(atO xs j).k=1)\/(∃ j,j<xs.length/\(atO xs j).s=t/\(atO xs j).k=2)\/(∃ j,j<xs.length/\(atO xs j).s=t/\(atO xs j).k=3)):=by
 constructor
 ·rintro ⟨j,hj,e⟩
  rcases h j hj with k | k | k
  ·exact Or.inl ⟨j,hj,e,k⟩
  ·exact Or.inr (Or.inl ⟨j,hj,e,k⟩)
  ·exact Or.inr (Or.inr ⟨j,hj,e,k⟩)
 ·rintro (⟨j,hj,e,_⟩ | ⟨j,hj,e,_⟩ | ⟨j,hj,e,_⟩)
  ·exact ⟨j,hj,e⟩
  ·exact ⟨j,hj,e⟩
  ·exact ⟨j,hj,e⟩
theorem zLN (b off cap:Nat) (xs:List OpR) (t:ByteArray) (w:World) (hm:xs.length<=1048576) (hw:Ops w b off xs) (hB:b<w.heap.size) (hk:zHX xs) :
  Calls Tryz.prog 147 #[.agg #[.slice (some ⟨b,off,none⟩) xs.length cap],.string t] w fun e w'=>zCw e (opT xs t)/\Below w.heap.size w w':=by
 have HK:=zB (zIZ (t:=t) hk)
 have HW:=zB hw
 clear hk hw
 go_enter Tryz.func147,Tryz.ntmps147
 go_wp2_with fail
 refine (zAz b off cap xs t 1 _ hm ((zA HW).below (zC _ _) hB) (by simp; omega)).mono ?_
 rintro e w1 ⟨⟨r1,rfl,hr1⟩,hb1⟩
 have z1:w.heap.size<w1.heap.size:=by have:=hb1.size; simp at this; omega
 have c1:w1.cell? ⟨w.heap.size,0,none⟩=some (.slice (some ⟨b,off,none⟩) xs.length cap):=by rw [hb1.cell (p:=⟨w.heap.size,0,none⟩) (by simp)]; simp [go_sem]
 have bel1:Below w.heap.size w w1:=(zC _ _).trans (hb1.mono (by simp))
 have H1:=zB hr1
 clear hr1 hb1
 by_cases p1:0<=r1
 ·go_wp2_with fail
  go_ret
  exact ⟨⟨true,rfl,⟨fun _=>(zA HK).2 (Or.inl ((zA H1).1 p1)),fun _=>rfl⟩⟩,bel1⟩
 go_wp2_with fail
 refine (zAz b off cap xs t 2 _ hm ((zA HW).below bel1 hB) (by omega)).mono ?_
 rintro e w2 ⟨⟨r2,rfl,hr2⟩,hb2⟩
 have c2:w2.cell? ⟨w.heap.size,0,none⟩=some (.slice (some ⟨b,off,none⟩) xs.length cap):=(hb2.cell (p:=⟨w.heap.size,0,none⟩) z1).trans c1
 have bel2:=bel1.trans (hb2.mono bel1.size)
 have H2:=zB hr2
 clear hr2 hb2 c1
 by_cases p2:0<=r2
 ·go_wp2_with fail
  go_ret
  exact ⟨⟨true,rfl,⟨fun _=>(zA HK).2 (Or.inr (Or.inl ((zA H2).1 p2))),fun _=>rfl⟩⟩,bel2⟩
 go_wp2_with fail
 refine (zAz b off cap xs t 3 _ hm ((zA HW).below bel2 hB) (by have:=bel2.size; omega)).mono ?_
 rintro e w3 ⟨⟨r3,rfl,hr3⟩,hb3⟩
 have bel3:=bel2.trans (hb3.mono bel2.size)
 have H3:=zB hr3
 clear hr3 hb3
 go_wp2_with fail
 go_ret
 refine ⟨⟨decide (0<=r1)||decide (0<=r2)||decide (0<=r3),rfl,?_⟩,bel3⟩
 unfold zJy
 rw [zA HK,<- zA H1,<- zA H2,<- zA H3]
 simp [or_assoc]
theorem zHY (b off cap:Nat) (xs:List OpR) (t:ByteArray) (w:World) (hm:xs.length<=1048576) (hw:Ops w b off xs) (hB:b<w.heap.size) (hk:zHX xs) (hs:t.size<=maxLen) :
  Calls Tryz.prog 105 #[.agg #[.slice (some ⟨b,off,none⟩) xs.length cap],.string t] w fun e w'=>e = .returned (.int .i64 (ZY xs t:Int))/\Below w.heap.size w w':=by
 have HK:=zB hk
 have HW:=zB hw
 clear hk hw
 go_enter Tryz.func105,Tryz.ntmps105
 go_wp2_with fail
 refine (zDp t _ hs).mono ?_
 rintro e w1 ⟨⟨v1,rfl,hv1⟩,rfl⟩
 have V1:=zB hv1
 clear hv1
 cases v1
 case true=>
  go_wp2_with fail
  go_ret
  exact ⟨zF (by have:=(zA V1).1 rfl; simp [ZY,Z0,this]),by first | exact zC _ _ | exact Below.refl _ _⟩
 have n1:=zB (show ¬ zDo t from fun h=>Bool.false_ne_true ((zA V1).2 h))
 clear V1
 go_wp2_with fail
 refine (zEu t _ hs).mono ?_
 rintro e w1 ⟨⟨v2,rfl,hv2⟩,rfl⟩
 have V2:=zB hv2
 clear hv2
 cases v2
 case true=>
  go_wp2_with fail
  go_ret
  exact ⟨zF (by have:=(zA V2).1 rfl; have:=zA n1; simp [ZY,Z0,Zw, *]),by first | exact zC _ _ | exact Below.refl _ _⟩
 have n2:=zB (show ¬ zBR t from fun h=>Bool.false_ne_true ((zA V2).2 h))
 clear V2
 by_cases e4:t=⟨#[40]⟩
 ·subst e4
  go_wp2_with fail
  go_ret
  exact ⟨zF (by have:=zA n1; have:=zA n2; simp [ZY,Z0,Zw, *]),by first | exact zC _ _ | exact Below.refl _ _⟩
 by_cases e5:t=⟨#[41]⟩
 ·subst e5
  go_wp2_with fail
  go_ret
  exact ⟨zF (by have:=zA n1; have:=zA n2; simp [ZY,Z0,Zw, *]),by first | exact zC _ _ | exact Below.refl _ _⟩
 have q4:(t.toList==[40])=false:=by
  rw [beq_eq_false_iff_ne]
  exact fun h=>e4 (zEC (h.trans (by rw [ByteArray.toList_eq])))
 have q5:(t.toList==[41])=false:=by
  rw [beq_eq_false_iff_ne]
  exact fun h=>e5 (zEC (h.trans (by rw [ByteArray.toList_eq])))
 have E4:=zB e4
 have E5:=zB e5
 clear e4 e5
 go_wp2_with fail
 refine (zLN b off cap xs t _ hm ((zA HW).below (zC _ _) hB) (by simp; omega) (zA HK)).mono ?_
 rintro e w2 ⟨⟨v3,rfl,hv3⟩,hb2⟩
 have V3:=zB hv3
 clear hv3
 have bel2:Below w.heap.size w w2:=(zC _ _).trans (hb2.mono (by simp))
 cases v3
 ·go_wp2_with fail
  go_ret
  refine ⟨zF ?_,bel2⟩
  have n3:¬ opT xs t:=fun h=>Bool.false_ne_true ((zA V3).2 h)
  simp [ZY,Z0,Zw,zEA,zCU,zA n1,zA n2,zA E4,zA E5,n3]
 ·go_wp2_with fail
  go_ret
  refine ⟨zF ?_,bel2⟩
  have n3:opT xs t:=(zA V3).1 rfl
  simp [ZY,Z0,Zw,zEA,zCU,zA n1,zA n2,zA E4,zA E5,n3]
theorem zKY (s:ByteArray) (i:Nat) (w:World) (hs:s.size<=1048576) (hi:i<s.size) :
  Calls Tryz.prog 144 #[.string s,.int .i64 (i:Int)] w fun e w'=>(∃ r:Nat,e = .returned (.int .i64 (r:Int))/\zLf s i r)/\w'=w:=by
 have hbi:=zB (ZS hi)
 cases hsg:sgB s[i]
 ·go_enter Tryz.func144,Tryz.ntmps144
  go_wp2_with (go_at_call 154; refine (Zf _ _).mono ?_; rintro e w' ⟨rfl,rfl⟩)
  have hs6:=zB (show cls (bt s i)≠6 from fun h=>by
   rw [ZS hi,zIl,decide_eq_false_iff_not] at hsg
   exact hsg h)
  go_loop [5] (fun n=>∃ k:Nat,1<=k/\i+k<=s.size/\n = .int .i64 (k:Int)/\Hid (k=1\/((cls (bt s i)=2\/cls (bt s i)=3)/\∀ j,j<k->(cls (bt s (i+j))=2\/cls (bt s (i+j))=3)))) (fun n=>s.size-(intOf n).toNat)
  case atStart=>exact ⟨1,Nat.le_refl _,by omega,rfl,zB (Or.inl rfl)⟩
  case round=>
   obtain ⟨k,hk1,hk,rfl,hn⟩:=hrel
   by_cases hlt:i+k<s.size
   ·have GO:=zB (show ∀ (_:cls s[i]=2\/cls s[i]=3) (_:cls s[i+k]=2\/cls s[i+k]=3),(k+1=1\/((cls (bt s i)=2\/cls (bt s i)=3)/\∀ j,j<k+1->(cls (bt s (i+j))=2\/cls (bt s (i+j))=3))) from fun h1 h2=>by
     rw [ZS hi] at h1
     rw [ZS hlt] at h2
     refine Or.inr ⟨h1,fun j hj=>?_⟩
     by_cases e:j=k
     ·subst e; exact h2
     ·rcases zA hn with x | x
      ·have:j=0:=by omega
       subst this
       exact h1
      ·exact x.2 j (by omega))
    have STOP:=zB (show ∀ (_:¬ ((cls s[i]=2\/cls s[i]=3)/\(cls s[i+k]=2\/cls s[i+k]=3))),zLf s i k from fun h=>by
     rw [ZS hi,ZS hlt] at h
     have h6:=zA hs6
     refine ⟨hk1,hk,Or.inr ?_⟩
     by_cases ha:cls (bt s i)=2\/cls (bt s i)=3
     ·refine Or.inl ⟨ha,fun j hj=>?_,fun _ hx=>h ⟨ha,hx⟩⟩
      rcases zA hn with x | x
      ·have:j=0:=by omega
       subst this
       exact ha
      ·exact x.2 j hj
     ·refine Or.inr ⟨⟨h6,by omega,by omega⟩,?_⟩
      rcases zA hn with x | x
      ·exact x
      ·exact absurd x.1 ha)
    clear hn
    go_wp2_with (first | (go_at_call 164; refine (zBH _ _).mono ?_; rintro e w' ⟨rfl,rfl⟩) | (go_at_call 165; refine (zBg _ _).mono ?_; rintro e w' ⟨rfl,rfl⟩))
    all_goals
     first
      | (
       refine ⟨⟨k+1,?_,?_,?_,zB ((zA GO) ?_ ?_)⟩,?_⟩
       ·omega
       ·omega
       ·go_num
       ·simp [*]
       ·simp [*]
       ·simp [intOf]; omega)
      | (
       go_ret
       refine ⟨⟨k,rfl,(zA STOP) ?_⟩,rfl⟩
       simp [*])
   ·have STOP:=zB (show zLf s i k from by
     have h6:=zA hs6
     refine ⟨hk1,hk,Or.inr ?_⟩
     by_cases ha:cls (bt s i)=2\/cls (bt s i)=3
     ·refine Or.inl ⟨ha,fun j hj=>?_,fun hx=>absurd hx hlt⟩
      rcases zA hn with x | x
      ·have:j=0:=by omega
       subst this
       exact ha
      ·exact x.2 j hj
     ·refine Or.inr ⟨⟨h6,by omega,by omega⟩,?_⟩
      rcases zA hn with x | x
      ·exact x
      ·exact absurd x.1 ha)
    go_wp2
    go_ret
    exact ⟨⟨k,rfl,zA STOP⟩,rfl⟩
 ·have hs6:=zB (show cls (bt s i)=6 by
   rw [ZS hi,zIl] at hsg
   simpa using hsg)
  by_cases h16:s.size-i<16
  ·go_enter Tryz.func144,Tryz.ntmps144
   go_wp2_with (go_at_call 154; refine (Zf _ _).mono ?_; rintro e w' ⟨rfl,rfl⟩)
   go_ret
   exact ⟨⟨s.size-i,zF (by omega),⟨by omega,by omega,Or.inl ⟨zA hs6,by omega,Or.inr (by omega)⟩⟩⟩,rfl⟩
  ·go_enter Tryz.func144,Tryz.ntmps144
   go_wp2_with (go_at_call 154; refine (Zf _ _).mono ?_; rintro e w' ⟨rfl,rfl⟩)
   go_ret
   exact ⟨⟨16,rfl,⟨by omega,by omega,Or.inl ⟨zA hs6,by omega,Or.inl rfl⟩⟩⟩,rfl⟩
theorem zHx (b off cap:Nat) (xs:List OpR) (s:ByteArray) (i:Nat) (w:World) (hm:xs.length<=1048576) (hw:Ops w b off xs) (hB:b<w.heap.size) (hk:zHX xs) (hs:s.size<=1048576) (hi:i<s.size) :
  Calls Tryz.prog 104 #[.agg #[.slice (some ⟨b,off,none⟩) xs.length cap],.string s,.int .i64 (i:Int)] w fun e w'=>(∃ r:Nat,e = .returned (.int .i64 (r:Int))/\zLg xs s i r)/\Below w.heap.size w w':=by
 have HK:=zB hk
 have HW:=zB hw
 clear hk hw
 go_enter Tryz.func104,Tryz.ntmps104
 go_wp2_with fail
 refine (zKY s i _ hs hi).mono ?_
 rintro e w1 ⟨⟨m,rfl,hm1⟩,rfl⟩
 have HR:=zB hm1
 have hms:i+m<=s.size:=hm1.2.1
 have hm0:1<=m:=hm1.1
 clear hm1
 go_wp2_with fail
 go_loopw [7] (fun n wr=>∃ k:Nat,1<=k/\k<=m/\n = .int .i64 (k:Int)/\Hid (∀ q,k<q->q<=m->ZY xs (sub s i q)=6)/\Below (w.heap.size+1) (w.alloc (.cells #[.slice (some ⟨b,off,none⟩) xs.length cap] 25)) wr) (fun n _=>(intOf n).toNat)
 case atStart=>exact ⟨m,hm0,Nat.le_refl _,rfl,zB (fun q h1 h2=>by omega),Below.refl _ _⟩
 case round=>
  obtain ⟨k,hk1,hkm,rfl,hn,hbel⟩:=hrel
  have hbw:Below w.heap.size w wr:=(zC _ _).trans (hbel.mono (by omega))
  have zw:w.heap.size<wr.heap.size:=by have:=hbel.size; simp at this; omega
  have c0:wr.cell? ⟨w.heap.size,0,none⟩=some (.slice (some ⟨b,off,none⟩) xs.length cap):=by
   rw [hbel.cell (p:=⟨w.heap.size,0,none⟩) (show w.heap.size<_ by omega)]; simp [go_sem]
  have zb:b<wr.heap.size:=by omega
  by_cases hlt:1<k
  ·have hltI:(1:Int)<(k:Int):=by omega
   have hik:i+k<=s.size:=by omega
   have hwr:IntKind.i64.wrap ((i:Int)+(k:Int))=(i:Int)+(k:Int):=by rw [IntKind.wrap_i64]; omega
   have hs1:(i:Int)<=(i:Int)+(k:Int):=by omega
   have hs2:(i:Int)+(k:Int)<=(s.size:Int):=by omega
   have hs3:(0:Int)<=(i:Int)+(k:Int):=by omega
   have htn:((i:Int)+(k:Int)).toNat=i+k:=by omega
   go_wp2_with fail
   go_region_held (fun w'=>w'.cell? ⟨w.heap.size,0,none⟩=some (.slice (some ⟨b,off,none⟩) xs.length cap)) (go_keep)
    (first | (go_at_call 105; refine (zHY b off cap xs (sub s i k) _ hm ((zA HW).below hbw.drew hB) zb (zA HK) (by rw [zAU hik]; unfold maxLen; omega)).mono ?_; rintro e w2 ⟨rfl,hb2⟩; have c2:=(hb2.cell (p:=⟨w.heap.size,0,none⟩) zw).trans (show wr.drew.cell? ⟨w.heap.size,0,none⟩=_ from c0)))
   have hbel2:=hbel.drew.trans (hb2.mono zw)
   have hbw2:Below w.heap.size w w2:=(zC _ _).trans (hbel2.mono (by omega))
   by_cases h6:ZY xs (sub s i k)=6
   ·have h6':((ZY xs (sub s i k):Int) != 6)=false:=by simp [h6]
    have H6:=zB h6
    clear h6
    go_wp2
    refine ⟨⟨k-1,by omega,by omega,?_,zB (fun q h1 h2=>?_),hbel2⟩,?_⟩
    ·first | (go_num; done) | (congr 1; omega)
    ·by_cases e:q=k
     ·subst e; exact zA H6
     ·exact (zA hn) q (by omega) h2
    ·simp [intOf]; omega
   ·have h6':((ZY xs (sub s i k):Int) != 6)=true:=by simp; omega
    have H6:=zB h6
    clear h6
    go_wp2
    go_ret
    exact ⟨⟨k,rfl,⟨hk1,Or.inr (zA H6),m,zA HR,hkm,zA hn⟩⟩,hbw2⟩
  ·have hk1':k=1:=by omega
   subst hk1'
   go_wp2
   go_ret
   exact ⟨⟨1,rfl,⟨Nat.le_refl _,Or.inl rfl,m,zA HR,hkm,zA hn⟩⟩,hbw⟩
end Go.Proofs.YtfboipappaonhaaGreat
namespace Go.Proofs.YtfboipappaonhaaGreat
set_option maxHeartbeats 16000000
set_option maxRecDepth 100000
open Go.RowKit Go.Maps
theorem zCc (bo bs n:Nat) (D:DataW Unit) (t:ByteArray) (kd:Int) (w:World) (hown:w.ownsMap Tryz.prog 161 Z7 bo n D) (ht:t.size<=maxLen) (hk:(Lit.int .i64 kd).wf=true) :
  Calls Tryz.prog 123 #[.agg #[.map (some bo),.map (some bs)],.string t,.int .i64 kd] w fun e w'=>e = .returned (.bool (Maps.has D (klO t kd)))/\Below w.heap.size w w':=by
 go_enter Tryz.func123,Tryz.ntmps123
 go_wp2_with (first | (at_lookup; refine wpList_lookup_own_ok _ rfl _ _ 66 rfl 161 123 zHt Tryz.underlying66 Z7 (zNp _) (zAa ⟨#[]⟩ 0 0 0) [] (zC7 _ _ _ _) bo n D rfl (hown.alloc _) _ _ rfl (zJD ht hk) ?_; intro v ps hv; obtain ⟨s',k',l',sd',rfl⟩:=zDb hv))
 go_ret
 exact ⟨rfl,(zC _ _).alloc (by simp) _⟩
structure Idx (w:World) (bo bs:Nat) (xs:List OpR) (k:Nat):Prop where
 ops:∃ D:DataW Unit,w.ownsMap Tryz.prog 161 Z7 bo k D/\∀ (s:ByteArray) (kd:Int),s.size<=maxLen->(Lit.int .i64 kd).wf=true->(Maps.has D (klO s kd)=true↔∃ j,j<k/\(atO xs j).s=s/\(atO xs j).k=kd)/\(Maps.has D (klO s kd)=true->∃ j,j<k/\(atO xs j).s=s/\(atO xs j).k=kd/\D.atKey (klO s kd) (zAa ⟨#[]⟩ 0 0 0)=zAa (atO xs j).s (atO xs j).k (atO xs j).l (atO xs j).sd)
 srts:∃ D:DataW Unit,w.ownsMap Tryz.prog 3 (plainElem Tryz.prog 3) bs k D/\∀ l:Int,(Lit.int .i64 l).wf=true->(Maps.has D (.int .i64 l)=true↔∃ j,j<k/\(atO xs j).l=l) /\
  ∀ c:Int,D.atKey (.int .i64 l) (.lit (.int .i64 0)) = .lit (.int .i64 c)->Maps.has D (.int .i64 l)=true->∃ j,j<k/\(atO xs j).l=l/\srt (atO xs j).k (atO xs j).sd=c
 ne:bo≠bs
theorem Idx.kept {w w':World} {bo bs k:Nat} {xs:List OpR} (h:Idx w bo bs xs k) (hb:Below w.heap.size w w'):Idx w' bo bs xs k:=by
 obtain ⟨⟨D,h1,h2⟩,⟨E,h3,h4⟩,h5⟩:=h
 have hg:w.grownBy w' none:=⟨hb.os,hb.tape,hb.output,hb.size,fun i hi _=>hb.block i hi⟩
 exact ⟨⟨D,h1.kept hg (by simp),h2⟩,⟨E,h3.kept hg (by simp),h4⟩,h5⟩
theorem zQx:(Lit.int .i64 1).wf=true:=by decide
theorem zQy:(Lit.int .i64 2).wf=true:=by decide
theorem zQz:(Lit.int .i64 3).wf=true:=by decide
theorem zGj {o:OpR} (h:o.ok=true):o.k=1\/o.k=2\/o.k=3:=by
 obtain ⟨_,h⟩:=zBe _ _ _ _ h
 omega
theorem zJX (bo bs k:Nat) (xs:List OpR) (w:World) (hi:Idx w bo bs xs k) (hok:zBF xs (k+1)) (hs:(atO xs k).s.size<=maxLen) :
  Calls Tryz.prog 75 #[.agg #[.map (some bo),.map (some bs)],.agg #[.string (atO xs k).s,.int .i64 (atO xs k).k,.int .i64 (atO xs k).l,.int .i64 (atO xs k).sd]] w fun e w'=>(∃ v,e = .returned (.bool v)/\(v=true↔∃ j,j<k/\cl 3 (atO xs k) (atO xs j)))/\Below w.heap.size w w':=by
 obtain ⟨⟨D,hown,hD⟩,_,_⟩:=hi
 have h1:=(hD _ _ hs zQx).1
 have h2:=(hD _ _ hs zQy).1
 have h3:=(hD _ _ hs zQz).1
 have hkk:=zGj (hok k (by omega))
 have key1:(atO xs k).k=1->(Maps.has D (klO (atO xs k).s 1)=true↔∃ j,j<k/\cl 3 (atO xs k) (atO xs j)):=by
  intro hk
  rw [h1]
  simp only [cl,if_true,hk,true_iff]
  exact ⟨fun ⟨j,a,b,c⟩=>⟨j,a,b.symm,c⟩,fun ⟨j,a,b,c⟩=>⟨j,a,b.symm,c⟩⟩
 have key2:(atO xs k).k≠1->((Maps.has D (klO (atO xs k).s 2)=true\/Maps.has D (klO (atO xs k).s 3)=true)↔∃ j,j<k/\cl 3 (atO xs k) (atO xs j)):=by
  intro hk
  rw [h2,h3]
  simp only [cl,if_true,hk,false_iff]
  constructor
  ·rintro (⟨j,a,b,c⟩ | ⟨j,a,b,c⟩)
   ·exact ⟨j,a,b.symm,by omega⟩
   ·exact ⟨j,a,b.symm,by omega⟩
  ·rintro ⟨j,a,b,c⟩
   have:=zGj (hok j (by omega))
   rcases this with e | e | e
   ·exact absurd e c
   ·exact Or.inl ⟨j,a,b.symm,e⟩
   ·exact Or.inr ⟨j,a,b.symm,e⟩
 have K1:=zB key1
 have K2:=zB key2
 clear key1 key2 h1 h2 h3 hD hok
 by_cases hk:(atO xs k).k=1
 ·have hk':((atO xs k).k==1)=true:=by simpa using hk
  have HK:=zB hk
  clear hk hkk
  go_enter Tryz.func75,Tryz.ntmps75
  go_wp2_with (first | (go_at_call 123; refine (zCc bo bs k D _ _ _ ((hown.alloc _).alloc _) hs (by decide)).mono ?_; rintro e w1 ⟨rfl,hb1⟩))
  go_ret
  exact ⟨⟨_,rfl,(zA K1) (zA HK)⟩,((zC _ _).alloc (by simp) _).trans (hb1.mono (by simp; omega))⟩
 ·have hk':((atO xs k).k==1)=false:=by simpa using hk
  have HK:=zB hk
  clear hk hkk
  cases hh:Maps.has D (klO (atO xs k).s 2)
  ·have HH:=zB hh
   go_enter Tryz.func75,Tryz.ntmps75
   go_wp2_with fail
   refine (zCc bo bs k D _ _ _ ((hown.alloc _).alloc _) hs (by decide)).mono ?_
   rintro e w1 ⟨rfl,hb1⟩
   obtain ⟨hc1,hf1⟩:=zFz hb1
   have hown1:=((hown.alloc (.cells #[.map (some bo),.map (some bs)] 69)).alloc (.cells #[.string (atO xs k).s,.int .i64 (atO xs k).k,.int .i64 (atO xs k).l,.int .i64 (atO xs k).sd] 123)).kept (w':=w1) (row:=none) ⟨hb1.os,hb1.tape,hb1.output,hb1.size,fun i hi _=>hb1.block i hi⟩ (by simp)
   have HO:=zB hown1
   clear hown1
   go_wp2_with fail
   refine (zCc bo bs k D _ _ _ (zA HO) hs (by decide)).mono ?_
   rintro e w2 ⟨rfl,hb2⟩
   go_wp2_with fail
   go_ret
   refine ⟨⟨_,rfl,?_⟩,(((zC _ _).alloc (by simp) _).trans (hb1.mono (by simp; omega))).trans (hb2.mono (by have:=hb1.size; simp at this; omega))⟩
   have:=(zA K2) (zA HK)
   rw [zA HH] at this
   simpa using this
  ·have HH:=zB hh
   go_enter Tryz.func75,Tryz.ntmps75
   go_wp2_with fail
   refine (zCc bo bs k D _ _ _ ((hown.alloc _).alloc _) hs (by decide)).mono ?_
   rintro e w1 ⟨rfl,hb1⟩
   go_wp2_with fail
   go_ret
   refine ⟨⟨_,rfl,?_⟩,((zC _ _).alloc (by simp) _).trans (hb1.mono (by simp; omega))⟩
   have:=(zA K2) (zA HK)
   rw [zA HH] at this
   simpa using this
end Go.Proofs.YtfboipappaonhaaGreat
