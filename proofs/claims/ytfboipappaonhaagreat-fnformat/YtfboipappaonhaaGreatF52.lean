import Derived.Maps.AppendAt
import Derived.BigQuiet
import Derived.Test.YtfboipappaonhaaGreatF02
import Derived.Test.YtfboipappaonhaaGreatF29
import Derived.Test.YtfboipappaonhaaGreatF51
namespace Go.Proofs.YtfboipappaonhaaGreat
set_option linter.unusedSimpArgs false
set_option linter.unusedVariables false
set_option maxHeartbeats 16000000
set_option maxRecDepth 100000
open Go.RowKit
def zy (st:List Nat):List Int:=st.reverse.map fun (n:Nat)=>(n:Int)
theorem zBE (st:List Nat):(zy st).length=st.length:=by simp [zy]
theorem zD7 {o:zD} {k:Nat} {st:List Nat} (h:st.length<zU o.k):zBv o k st=none:=by
 unfold zBv
 rcases zBT o.k with hk | hk | hk
 ·omega
 ·rw [if_neg (by omega),if_pos hk]
  match st,h with
  | [],_=>rfl
  | _::_,h=>simp [hk] at h
 ·rw [if_neg (by omega),if_neg (by omega)]
  match st,h with
  | [],_=>rfl
  | [_],_=>rfl
  | _::_::_,h=>simp [hk] at h; omega
theorem zOh {o:zD} {k m:Nat} {st:List Nat} (h:m+zU o.k=st.length) :
  zBv o k st=if o.a=((zy st).drop m).getD 0 0/\o.b=((zy st).drop m).getD 1 0 then some (k::st.drop (zU o.k)) else none:=by
 unfold zBv
 rcases zBT o.k with hk | hk | hk
 ·rw [if_pos hk,hk]
  have:(zy st).drop m=[]:=by apply List.drop_eq_nil_of_le; rw [zBE]; omega
  rw [this]
  simp
 ·rw [if_neg (by omega),if_pos hk,hk]
  match st,h with
  | [],h=>simp [hk] at h
  | t::r,h=>
   have hm:m=(zy r).length:=by rw [zBE]; simp [hk] at h; omega
   have:(zy (t::r)).drop m=[(t:Int)]:=by
    rw [hm]
    have e:zy (t::r)=zy r++[(t:Int)]:=by simp [zy]
    rw [e]
    simp
   rw [this]
   simp
 ·rw [if_neg (by omega),if_neg (by omega),hk]
  match st,h with
  | [],h=>simp [hk] at h
  | [_],h=>simp [hk] at h
  | t2::t1::r,h=>
   have hm:m=(zy r).length:=by rw [zBE]; simp [hk] at h; omega
   have:(zy (t2::t1::r)).drop m=[(t1:Int),(t2:Int)]:=by
    rw [hm]
    have e:zy (t2::t1::r)=zy r++[(t1:Int),(t2:Int)]:=by simp [zy]
    rw [e]
    simp
   rw [this]
   simp
theorem zJp {k m c:Nat} {st:List Nat} (h:m+c=st.length):zy (k::st.drop c)=(zy st).take m++[(k:Int)]:=by
 unfold zy
 rw [List.reverse_cons,List.map_append,List.map_cons,List.map_nil,<- List.map_take,List.reverse_drop]
 congr 3
 omega
theorem zKm (o:zD) (a:Option Addr) (cap:Nat) (vals:List Int) (w:World) (n:Nat) (hn:n=vals.length) (h2:vals.length<=2)
  (hc:vals.length=0\/∃ g off,a=some ⟨g,off,none⟩/\∀ j,j<vals.length->w.cell? ⟨g,off+j,none⟩=some (.int .i64 (vals.getD j 0))) :
  Calls Tryz.prog 92 #[.agg #[.int .i64 o.k,.string o.t,.int .i64 o.a,.int .i64 o.b],.slice a n cap] w fun e w'=>zCw e (o.a=vals.getD 0 0/\o.b=vals.getD 1 0)/\Below w.heap.size w w':=by
 subst hn
 match vals,h2,hc with
 | [],_,_=>exact zFX o a cap w
 | [t],_,hc=>
  rcases hc with hc | ⟨g,off,ha,hc'⟩
  ·simp at hc
  ·subst ha
   exact zOf o g off cap t w (hc' 0 (by simp))
 | [t,t'],_,hc=>
  rcases hc with hc | ⟨g,off,ha,hc'⟩
  ·simp at hc
  ·subst ha
   exact zOg o g off cap t t' w (hc' 0 (by simp)) (hc' 1 (by simp))
theorem zMt {w:World} {B e g c n m:Nat} {zs:List Int} (h:w.ownsRow B e 1 (.slice (some ⟨g,0,none⟩) n c) n (za zs)) (hm:m<=n):w.ownsRow B e 1 (.slice (some ⟨g,0,none⟩) m c) m (za (zs.take m)):=by
 obtain ⟨hl,h | ⟨g',cap',cur,hv,hB,hheap,hn,hc,hcs,htk⟩⟩:=h
 ·simp at h
 ·simp only [Value.slice.injEq,Option.some.injEq,Addr.mk.injEq] at hv
  obtain ⟨⟨rfl,_⟩,_,rfl⟩:=hv
  rw [zEm] at hl
  refine ⟨by rw [zEm]; simp; omega,Or.inr ⟨g,c,cur,rfl,hB,hheap,by omega,hc,hcs,?_⟩⟩
  have:za (zs.take m)=(za zs).take m:=by simp [za,List.map_take]
  rw [this,<- htk,List.take_take]
  congr 1
  omega
theorem zOi:(Tryz.prog.info? 3).map (fun i=>(i.zero,i.size,i.bytes))=some (some (.int .i64 0),1,8):=by kernel_rfl
theorem zHr (w:World) (v:Int):∀ j u,(za [v])[j]?=some u->(w.alloc (.cells #[.int .i64 v] 3)).cell? ((⟨w.heap.size,0,none⟩:Addr).add j)=some u:=by
 intro j u hj
 rw [Addr.add_mid]
 have:=World.rangeAt_of_block (w:=w.alloc (.cells #[.int .i64 v] 3)) (b:=w.heap.size) (heap_alloc_new w _) 0 1
 exact this j u (by simpa [za] using hj)
theorem zIg {w:World} {B e size n:Nat} {v:Value} {xs:List Value} (h:w.ownsRow B e size v n xs):(v = .slice none 0 0/\n=0)\/∃ g c,v = .slice (some ⟨g,0,none⟩) n c/\B<=g/\g<w.heap.size/\n<=c:=by
 have h':=h
 obtain ⟨_,hv | ⟨g,c,cur,hv,hB,hh,hn,_⟩⟩:=h
 ·exact Or.inl hv
 ·refine Or.inr ⟨g,c,hv,hB,?_,hn⟩
  subst hv
  exact (h'.lt g rfl).2
theorem zEq {B:Nat} {a w w':World} (h:Below B a w) (h1:w'.os=w.os) (h2:w'.tape=w.tape) (h3:w'.output=w.output) (h4:w'.heap=w.heap):Below B a w':=
 ⟨h1.trans h.os,h2.trans h.tape,h3.trans h.output,by rw [h4]; exact h.size,fun i hi=>by rw [h4]; exact h.block i hi⟩
def zJq (xs:List zD) (k m:Nat) (st:List Nat):Prop:=(atN xs k).a=((zy st).drop m).getD 0 0/\(atN xs k).b=((zy st).drop m).getD 1 0
theorem zBO {xs:List zD} {k:Nat} {st:List Nat} (hs:stk xs k=some st) (hk:k<xs.length) (h:zBv (atN xs k) k st=none):¬ ZE xs:=fun ho=>by
 obtain ⟨st',hst⟩:=ho.stkS (k:=k+1) (by omega)
 rw [zB7 hs,h] at hst
 cases hst
theorem zKn (b off cap:Nat) (xs:List zD) (w:World) (hm:xs.length<=1048576) (hw:Zu w b off xs) (hs:zAX xs) (hB:b<w.heap.size) :
  Calls Tryz.prog 46 #[.agg #[.slice (some ⟨b,off,none⟩) xs.length cap]] w fun e w'=>zCw e (ZE xs)/\Below w.heap.size w w':=by
 have HW:=zB hw
 have HS:=zB hs
 clear hw hs
 by_cases h2:20000<xs.length
 ·have h2I:(20000:Int)<(xs.length:Int):=by omega
  have HN:=zB (show ¬ ZE xs from fun h=>by have:=h.2.1; omega)
  go_enter Tryz.func46,Tryz.ntmps46
  go_wp2_with fail
  go_ret
  exact ⟨⟨_,rfl,zQ (zA HN)⟩,zC _ _⟩
 have h2I:¬ (20000:Int)<(xs.length:Int):=by omega
 obtain ⟨i0,hi0,hz0,hz1,hz2⟩:∃ i,Tryz.prog.info? 3=some i/\i.zero=some (.int .i64 0)/\i.size=1/\i.bytes=8:=by
  obtain ⟨i,hi,hz⟩:=Option.map_eq_some_iff.1 zOi
  simp only [Prod.mk.injEq] at hz
  exact ⟨i,hi,hz.1,hz.2.1,hz.2.2⟩
 have HI:=zB hi0
 have HZ:=zB (And.intro hz0 (And.intro hz1 hz2))
 clear hi0 hz0 hz1 hz2
 go_enter Tryz.func46,Tryz.ntmps46
 go_wp2_with fail
 go_loopw [3,14] (fun lv iv wr=>∃ (k:Nat) (st:List Nat) (v:Value),k<=xs.length/\iv = .int .i64 (k:Int)/\lv=v/\Hid (stk xs k=some st)/\Hid (wr.ownsRow w.heap.size 3 1 v st.length (za (zy st)))/\Hid (st.length<=k)/\Hid (k=0->v = .slice none 0 0/\st=[])/\Hid (0<k->0<st.length)/\Hid (∀ j,j<k->zAA (atN xs j))/\Below w.heap.size w wr) (fun _ iv _=>xs.length-(intOf iv).toNat)
 case atStart=>exact ⟨0,[],_,Nat.zero_le _,rfl,rfl,zB rfl,zB (World.ownsRow_nil _ _ _ _),zB (Nat.zero_le _),zB (fun _=>⟨rfl,rfl⟩),zB (fun h=>absurd h (Nat.lt_irrefl _)),zB (fun j hj=>absurd hj (Nat.not_lt_zero j)),zC _ _⟩
 case round=>
  obtain ⟨k,st,v,hk,rfl,rfl,hst,hown,hsl,hk0,hkp,hok,hbel⟩:=hrel
  by_cases hlt:k<xs.length
  ·obtain ⟨c0,c1,c2,c3⟩:=((zA HW) k hlt).below hbel hB
   have hltI:(k:Int)<(xs.length:Int):=by omega
   have hslk:st.length<=20000:=by have:=zA hsl; omega
   obtain ⟨c,HC⟩:∃ c:Nat,Hid (zU (atN xs k).k=c):=⟨_,zB rfl⟩
   have hcl:c<=2:=by have:=zA HC; have:=zBT (atN xs k).k; omega
   have hHT:=zB ((zA HS) k hlt)
   rcases zIg (zA hown) with ⟨hv,hn0⟩ | ⟨g,cp,hv,hg1,hg2,hg3⟩
   ·subst hv
    obtain rfl:st=[]:=List.eq_nil_of_length_eq_zero hn0
    clear hn0 hslk hkp hk0 hown hsl
    rcases (by omega:c=1\/c=2\/c=0) with hc | hc | hc
    ·subst hc
     have HNO:=zB (zBO (zA hst) hlt (zD7 (by rw [zA HC]; decide)))
     go_wp2_with (go_at_call 91; refine (Z5 (zA HC) _ rfl _).mono ?_; rintro e w' ⟨rfl,hx⟩; obtain rfl:=hx.symm)
     go_quiet (fail)
     go_wp2
     go_ret
     exact ⟨⟨_,rfl,zQ (zA HNO)⟩,zEq (hbel.alloc hbel.size _) rfl rfl rfl rfl⟩
    ·subst hc
     have HNO:=zB (zBO (zA hst) hlt (zD7 (by rw [zA HC]; decide)))
     go_wp2_with (go_at_call 91; refine (Z5 (zA HC) _ rfl _).mono ?_; rintro e w' ⟨rfl,hx⟩; obtain rfl:=hx.symm)
     go_quiet (fail)
     go_wp2
     go_ret
     exact ⟨⟨_,rfl,zQ (zA HNO)⟩,zEq (hbel.alloc hbel.size _) rfl rfl rfl rfl⟩
    ·subst hc
     have HZW:=zB (show wr.heap.size<(wr.alloc (.cells #[.int .i64 (atN xs k).k,.string (atN xs k).t,.int .i64 (atN xs k).a,.int .i64 (atN xs k).b] 81)).drew.heap.size from (show wr.heap.size<(wr.alloc (.cells #[.int .i64 (atN xs k).k,.string (atN xs k).t,.int .i64 (atN xs k).a,.int .i64 (atN xs k).b] 81)).heap.size by simp))
     have HNW:=zB (show (wr.alloc (.cells #[.int .i64 (atN xs k).k,.string (atN xs k).t,.int .i64 (atN xs k).a,.int .i64 (atN xs k).b] 81)).drew.cell? ⟨wr.heap.size,0,none⟩=some (.int .i64 (atN xs k).k)/\(wr.alloc (.cells #[.int .i64 (atN xs k).k,.string (atN xs k).t,.int .i64 (atN xs k).a,.int .i64 (atN xs k).b] 81)).drew.cell? ⟨wr.heap.size,1,none⟩=some (.string (atN xs k).t)/\(wr.alloc (.cells #[.int .i64 (atN xs k).k,.string (atN xs k).t,.int .i64 (atN xs k).a,.int .i64 (atN xs k).b] 81)).drew.cell? ⟨wr.heap.size,2,none⟩=some (.int .i64 (atN xs k).a)/\(wr.alloc (.cells #[.int .i64 (atN xs k).k,.string (atN xs k).t,.int .i64 (atN xs k).a,.int .i64 (atN xs k).b] 81)).drew.cell? ⟨wr.heap.size,3,none⟩=some (.int .i64 (atN xs k).b) from
      (show (wr.alloc (.cells #[.int .i64 (atN xs k).k,.string (atN xs k).t,.int .i64 (atN xs k).a,.int .i64 (atN xs k).b] 81)).cell? ⟨wr.heap.size,0,none⟩=some (.int .i64 (atN xs k).k)/\(wr.alloc (.cells #[.int .i64 (atN xs k).k,.string (atN xs k).t,.int .i64 (atN xs k).a,.int .i64 (atN xs k).b] 81)).cell? ⟨wr.heap.size,1,none⟩=some (.string (atN xs k).t)/\(wr.alloc (.cells #[.int .i64 (atN xs k).k,.string (atN xs k).t,.int .i64 (atN xs k).a,.int .i64 (atN xs k).b] 81)).cell? ⟨wr.heap.size,2,none⟩=some (.int .i64 (atN xs k).a)/\(wr.alloc (.cells #[.int .i64 (atN xs k).k,.string (atN xs k).t,.int .i64 (atN xs k).a,.int .i64 (atN xs k).b] 81)).cell? ⟨wr.heap.size,3,none⟩=some (.int .i64 (atN xs k).b) from ⟨by simp [go_sem],by simp [go_sem],by simp [go_sem],by simp [go_sem]⟩))
     have HSE:=zB (show ((atN xs k).a=0/\(atN xs k).b=0->zBv (atN xs k) k []=some [k])/\(¬ ((atN xs k).a=0/\(atN xs k).b=0)->zBv (atN xs k) k []=none) by
      unfold zBv
      rw [if_pos (zA HC)]
      exact ⟨fun h=>if_pos h,fun h=>if_neg h⟩)
     by_cases hfit:(atN xs k).a=0/\(atN xs k).b=0
     case neg=>
      have HNO:=zB (zBO (zA hst) hlt ((zA HSE).2 hfit))
      have HFF:=zB hfit
      clear hfit
      go_wp2_with (go_at_call 91; refine (Z5 (zA HC) _ rfl _).mono ?_; rintro e w' ⟨rfl,hx⟩; obtain rfl:=hx.symm)
      go_region_with (first | (go_at_call 92; have HB:=(zC wr (.cells #[.int .i64 (atN xs k).k,.string (atN xs k).t,.int .i64 (atN xs k).a,.int .i64 (atN xs k).b] 81)).drew; have HX:=zFX (atN xs k) none 0 ((wr.alloc (.cells #[.int .i64 (atN xs k).k,.string (atN xs k).t,.int .i64 (atN xs k).a,.int .i64 (atN xs k).b] 81)).drew); refine HX.mono ?_; clear HX; rintro e w2 ⟨⟨v2,rfl,hv2⟩,hb2⟩; obtain rfl:v2=false:=Bool.eq_false_iff.2 (fun h=>(zA HFF) (hv2.1 h)); have z2:wr.heap.size<w2.heap.size:=Nat.lt_of_lt_of_le (zA HZW) hb2.size; have q20:w2.cell? ⟨wr.heap.size,0,none⟩=some (.int .i64 (atN xs k).k):=(hb2.cell (p:=⟨wr.heap.size,0,none⟩) (zA HZW)).trans (zA HNW).1; have q21:w2.cell? ⟨wr.heap.size,1,none⟩=some (.string (atN xs k).t):=(hb2.cell (p:=⟨wr.heap.size,1,none⟩) (zA HZW)).trans (zA HNW).2.1; have q22:w2.cell? ⟨wr.heap.size,2,none⟩=some (.int .i64 (atN xs k).a):=(hb2.cell (p:=⟨wr.heap.size,2,none⟩) (zA HZW)).trans (zA HNW).2.2.1; have q23:w2.cell? ⟨wr.heap.size,3,none⟩=some (.int .i64 (atN xs k).b):=(hb2.cell (p:=⟨wr.heap.size,3,none⟩) (zA HZW)).trans (zA HNW).2.2.2; have B2:=zB (hbel.trans ((HB.trans (hb2.mono (Nat.le_of_lt (zA HZW)))).mono hbel.size)); clear hb2 hv2 HB))
      go_wp2
      go_ret
      exact ⟨⟨_,rfl,zQ (zA HNO)⟩,zA B2⟩
     have HFT:=zB hfit
     clear hfit
     by_cases htx:zAA (atN xs k)
     case neg=>
      have HNO:=zB (show ¬ ZE xs from fun h=>htx (h.2.2.2 k hlt))
      have HXF:=zB htx
      clear htx
      go_wp2_with (go_at_call 91; refine (Z5 (zA HC) _ rfl _).mono ?_; rintro e w' ⟨rfl,hx⟩; obtain rfl:=hx.symm)
      go_region_with (first | (go_at_call 92; have HB:=(zC wr (.cells #[.int .i64 (atN xs k).k,.string (atN xs k).t,.int .i64 (atN xs k).a,.int .i64 (atN xs k).b] 81)).drew; have HX:=zFX (atN xs k) none 0 ((wr.alloc (.cells #[.int .i64 (atN xs k).k,.string (atN xs k).t,.int .i64 (atN xs k).a,.int .i64 (atN xs k).b] 81)).drew); refine HX.mono ?_; clear HX; rintro e w2 ⟨⟨v2,rfl,hv2⟩,hb2⟩; obtain rfl:v2=true:=hv2.2 (zA HFT); have z2:wr.heap.size<w2.heap.size:=Nat.lt_of_lt_of_le (zA HZW) hb2.size; have q20:w2.cell? ⟨wr.heap.size,0,none⟩=some (.int .i64 (atN xs k).k):=(hb2.cell (p:=⟨wr.heap.size,0,none⟩) (zA HZW)).trans (zA HNW).1; have q21:w2.cell? ⟨wr.heap.size,1,none⟩=some (.string (atN xs k).t):=(hb2.cell (p:=⟨wr.heap.size,1,none⟩) (zA HZW)).trans (zA HNW).2.1; have q22:w2.cell? ⟨wr.heap.size,2,none⟩=some (.int .i64 (atN xs k).a):=(hb2.cell (p:=⟨wr.heap.size,2,none⟩) (zA HZW)).trans (zA HNW).2.2.1; have q23:w2.cell? ⟨wr.heap.size,3,none⟩=some (.int .i64 (atN xs k).b):=(hb2.cell (p:=⟨wr.heap.size,3,none⟩) (zA HZW)).trans (zA HNW).2.2.2; have B2:=zB (hbel.trans ((HB.trans (hb2.mono (Nat.le_of_lt (zA HZW)))).mono hbel.size)); clear hb2 hv2 HB) | (go_at_call 93; refine (zB2 (atN xs k) _ (zA hHT)).mono ?_; rintro e w3 ⟨⟨v3,rfl,hv3⟩,hb3⟩; obtain rfl:v3=false:=Bool.eq_false_iff.2 (fun h=>(zA HXF) (hv3.1 h)); have q30:w3.cell? ⟨wr.heap.size,0,none⟩=some (.int .i64 (atN xs k).k):=(hb3.cell (p:=⟨wr.heap.size,0,none⟩) z2).trans q20; have q31:w3.cell? ⟨wr.heap.size,1,none⟩=some (.string (atN xs k).t):=(hb3.cell (p:=⟨wr.heap.size,1,none⟩) z2).trans q21; have q32:w3.cell? ⟨wr.heap.size,2,none⟩=some (.int .i64 (atN xs k).a):=(hb3.cell (p:=⟨wr.heap.size,2,none⟩) z2).trans q22; have q33:w3.cell? ⟨wr.heap.size,3,none⟩=some (.int .i64 (atN xs k).b):=(hb3.cell (p:=⟨wr.heap.size,3,none⟩) z2).trans q23; have B3:=zB ((zA B2).trans (hb3.mono (zA B2).size)); clear hb3 hv3))
      go_wp2
      go_ret
      exact ⟨⟨_,rfl,zQ (zA HNO)⟩,zA B3⟩
     have HXT:=zB htx
     clear htx
     go_wp2_with (go_at_call 91; refine (Z5 (zA HC) _ rfl _).mono ?_; rintro e w' ⟨rfl,hx⟩; obtain rfl:=hx.symm)
     go_region_with (first | (go_at_call 92; have HB:=(zC wr (.cells #[.int .i64 (atN xs k).k,.string (atN xs k).t,.int .i64 (atN xs k).a,.int .i64 (atN xs k).b] 81)).drew; have HX:=zFX (atN xs k) none 0 ((wr.alloc (.cells #[.int .i64 (atN xs k).k,.string (atN xs k).t,.int .i64 (atN xs k).a,.int .i64 (atN xs k).b] 81)).drew); refine HX.mono ?_; clear HX; rintro e w2 ⟨⟨v2,rfl,hv2⟩,hb2⟩; obtain rfl:v2=true:=hv2.2 (zA HFT); have z2:wr.heap.size<w2.heap.size:=Nat.lt_of_lt_of_le (zA HZW) hb2.size; have q20:w2.cell? ⟨wr.heap.size,0,none⟩=some (.int .i64 (atN xs k).k):=(hb2.cell (p:=⟨wr.heap.size,0,none⟩) (zA HZW)).trans (zA HNW).1; have q21:w2.cell? ⟨wr.heap.size,1,none⟩=some (.string (atN xs k).t):=(hb2.cell (p:=⟨wr.heap.size,1,none⟩) (zA HZW)).trans (zA HNW).2.1; have q22:w2.cell? ⟨wr.heap.size,2,none⟩=some (.int .i64 (atN xs k).a):=(hb2.cell (p:=⟨wr.heap.size,2,none⟩) (zA HZW)).trans (zA HNW).2.2.1; have q23:w2.cell? ⟨wr.heap.size,3,none⟩=some (.int .i64 (atN xs k).b):=(hb2.cell (p:=⟨wr.heap.size,3,none⟩) (zA HZW)).trans (zA HNW).2.2.2; have B2:=zB (hbel.trans ((HB.trans (hb2.mono (Nat.le_of_lt (zA HZW)))).mono hbel.size)); clear hb2 hv2 HB) | (go_at_call 93; refine (zB2 (atN xs k) _ (zA hHT)).mono ?_; rintro e w3 ⟨⟨v3,rfl,hv3⟩,hb3⟩; obtain rfl:v3=true:=hv3.2 (zA HXT); have q30:w3.cell? ⟨wr.heap.size,0,none⟩=some (.int .i64 (atN xs k).k):=(hb3.cell (p:=⟨wr.heap.size,0,none⟩) z2).trans q20; have q31:w3.cell? ⟨wr.heap.size,1,none⟩=some (.string (atN xs k).t):=(hb3.cell (p:=⟨wr.heap.size,1,none⟩) z2).trans q21; have q32:w3.cell? ⟨wr.heap.size,2,none⟩=some (.int .i64 (atN xs k).a):=(hb3.cell (p:=⟨wr.heap.size,2,none⟩) z2).trans q22; have q33:w3.cell? ⟨wr.heap.size,3,none⟩=some (.int .i64 (atN xs k).b):=(hb3.cell (p:=⟨wr.heap.size,3,none⟩) z2).trans q23; have B3:=zB ((zA B2).trans (hb3.mono (zA B2).size)); clear hb3 hv3))
     have hw3:w.heap.size<=w3.heap.size:=(zA B3).size
     clear q20 q21 q22 q23 q30 q31 q32 q33 B2
     go_wp2_with (at_builtin; refine wpList_append_own_at _ rfl (.tmp 42) (.tmp 44) 79 rfl w.heap.size 3 i0 _ 1 8 Tryz.underlying79 (zA HI) (zA HZ).1 (zA HZ).2.1 (zA HZ).2.2 rfl (by decide) _ 0 [] rfl (World.ownsRow_nil _ _ _ _) ⟨w3.heap.size,0,none⟩ 1 1 (za [(k:Int)]) rfl rfl (zHr w3 (k:Int)) (zAn _) ?b1 ?b2 ?b3 ?next)
     case b1=>unfold maxLen; omega
     case b2=>omega
     case b3=>simp; omega
     case next=>
      intro v4 w4 hown4 hgrow4 hnil4 hat4
      have HB4:=zB (((zA B3).alloc (zA B3).size _).grown hgrow4 (by simp; omega) (fun q hq=>by simp [Value.ownBlock] at hq))
      have HO4:=zB (show w4.ownsRow w.heap.size 3 1 v4 [k].length (za (zy [k])) from hown4)
      have HS4:=zB (show stk xs (k+1)=some [k] by rw [zB7 (zA hst),(zA HSE).1 (zA HFT)])
      clear hown4 hgrow4 hnil4 hat4 B3
      go_wp2_with fail
      refine ⟨⟨k+1,[k],v4,by omega,by go_num,rfl,HS4,HO4,zB (by simp),zB (fun h=>by omega),zB (fun _=>by simp),zB (fun j hj=>?_),zA HB4⟩,by simp [intOf]; omega⟩
      by_cases e:j=k
      ·subst e; exact zA HXT
      ·exact (zA hok) j (by omega)
   ·subst hv
    obtain ⟨n,hn⟩:∃ n,n=st.length:=⟨_,rfl⟩
    rw [<- hn] at hslk hg3
    have HN:=zB hn
    rw [<- hn]
    have HO:=zB (show wr.ownsRow w.heap.size 3 1 (.slice (some ⟨g,0,none⟩) n cp) n (za (zy st)) by rw [hn]; exact zA hown)
    clear hn hown
    by_cases hsh:n<c
    ·have HNO:=zB (zBO (zA hst) hlt (zD7 (by rw [zA HC,<- zA HN]; exact hsh)))
     have hneg:(n:Int)-(c:Int)<0:=by omega
     go_wp2_with (go_at_call 91; refine (Z5 (zA HC) _ rfl _).mono ?_; rintro e w' ⟨rfl,hx⟩; obtain rfl:=hx.symm)
     go_quiet (fail)
     go_wp2
     go_ret
     exact ⟨⟨_,rfl,zQ (zA HNO)⟩,zEq (hbel.alloc hbel.size _) rfl rfl rfl rfl⟩
    ·obtain ⟨m,hm0⟩:∃ m,n=m+c:=⟨n-c,by omega⟩
     have hmI:(n:Int)-(c:Int)=(m:Int):=by omega
     have hmn:(m:Int)<=(n:Int):=by omega
     have hnm:n-m=c:=by omega
     have hm0':=zB hm0
     have hmcp:(m:Int)<=(cp:Int):=by omega
     have hmd:decide ((m:Int)<0)=false:=by simp
     have hmk:m<=k:=by have:=zA hsl; have:=zA HN; omega
     have HKF:=zB (show ∀ (W:World) (a:Option Addr) (cp':Nat),Below wr.heap.size wr W->(c=0\/a=some ⟨g,m,none⟩)->Calls Tryz.prog 92 #[.agg #[.int .i64 (atN xs k).k,.string (atN xs k).t,.int .i64 (atN xs k).a,.int .i64 (atN xs k).b],.slice a c cp'] W fun e w'=>zCw e (zJq xs k m st)/\Below W.heap.size W w' from fun W a cp' hW ha=>by
      have hl:((zy st).drop m).length=c:=by rw [List.length_drop,zBE,<- zA HN]; omega
      refine zKm (atN xs k) _ cp' ((zy st).drop m) W c hl.symm (by omega) ?_
      rcases ha with ha | ha
      ·exact Or.inl (by omega)
      ·refine Or.inr ⟨g,m,ha,fun j hj=>?_⟩
       rw [hW.cell (p:=⟨g,m+j,none⟩) hg2]
       have hj':m+j<n:=by omega
       have e1:=(zA HO).cellAt (m+j) (by omega)
       have e2:=zIY (zy st) (m+j) (by rw [zBE,<- zA HN]; exact hj')
       rw [e1,e2]
       simp [atI,List.getElem?_drop])
     have HZW:=zB (show wr.heap.size<(wr.alloc (.cells #[.int .i64 (atN xs k).k,.string (atN xs k).t,.int .i64 (atN xs k).a,.int .i64 (atN xs k).b] 81)).drew.heap.size from (show wr.heap.size<(wr.alloc (.cells #[.int .i64 (atN xs k).k,.string (atN xs k).t,.int .i64 (atN xs k).a,.int .i64 (atN xs k).b] 81)).heap.size by simp))
     have HNW:=zB (show (wr.alloc (.cells #[.int .i64 (atN xs k).k,.string (atN xs k).t,.int .i64 (atN xs k).a,.int .i64 (atN xs k).b] 81)).drew.cell? ⟨wr.heap.size,0,none⟩=some (.int .i64 (atN xs k).k)/\(wr.alloc (.cells #[.int .i64 (atN xs k).k,.string (atN xs k).t,.int .i64 (atN xs k).a,.int .i64 (atN xs k).b] 81)).drew.cell? ⟨wr.heap.size,1,none⟩=some (.string (atN xs k).t)/\(wr.alloc (.cells #[.int .i64 (atN xs k).k,.string (atN xs k).t,.int .i64 (atN xs k).a,.int .i64 (atN xs k).b] 81)).drew.cell? ⟨wr.heap.size,2,none⟩=some (.int .i64 (atN xs k).a)/\(wr.alloc (.cells #[.int .i64 (atN xs k).k,.string (atN xs k).t,.int .i64 (atN xs k).a,.int .i64 (atN xs k).b] 81)).drew.cell? ⟨wr.heap.size,3,none⟩=some (.int .i64 (atN xs k).b) from
      (show (wr.alloc (.cells #[.int .i64 (atN xs k).k,.string (atN xs k).t,.int .i64 (atN xs k).a,.int .i64 (atN xs k).b] 81)).cell? ⟨wr.heap.size,0,none⟩=some (.int .i64 (atN xs k).k)/\(wr.alloc (.cells #[.int .i64 (atN xs k).k,.string (atN xs k).t,.int .i64 (atN xs k).a,.int .i64 (atN xs k).b] 81)).cell? ⟨wr.heap.size,1,none⟩=some (.string (atN xs k).t)/\(wr.alloc (.cells #[.int .i64 (atN xs k).k,.string (atN xs k).t,.int .i64 (atN xs k).a,.int .i64 (atN xs k).b] 81)).cell? ⟨wr.heap.size,2,none⟩=some (.int .i64 (atN xs k).a)/\(wr.alloc (.cells #[.int .i64 (atN xs k).k,.string (atN xs k).t,.int .i64 (atN xs k).a,.int .i64 (atN xs k).b] 81)).cell? ⟨wr.heap.size,3,none⟩=some (.int .i64 (atN xs k).b) from ⟨by simp [go_sem],by simp [go_sem],by simp [go_sem],by simp [go_sem]⟩))
     obtain ⟨ad,had⟩:∃ ad,(if cp=m then some (⟨g,0,none⟩:Addr) else some ⟨g,m,none⟩)=ad:=⟨_,rfl⟩
     have HAD:=zB (show c=0\/ad=some ⟨g,m,none⟩ by
      by_cases h:cp=m
      ·exact Or.inl (by omega)
      ·exact Or.inr (had.symm.trans (if_neg h)))
     have HSE:=zB (show (zJq xs k m st->zBv (atN xs k) k st=some (k::st.drop c))/\(¬ zJq xs k m st->zBv (atN xs k) k st=none) by
      have:=zOh (o:=atN xs k) (k:=k) (m:=m) (st:=st) (by rw [zA HC,<- zA HN]; exact hm0.symm)
      rw [zA HC] at this
      exact ⟨fun h=>this.trans (if_pos h),fun h=>this.trans (if_neg h)⟩)
     clear hm0
     by_cases hfit:zJq xs k m st
     case neg=>
      have HNO:=zB (zBO (zA hst) hlt ((zA HSE).2 hfit))
      have HFF:=zB hfit
      clear hfit
      go_wp2_with (go_at_call 91; refine (Z5 (zA HC) _ rfl _).mono ?_; rintro e w' ⟨rfl,hx⟩; obtain rfl:=hx.symm)
      go_region_with (first | (go_at_call 92; have HB:=(zC wr (.cells #[.int .i64 (atN xs k).k,.string (atN xs k).t,.int .i64 (atN xs k).a,.int .i64 (atN xs k).b] 81)).drew; have HX:=(zA HKF) ((wr.alloc (.cells #[.int .i64 (atN xs k).k,.string (atN xs k).t,.int .i64 (atN xs k).a,.int .i64 (atN xs k).b] 81)).drew) ad (cp-m) HB (zA HAD); refine HX.mono ?_; clear HX; rintro e w2 ⟨⟨v2,rfl,hv2⟩,hb2⟩; obtain rfl:v2=false:=Bool.eq_false_iff.2 (fun h=>(zA HFF) (hv2.1 h)); have z2:wr.heap.size<w2.heap.size:=Nat.lt_of_lt_of_le (zA HZW) hb2.size; have q20:w2.cell? ⟨wr.heap.size,0,none⟩=some (.int .i64 (atN xs k).k):=(hb2.cell (p:=⟨wr.heap.size,0,none⟩) (zA HZW)).trans (zA HNW).1; have q21:w2.cell? ⟨wr.heap.size,1,none⟩=some (.string (atN xs k).t):=(hb2.cell (p:=⟨wr.heap.size,1,none⟩) (zA HZW)).trans (zA HNW).2.1; have q22:w2.cell? ⟨wr.heap.size,2,none⟩=some (.int .i64 (atN xs k).a):=(hb2.cell (p:=⟨wr.heap.size,2,none⟩) (zA HZW)).trans (zA HNW).2.2.1; have q23:w2.cell? ⟨wr.heap.size,3,none⟩=some (.int .i64 (atN xs k).b):=(hb2.cell (p:=⟨wr.heap.size,3,none⟩) (zA HZW)).trans (zA HNW).2.2.2; have B2:=zB (hbel.trans ((HB.trans (hb2.mono (Nat.le_of_lt (zA HZW)))).mono hbel.size)); have G2:=zB (HB.trans (hb2.mono (Nat.le_of_lt (zA HZW)))); clear hb2 hv2 HB))
      go_wp2
      go_ret
      exact ⟨⟨_,rfl,zQ (zA HNO)⟩,zA B2⟩
     have HFT:=zB hfit
     clear hfit
     by_cases htx:zAA (atN xs k)
     case neg=>
      have HNO:=zB (show ¬ ZE xs from fun h=>htx (h.2.2.2 k hlt))
      have HXF:=zB htx
      clear htx
      go_wp2_with (go_at_call 91; refine (Z5 (zA HC) _ rfl _).mono ?_; rintro e w' ⟨rfl,hx⟩; obtain rfl:=hx.symm)
      go_region_with (first | (go_at_call 92; have HB:=(zC wr (.cells #[.int .i64 (atN xs k).k,.string (atN xs k).t,.int .i64 (atN xs k).a,.int .i64 (atN xs k).b] 81)).drew; have HX:=(zA HKF) ((wr.alloc (.cells #[.int .i64 (atN xs k).k,.string (atN xs k).t,.int .i64 (atN xs k).a,.int .i64 (atN xs k).b] 81)).drew) ad (cp-m) HB (zA HAD); refine HX.mono ?_; clear HX; rintro e w2 ⟨⟨v2,rfl,hv2⟩,hb2⟩; obtain rfl:v2=true:=hv2.2 (zA HFT); have z2:wr.heap.size<w2.heap.size:=Nat.lt_of_lt_of_le (zA HZW) hb2.size; have q20:w2.cell? ⟨wr.heap.size,0,none⟩=some (.int .i64 (atN xs k).k):=(hb2.cell (p:=⟨wr.heap.size,0,none⟩) (zA HZW)).trans (zA HNW).1; have q21:w2.cell? ⟨wr.heap.size,1,none⟩=some (.string (atN xs k).t):=(hb2.cell (p:=⟨wr.heap.size,1,none⟩) (zA HZW)).trans (zA HNW).2.1; have q22:w2.cell? ⟨wr.heap.size,2,none⟩=some (.int .i64 (atN xs k).a):=(hb2.cell (p:=⟨wr.heap.size,2,none⟩) (zA HZW)).trans (zA HNW).2.2.1; have q23:w2.cell? ⟨wr.heap.size,3,none⟩=some (.int .i64 (atN xs k).b):=(hb2.cell (p:=⟨wr.heap.size,3,none⟩) (zA HZW)).trans (zA HNW).2.2.2; have B2:=zB (hbel.trans ((HB.trans (hb2.mono (Nat.le_of_lt (zA HZW)))).mono hbel.size)); have G2:=zB (HB.trans (hb2.mono (Nat.le_of_lt (zA HZW)))); clear hb2 hv2 HB) | (go_at_call 93; refine (zB2 (atN xs k) _ (zA hHT)).mono ?_; rintro e w3 ⟨⟨v3,rfl,hv3⟩,hb3⟩; obtain rfl:v3=false:=Bool.eq_false_iff.2 (fun h=>(zA HXF) (hv3.1 h)); have q30:w3.cell? ⟨wr.heap.size,0,none⟩=some (.int .i64 (atN xs k).k):=(hb3.cell (p:=⟨wr.heap.size,0,none⟩) z2).trans q20; have q31:w3.cell? ⟨wr.heap.size,1,none⟩=some (.string (atN xs k).t):=(hb3.cell (p:=⟨wr.heap.size,1,none⟩) z2).trans q21; have q32:w3.cell? ⟨wr.heap.size,2,none⟩=some (.int .i64 (atN xs k).a):=(hb3.cell (p:=⟨wr.heap.size,2,none⟩) z2).trans q22; have q33:w3.cell? ⟨wr.heap.size,3,none⟩=some (.int .i64 (atN xs k).b):=(hb3.cell (p:=⟨wr.heap.size,3,none⟩) z2).trans q23; have B3:=zB ((zA B2).trans (hb3.mono (zA B2).size)); have G3:=zB ((zA G2).trans (hb3.mono (zA G2).size)); clear hb3 hv3))
      go_wp2
      go_ret
      exact ⟨⟨_,rfl,zQ (zA HNO)⟩,zA B3⟩
     have HXT:=zB htx
     clear htx
     go_wp2_with (go_at_call 91; refine (Z5 (zA HC) _ rfl _).mono ?_; rintro e w' ⟨rfl,hx⟩; obtain rfl:=hx.symm)
     go_region_with (first | (go_at_call 92; have HB:=(zC wr (.cells #[.int .i64 (atN xs k).k,.string (atN xs k).t,.int .i64 (atN xs k).a,.int .i64 (atN xs k).b] 81)).drew; have HX:=(zA HKF) ((wr.alloc (.cells #[.int .i64 (atN xs k).k,.string (atN xs k).t,.int .i64 (atN xs k).a,.int .i64 (atN xs k).b] 81)).drew) ad (cp-m) HB (zA HAD); refine HX.mono ?_; clear HX; rintro e w2 ⟨⟨v2,rfl,hv2⟩,hb2⟩; obtain rfl:v2=true:=hv2.2 (zA HFT); have z2:wr.heap.size<w2.heap.size:=Nat.lt_of_lt_of_le (zA HZW) hb2.size; have q20:w2.cell? ⟨wr.heap.size,0,none⟩=some (.int .i64 (atN xs k).k):=(hb2.cell (p:=⟨wr.heap.size,0,none⟩) (zA HZW)).trans (zA HNW).1; have q21:w2.cell? ⟨wr.heap.size,1,none⟩=some (.string (atN xs k).t):=(hb2.cell (p:=⟨wr.heap.size,1,none⟩) (zA HZW)).trans (zA HNW).2.1; have q22:w2.cell? ⟨wr.heap.size,2,none⟩=some (.int .i64 (atN xs k).a):=(hb2.cell (p:=⟨wr.heap.size,2,none⟩) (zA HZW)).trans (zA HNW).2.2.1; have q23:w2.cell? ⟨wr.heap.size,3,none⟩=some (.int .i64 (atN xs k).b):=(hb2.cell (p:=⟨wr.heap.size,3,none⟩) (zA HZW)).trans (zA HNW).2.2.2; have B2:=zB (hbel.trans ((HB.trans (hb2.mono (Nat.le_of_lt (zA HZW)))).mono hbel.size)); have G2:=zB (HB.trans (hb2.mono (Nat.le_of_lt (zA HZW)))); clear hb2 hv2 HB) | (go_at_call 93; refine (zB2 (atN xs k) _ (zA hHT)).mono ?_; rintro e w3 ⟨⟨v3,rfl,hv3⟩,hb3⟩; obtain rfl:v3=true:=hv3.2 (zA HXT); have q30:w3.cell? ⟨wr.heap.size,0,none⟩=some (.int .i64 (atN xs k).k):=(hb3.cell (p:=⟨wr.heap.size,0,none⟩) z2).trans q20; have q31:w3.cell? ⟨wr.heap.size,1,none⟩=some (.string (atN xs k).t):=(hb3.cell (p:=⟨wr.heap.size,1,none⟩) z2).trans q21; have q32:w3.cell? ⟨wr.heap.size,2,none⟩=some (.int .i64 (atN xs k).a):=(hb3.cell (p:=⟨wr.heap.size,2,none⟩) z2).trans q22; have q33:w3.cell? ⟨wr.heap.size,3,none⟩=some (.int .i64 (atN xs k).b):=(hb3.cell (p:=⟨wr.heap.size,3,none⟩) z2).trans q23; have B3:=zB ((zA B2).trans (hb3.mono (zA B2).size)); have G3:=zB ((zA G2).trans (hb3.mono (zA G2).size)); clear hb3 hv3))
     have HO3:=zB (zMt ((zA HO).kept (zZ (zA G3) none) (Or.inr (by simp [Value.ownBlock]))) (m:=m) (by omega))
     have hw3:w.heap.size<=w3.heap.size:=(zA B3).size
     have hl3:((zy st).take m).length=m:=by rw [List.length_take,zBE,<- zA HN]; omega
     clear q20 q21 q22 q23 q30 q31 q32 q33 G2 G3 B2 HKF
     go_wp2_with (at_builtin; refine wpList_append_own_at _ rfl (.tmp 42) (.tmp 44) 79 rfl w.heap.size 3 i0 _ 1 8 Tryz.underlying79 (zA HI) (zA HZ).1 (zA HZ).2.1 (zA HZ).2.2 rfl (by decide) _ m (za ((zy st).take m)) rfl ((zA HO3).alloc _) ⟨w3.heap.size,0,none⟩ 1 1 (za [(k:Int)]) rfl rfl (zHr w3 (k:Int)) (zAn _) ?b1 ?b2 ?b3 ?next)
     case b1=>unfold maxLen; omega
     case b2=>omega
     case b3=>simp; omega
     case next=>
      intro v4 w4 hown4 hgrow4 hnil4 hat4
      have HB4:=zB (((zA B3).alloc (zA B3).size _).grown hgrow4 (by simp; omega) (fun q hq=>by simp [Value.ownBlock] at hq; omega))
      have HO4:=zB (show w4.ownsRow w.heap.size 3 1 v4 (k::st.drop c).length (za (zy (k::st.drop c))) by
       rw [zJp (m:=m) (by rw [<- zA HN]; exact (zA hm0').symm),Z8]
       have:(k::st.drop c).length=m+1:=by have:=zA HN; have:=zA hm0'; simp; omega
       rw [this]
       exact hown4)
      have HL4:=zB (show (k::st.drop c).length<=k+1 by have:=zA HN; have:=zA hm0'; simp; omega)
      have HS4:=zB (show stk xs (k+1)=some (k::st.drop c) by rw [zB7 (zA hst),(zA HSE).1 (zA HFT)])
      clear hown4 hgrow4 hnil4 hat4 HO3 B3
      go_wp2_with fail
      refine ⟨⟨k+1,k::st.drop c,v4,by omega,by go_num,rfl,HS4,HO4,HL4,zB (fun h=>by omega),zB (fun _=>by simp),zB (fun j hj=>?_),zA HB4⟩,by simp [intOf]; omega⟩
      by_cases e:j=k
      ·subst e; exact zA HXT
      ·exact (zA hok) j (by omega)
  ·have hkx:k=xs.length:=by omega
   have HKX:=zB hkx
   clear hkx
   rcases zIg (zA hown) with ⟨hv,hn0⟩ | ⟨g,cp,hv,hg1,hg2,hg3⟩
   ·subst hv
    have HNO:=zB (show ¬ ZE xs from fun h=>by have:=(zA hkp) (by have:=h.1; have:=zA HKX; omega); omega)
    go_wp2_with fail
    go_ret
    exact ⟨⟨_,rfl,zQ (zA HNO)⟩,hbel⟩
   ·subst hv
    by_cases hn1:st.length=1
    ·have HYES:=zB (show ZE xs by
      have h1:1<=xs.length:=by have:=zA hsl; have:=zA HKX; omega
      exact ⟨h1,by omega,(zFZ h1).2 ⟨st,by rw [<- zA HKX]; exact zA hst,hn1⟩,fun i hi=>(zA hok) i (by have:=zA HKX; omega)⟩)
     rw [hn1]
     clear hn1
     go_wp2_with fail
     go_ret
     exact ⟨⟨_,rfl,Zx (zA HYES)⟩,hbel⟩
    ·have HNO:=zB (show ¬ ZE xs from fun h=>by
      obtain ⟨st',hs',hl'⟩:=(zFZ h.1).1 h.2.2.1
      have e:=zA hst
      rw [zA HKX,hs'] at e
      injection e with e
      subst e
      exact hn1 hl')
     have hn1':((st.length:Int)==1)=false:=by simp; omega
     clear hn1
     go_wp2_with fail
     go_ret
     exact ⟨⟨_,rfl,zQ (zA HNO)⟩,hbel⟩
end Go.Proofs.YtfboipappaonhaaGreat
