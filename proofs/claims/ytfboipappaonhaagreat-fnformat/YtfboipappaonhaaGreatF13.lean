import Derived.Deep.RegionHeldLaw
import Derived.BigQuiet
import Derived.Test.YtfboipappaonhaaGreatF02
import Derived.Test.YtfboipappaonhaaGreatF08
import Derived.Test.YtfboipappaonhaaGreatF12
namespace Go.Proofs.YtfboipappaonhaaGreat
set_option linter.unusedSimpArgs false
set_option maxHeartbeats 16000000
set_option maxRecDepth 100000
open Go.RowKit
def sgT (ns:List OpR) (ts:List zK) (i:Nat):SyR:=
 if (atT ts i).k=3 then ((zV ns ts i).toNat+2,(atT ts i).t)
 else if (atT ts i).k=4 then (6,opn) else if (atT ts i).k=5 then (7,zA1) else if (atT ts i).k=7 then eoS else ((atT ts i).k.toNat,(atT ts i).t)
def sgs (ns:List OpR) (ts:List zK) (a n:Nat):List SyR:=(List.range' a n).map (sgT ns ts)
theorem zAD (ns:List OpR) (ts:List zK) (a n:Nat):(sgs ns ts a n).length=n:=by simp [sgs]
theorem zDw (ns:List OpR) (ts:List zK) (a n:Nat):sgs ns ts a (n+1)=sgT ns ts a::sgs ns ts (a+1) n:=by
 simp [sgs,List.range'_succ]
theorem zFD (ns:List OpR) (ts:List zK) (a m n:Nat):sgs ns ts a (m+n)=sgs ns ts a m++sgs ns ts (a+m) n:=by
 induction m generalizing a with
 | zero=>simp [sgs]
 | succ m ih=>
  have e:m+1+n=(m+n)+1:=by omega
  rw [e,zDw,zDw,ih]
  have e2:a+1+m=a+(m+1):=by omega
  rw [e2]; rfl
theorem zCI (ns:List OpR) (ts:List zK) (a n:Nat):sgs ns ts a (n+1)=sgs ns ts a n++[sgT ns ts (a+n)]:=by
 rw [zFD]; rfl
def zIM (ns:List OpR) (t:zK):Prop:=
 ((t.k=1\/t.k=2)/\¬ opT ns t.t/\t.t≠opn)\/(t.k=3/\opT ns t.t/\t.t≠opn)\/(t.k=4/\t.t=opn/\¬ opT ns t.t)\/(t.k=5/\t.t=zA1/\¬ opT ns t.t)\/t.k=6\/(t.k=7/\t.t=⟨#[]⟩/\¬ opT ns t.t)
theorem zFj {t:ByteArray} {ns:List OpR} (hv:ZA ns) (ho:opT ns t):cls (bt t 0)=6/\1<=t.size:=by
 obtain ⟨j,hj,rfl⟩:=ho
 have:=hv j hj
 exact ⟨this.2.2 0 (by omega),this.1⟩
theorem zNg {ns:List OpR} (hv:ZA ns) {s:ByteArray} {i n k:Nat} (g:ByteArray) (h:zBS ns s i n k):zIM ns ⟨(k:Int),g,s.extract i (i+n)⟩:=by
 obtain ⟨h1,h2,h⟩:=h
 have hb:bt (sub s i n) 0=bt s i:=by simpa using zB6 (s:=s) (i:=i) (n:=n) (j:=0) h2 (by omega)
 have hsz:(sub s i n).size=n:=zAU h2
 have hno:cls (bt s i)≠6->¬ opT ns (sub s i n):=fun hc ho=>hc (by rw [<- hb]; exact (zFj hv ho).1)
 have hnp:cls (bt s i)≠4->sub s i n≠opn:=fun hc e=>hc (by rw [<- hb,e]; decide)
 change zIM ns ⟨(k:Int),g,sub s i n⟩
 rcases h with ⟨c,rfl,_⟩ | ⟨c,rfl,_⟩ | ⟨c,rfl,rfl⟩ | ⟨c,rfl,rfl⟩ | ⟨c,⟨rfl,a,_⟩ | ⟨rfl,_⟩⟩ | ⟨c,rfl,_⟩
 ·exact Or.inl ⟨Or.inl rfl,hno (by omega),hnp (by omega)⟩
 ·exact Or.inl ⟨Or.inr rfl,hno (by omega),hnp (by omega)⟩
 ·refine Or.inr (Or.inr (Or.inl ⟨rfl,?_,hno (by omega)⟩))
  exact (zBf hsz).2 (by rw [hb]; exact (zEr _).1 c)
 ·refine Or.inr (Or.inr (Or.inr (Or.inl ⟨rfl,?_,hno (by omega)⟩)))
  exact (zBf hsz).2 (by rw [hb]; exact (zD9 _).1 c)
 ·exact Or.inr (Or.inl ⟨rfl,a,hnp (by omega)⟩)
 ·exact Or.inr (Or.inr (Or.inr (Or.inr (Or.inl rfl))))
 ·exact Or.inr (Or.inr (Or.inr (Or.inr (Or.inl rfl))))
theorem zI7 {ns:List OpR} (hv:ZA ns) {s:ByteArray}:∀ (ts:List zK) (i:Nat),ZR ns s i ts->∀ j,j<ts.length->zIM ns (atT ts j)
 | [],i,h,j,hj=>by simp at hj
 | t::out,i,h,j,hj=>by
  rcases h with ⟨rfl,_,_,rfl⟩ | ⟨p,n,k,_,_,_,_,ht,rfl,hr⟩
  ·have:j=0:=by simp at hj; omega
   subst this
   refine Or.inr (Or.inr (Or.inr (Or.inr (Or.inr ⟨rfl,rfl,fun ho=>?_⟩))))
   have h1:=(zFj hv ho).2
   simp [atT] at h1
   have h0:(⟨#[]⟩:ByteArray).size=0:=rfl
   omega
  ·cases j with
   | zero=>exact zNg hv _ ht
   | succ j=>exact zI7 hv out _ hr j (by simpa using hj)
theorem zDX {ns:List OpR} {t:ByteArray} {q:Nat} {k:Int} (h:zn ns t k=true) (hq:(q:Int)-2=k):knB ns (q,t)=true:=by
 unfold knB
 simp only [hq]
 cases hf:fnd ns t k with
 | some j=>rfl
 | none=>
  obtain ⟨j,hj,e1,e2⟩:=(ZQ _ _ _).1 h
  exact absurd ⟨e1,e2⟩ (zJ4 hf hj)
theorem zFE (xs:List OpR) (last:Bool) (t:zK) (op:Nat):zz xs last t false op=if t.k=1\/t.k=2\/t.k=4 then 0 else if t.k=3/\zn xs t.t 1=true then 1 else -1:=by
 unfold zz; rw [if_pos rfl]
theorem zDx (xs:List OpR) (last:Bool) (t:zK) (op:Nat):zz xs last t true op=if t.k=3/\zn xs t.t 2=true then 2 else if t.k=3/\zn xs t.t 3=true then 3
  else if t.k=5/\0<op then 0 else if t.k=7/\op=0/\last=true then 0 else -1:=by
 unfold zz; rw [if_neg (by decide)]
theorem zNh {ns:List OpR} {ts:List zK} {i:Nat} (hl:i+1<ts.length) (hr:0<=zV ns ts i) :
  auS ns (zBL ns ts i,zBG ts i) (sgT ns ts i)=some (zBL ns ts (i+1),zBG ts (i+1)):=by
 have hlast:decide (i+1=ts.length)=false:=by simp; omega
 simp only [zBL,zBG]
 unfold sgT
 unfold zV at hr ⊢
 rw [hlast] at hr ⊢
 generalize atT ts i=t at hr ⊢
 generalize zBG ts i=op at hr ⊢
 generalize zBL ns ts i=bh at hr ⊢
 cases bh
 ·rw [zFE] at hr ⊢
  by_cases k1:t.k=1\/t.k=2
  ·rw [if_neg (by omega),if_neg (by omega),if_neg (by omega),if_neg (by omega),zI3 (by rcases k1 with e | e <;> simp [e])]
   simp only [zCG,zBz,if_true,if_pos k1]
   rw [if_neg (by omega),if_neg (by omega)]
  ·by_cases k4:t.k=4
   ·rw [if_neg (by omega),if_pos k4,zI4]
    simp [zCG,zBz,k4]
   ·rw [if_neg (by omega)] at hr
    by_cases c:t.k=3/\zn ns t.t 1=true
    ·rw [if_pos c.1,if_neg (by omega),if_pos c,zK1 (s:=((1:Int).toNat+2,t.t)) rfl (zDX c.2 (by decide))]
     simp [zCG,zBz,c.1]
    ·rw [if_neg c] at hr; omega
 ·rw [zDx] at hr ⊢
  by_cases c2:t.k=3/\zn ns t.t 2=true
  ·rw [if_pos c2.1,if_pos c2,zK2 (s:=((2:Int).toNat+2,t.t)) rfl (zDX c2.2 (by decide))]
   simp [zCG,zBz,c2.1,c2.2]
  ·rw [if_neg c2] at hr
   by_cases c3:t.k=3/\zn ns t.t 3=true
   ·rw [if_pos c3.1,if_neg c2,if_pos c3,zI5 (s:=((3:Int).toNat+2,t.t)) rfl (zDX c3.2 (by decide))]
    simp only [zCG,zBz,Bool.true_eq_false,if_false,if_neg c2]
    rw [if_neg (by omega),if_neg (by omega)]
   ·rw [if_neg c3] at hr
    by_cases c5:t.k=5/\0<op
    ·rw [if_neg (by omega),if_neg (by omega),if_pos c5.1]
     obtain ⟨m,rfl⟩:∃ m,op=m+1:=⟨op-1,by omega⟩
     rw [zG4]
     simp [zCG,zBz,c5.1]
    ·rw [if_neg c5] at hr
     simp at hr
theorem zI8 {ns:List OpR} {ts:List zK}:∀ n,n<ts.length->zBB ns ts n->Zp ns (false,0) (sgs ns ts 0 n)=some (zBL ns ts n,zBG ts n)
 | 0,_,_=>rfl
 | n+1,hn,hf=>by
  rw [zCI,zBm,zI8 n (by omega) (fun i hi=>hf i (by omega))]
  simp only [Nat.zero_add,Zp]
  rw [zNh (by omega) (hf n (by omega))]
theorem zI9 {ns:List OpR} {ts:List zK} (hf:zBB ns ts ts.length) (h0:0<ts.length) (h7:(atT ts (ts.length-1)).k=7) :
  Seg ns (sgs ns ts 0 (ts.length-1))/\sgs ns ts 0 ts.length=sgs ns ts 0 (ts.length-1)++[eoS]:=by
 have hr:=hf (ts.length-1) (by omega)
 have hb:zBL ns ts (ts.length-1)=true/\zBG ts (ts.length-1)=0:=by
  unfold zV zz at hr
  have hl:decide (ts.length-1+1=ts.length)=true:=by simp; omega
  rw [hl] at hr
  cases hb:zBL ns ts (ts.length-1)
  ·rw [hb] at hr
   simp only [if_true] at hr
   rw [if_neg (by omega),if_neg (by omega)] at hr
   omega
  ·rw [hb] at hr
   simp only [Bool.true_eq_false,if_false] at hr
   rw [if_neg (by omega),if_neg (by omega),if_neg (by omega)] at hr
   by_cases c:(atT ts (ts.length-1)).k=7/\zBG ts (ts.length-1)=0/\True
   ·exact ⟨rfl,c.2.1⟩
   ·rw [if_neg c] at hr; omega
 refine ⟨?_,?_⟩
 ·unfold Seg
  rw [zI8 _ (by omega) (fun i hi=>hf i (by omega)),hb.1,hb.2]
 ·have e:ts.length=ts.length-1+1:=by omega
  have:=zCI ns ts 0 (ts.length-1)
  rw [<- e] at this
  rw [this]
  have e2:sgT ns ts (0+(ts.length-1))=eoS:=by
   rw [Nat.zero_add]
   unfold sgT
   rw [if_neg (by omega),if_neg (by omega),if_neg (by omega),if_pos h7]
  rw [e2]
theorem zMT {ns:List OpR} {ts:List zK} {i:Nat} (hr:0<=zV ns ts i) (hb:zBL ns ts i=false) (ht:zIM ns (atT ts i)) :
  (((atT ts i).k=1\/(atT ts i).k=2)/\¬ opT ns (atT ts i).t/\(atT ts i).t≠opn/\sgT ns ts i=((atT ts i).k.toNat,(atT ts i).t)) \/
  ((atT ts i).k=3/\zn ns (atT ts i).t 1=true/\(atT ts i).t≠opn/\sgT ns ts i=(3,(atT ts i).t)) \/
  ((atT ts i).k=4/\(atT ts i).t=opn/\sgT ns ts i=(6,opn)):=by
 unfold sgT
 unfold zV at hr ⊢
 rw [hb,zFE] at hr ⊢
 by_cases k:(atT ts i).k=1\/(atT ts i).k=2\/(atT ts i).k=4
 ·rcases ht with ⟨a,b,c⟩ | ⟨a,b,c⟩ | ⟨a,b,c⟩ | ⟨a,b,c⟩ | a | ⟨a,b,c⟩
  ·refine Or.inl ⟨a,b,c,?_⟩
   rw [if_neg (by omega),if_neg (by omega),if_neg (by omega),if_neg (by omega)]
  ·omega
  ·refine Or.inr (Or.inr ⟨a,b,?_⟩)
   rw [if_neg (by omega),if_pos a]
  ·omega
  ·omega
  ·omega
 ·rw [if_neg k] at hr ⊢
  by_cases c:(atT ts i).k=3/\zn ns (atT ts i).t 1=true
  ·rw [if_pos c.1,if_pos c]
   refine Or.inr (Or.inl ⟨c.1,c.2,?_,rfl⟩)
   rcases ht with ⟨a,b,c'⟩ | ⟨a,b,c'⟩ | ⟨a,b,c'⟩ | ⟨a,b,c'⟩ | a | ⟨a,b,c'⟩
   ·exact c'
   ·exact c'
   all_goals omega
  ·rw [if_neg c] at hr; omega
theorem zK5 {ns:List OpR} {ts:List zK} {i:Nat} (hr:0<=zV ns ts i) (hb:zBL ns ts i=true) (ht:zIM ns (atT ts i)) :
  ((atT ts i).k=3/\zn ns (atT ts i).t 2=true/\sgT ns ts i=(4,(atT ts i).t)) \/
  ((atT ts i).k=3/\zn ns (atT ts i).t 3=true/\sgT ns ts i=(5,(atT ts i).t)) \/
  (¬ opT ns (atT ts i).t/\(sgT ns ts i).1≠4/\(sgT ns ts i).1≠5):=by
 unfold sgT
 unfold zV at hr ⊢
 rw [hb,zDx] at hr ⊢
 by_cases c2:(atT ts i).k=3/\zn ns (atT ts i).t 2=true
 ·rw [if_pos c2.1,if_pos c2]
  exact Or.inl ⟨c2.1,c2.2,rfl⟩
 ·rw [if_neg c2] at hr ⊢
  by_cases c3:(atT ts i).k=3/\zn ns (atT ts i).t 3=true
  ·rw [if_pos c3.1,if_pos c3]
   exact Or.inr (Or.inl ⟨c3.1,c3.2,rfl⟩)
  ·rw [if_neg c3] at hr
   have k57:(atT ts i).k=5\/(atT ts i).k=7:=by
    by_cases c5:(atT ts i).k=5/\0<zBG ts i
    ·exact Or.inl c5.1
    ·rw [if_neg c5] at hr
     by_cases c7:(atT ts i).k=7/\zBG ts i=0/\decide (i+1=ts.length)=true
     ·exact Or.inr c7.1
     ·rw [if_neg c7] at hr; omega
   have hno:¬ opT ns (atT ts i).t:=by
    rcases ht with ⟨a,b,c'⟩ | ⟨a,b,c'⟩ | ⟨a,b,c'⟩ | ⟨a,b,c'⟩ | a | ⟨a,b,c'⟩
    ·exact b
    ·omega
    ·exact c'
    ·exact c'
    ·omega
    ·exact c'
   refine Or.inr (Or.inr ⟨hno,?_⟩)
   rw [if_neg (by omega),if_neg (by omega)]
   by_cases k5:(atT ts i).k=5
   ·rw [if_pos k5]; exact ⟨by decide,by decide⟩
   ·rw [if_neg k5,if_pos (by omega)]; exact ⟨by decide,by decide⟩
end Go.Proofs.YtfboipappaonhaaGreat
namespace Go.Proofs.YtfboipappaonhaaGreat
set_option linter.unusedSimpArgs false
set_option linter.unusedVariables false
set_option maxHeartbeats 16000000
set_option maxRecDepth 100000
open Go.RowKit
theorem zG9 {w:World} {B b o:Nat} {v0 v1 v2 v3 u:Value} (hne:B≠b) (h:w.cell? ⟨b,o,none⟩=some u):((((w.setCell ⟨B,0,none⟩ v0).setCell ⟨B,1,none⟩ v1).setCell ⟨B,2,none⟩ v2).setCell ⟨B,3,none⟩ v3).cell? ⟨b,o,none⟩=some u:=by
 rw [World.cell?_setCell_far _ _ _ _ hne,World.cell?_setCell_far _ _ _ _ hne,World.cell?_setCell_far _ _ _ _ hne,World.cell?_setCell_far _ _ _ _ hne]
 exact h
def fI:Option Nat->Int
 | some j=>(j:Int)
 | none=>-1
theorem zEI (b off cap:Nat) (xs:List OpR) (t:ByteArray) (kd:Int) (w:World) (hm:xs.length<=1048576) (hw:Ops w b off xs) (hB:b<w.heap.size) :
  Calls Tryz.prog 97 #[.agg #[.slice (some ⟨b,off,none⟩) xs.length cap],.string t,.int .i64 kd] w fun e w'=>e = .returned (.int .i64 (fI (fnd xs t kd)))/\Below w.heap.size w w':=by
 go_enter Tryz.func97,Tryz.ntmps97
 go_wp2
 have hops:Ops (w.alloc (.cells #[.slice (some ⟨b,off,none⟩) xs.length cap] 25)) b off xs:=hw.below (zC _ _) hB
 have HO:=zB hops
 clear hops hw
 go_loop [7] (fun i=>∃ k:Nat,k<=xs.length/\i = .int .i64 k/\Hid (∀ j,j<k->¬ ((atO xs j).s=t/\(atO xs j).k=kd))) (fun i=>xs.length-(intOf i).toNat)
 case atStart=>exact ⟨0,Nat.zero_le _,rfl,zB (fun j h=>by omega)⟩
 case round=>
  obtain ⟨k,hk,rfl,hn⟩:=hrel
  by_cases hlt:k<xs.length
  ·obtain ⟨a0,a1,a2,a3⟩:=(zA HO) k hlt
   have hnx:=zB (show ∀ (_:¬ ((atO xs k).s=t/\(atO xs k).k=kd)),∀ j,j<k+1->¬ ((atO xs j).s=t/\(atO xs j).k=kd) from fun hne j hj=>by
    by_cases e:j=k
    ·subst e; exact hne
    ·exact (zA hn) j (by omega))
   go_wp2
   ·rename_i hs1 hk1 _
    go_ret
    refine ⟨zF ?_,zC _ _⟩
    rw [zMO hlt (zA hn) ⟨zEC hs1,by simpa using hk1⟩]
    rfl
   ·refine ⟨⟨k+1,by omega,by go_num,zB ((zA hnx) ?_)⟩,by simp [intOf]; omega⟩
    rintro ⟨_,h⟩
    simp_all
   ·refine ⟨⟨k+1,by omega,by go_num,zB ((zA hnx) ?_)⟩,by simp [intOf]; omega⟩
    rintro ⟨h,_⟩
    simp_all
  ·go_wp2
   go_ret
   refine ⟨zF ?_,zC _ _⟩
   rw [zLm (fun j hj=>(zA hn) j (by omega))]
   rfl
theorem zAP (o:zD) (w:World) (v:Bool) (hv:v=decide (3<=o.k/\o.k<=5)) :
  Calls Tryz.prog 65 #[.agg #[.int .i64 o.k,.string o.t,.int .i64 o.a,.int .i64 o.b]] w fun e w'=>e = .returned (.bool v)/\Below w.heap.size w w':=by
 by_cases h3:3<=o.k
 ·by_cases h5:o.k<=5
  ·have HV:=zB (show v=true by rw [hv]; simp [h3,h5])
   clear hv
   go_enter Tryz.func65,Tryz.ntmps65
   go_wp2
   go_ret
   exact ⟨zj (zA HV).symm,zC _ _⟩
  ·have HV:=zB (show v=false by rw [hv]; simp [h5])
   clear hv
   go_enter Tryz.func65,Tryz.ntmps65
   go_wp2
   go_ret
   exact ⟨zj (zA HV).symm,zC _ _⟩
 ·have HV:=zB (show v=false by rw [hv]; simp [h3])
  clear hv
  go_enter Tryz.func65,Tryz.ntmps65
  go_wp2
  go_ret
  exact ⟨zj (zA HV).symm,zC _ _⟩
theorem zDY (b off cap:Nat) (xs:List OpR) (o:zD) (j:Nat) (w:World) (hm:xs.length<=1048576) (hw:Ops w b off xs) (hB:b<w.heap.size) (h3:3<=o.k) (h5:o.k<=5) (hf:fnd xs o.t (o.k-2)=some j) :
  Calls Tryz.prog 98 #[.agg #[.slice (some ⟨b,off,none⟩) xs.length cap],.agg #[.int .i64 o.k,.string o.t,.int .i64 o.a,.int .i64 o.b]] w fun e w'=>e = .returned (.agg #[.string (atO xs j).s,.int .i64 (atO xs j).k,.int .i64 (atO xs j).l,.int .i64 (atO xs j).sd])/\Below w.heap.size w w':=by
 have hj:=(Z2 hf).1
 have hjI:(j:Int)<(xs.length:Int):=by omega
 have HFI:=zB (show fI (fnd xs o.t (o.k-2))=(j:Int) by rw [hf]; rfl)
 have HW:=zB hw
 clear hw hf
 have HW3:=zB (show ∀ o1 o2 o3:Obj,zAw (((w.alloc o1).alloc o2).alloc o3).drew b off xs j from fun o1 o2 o3=>((zA HW) j hj).below ((((zC w o1).alloc (by simp) o2).alloc (by simp; omega) o3).drew) hB)
 go_enter Tryz.func98,Tryz.ntmps98
 go_wp2_with fail
 obtain ⟨r0,r1,r2,r3⟩:=(zA HW3) (.cells #[.slice (some ⟨b,off,none⟩) xs.length cap] 25) (.cells #[.int .i64 o.k,.string o.t,.int .i64 o.a,.int .i64 o.b] 81) (.cells #[.string ⟨#[]⟩,.int .i64 0,.int .i64 0,.int .i64 0] 123)
 have HB3:=zB (show ∀ o1 o2 o3:Obj,Below w.heap.size w (((w.alloc o1).alloc o2).alloc o3).drew from fun o1 o2 o3=>(((zC w o1).alloc (by simp) o2).alloc (by simp; omega) o3).drew)
 have hbn1:b≠w.heap.size+1+1:=by omega
 have hbn2:w.heap.size+1+1≠b:=by omega
 have HWR:=zB (show IntKind.i64.wrap (o.k-2)=o.k-2 by rw [IntKind.wrap_i64]; omega)
 have HSZ:=zB (show ((((w.alloc (.cells #[.slice (some ⟨b,off,none⟩) xs.length cap] 25)).alloc (.cells #[.int .i64 o.k,.string o.t,.int .i64 o.a,.int .i64 o.b] 81)).alloc (.cells #[.string ⟨#[]⟩,.int .i64 0,.int .i64 0,.int .i64 0] 123)).drew).heap.size=w.heap.size+3 from (show (((w.alloc (.cells #[.slice (some ⟨b,off,none⟩) xs.length cap] 25)).alloc (.cells #[.int .i64 o.k,.string o.t,.int .i64 o.a,.int .i64 o.b] 81)).alloc (.cells #[.string ⟨#[]⟩,.int .i64 0,.int .i64 0,.int .i64 0] 123)).heap.size=w.heap.size+3 by simp))
 have HLT:=zB (show b<((((w.alloc (.cells #[.slice (some ⟨b,off,none⟩) xs.length cap] 25)).alloc (.cells #[.int .i64 o.k,.string o.t,.int .i64 o.a,.int .i64 o.b] 81)).alloc (.cells #[.string ⟨#[]⟩,.int .i64 0,.int .i64 0,.int .i64 0] 123)).drew).heap.size by rw [zA HSZ]; omega)
 have HL0:=zB (show w.heap.size<((((w.alloc (.cells #[.slice (some ⟨b,off,none⟩) xs.length cap] 25)).alloc (.cells #[.int .i64 o.k,.string o.t,.int .i64 o.a,.int .i64 o.b] 81)).alloc (.cells #[.string ⟨#[]⟩,.int .i64 0,.int .i64 0,.int .i64 0] 123)).drew).heap.size by rw [zA HSZ]; omega)
 have HL1:=zB (show w.heap.size+1<((((w.alloc (.cells #[.slice (some ⟨b,off,none⟩) xs.length cap] 25)).alloc (.cells #[.int .i64 o.k,.string o.t,.int .i64 o.a,.int .i64 o.b] 81)).alloc (.cells #[.string ⟨#[]⟩,.int .i64 0,.int .i64 0,.int .i64 0] 123)).drew).heap.size by rw [zA HSZ]; omega)
 have HL2:=zB (show w.heap.size+1+1<((((w.alloc (.cells #[.slice (some ⟨b,off,none⟩) xs.length cap] 25)).alloc (.cells #[.int .i64 o.k,.string o.t,.int .i64 o.a,.int .i64 o.b] 81)).alloc (.cells #[.string ⟨#[]⟩,.int .i64 0,.int .i64 0,.int .i64 0] 123)).drew).heap.size by rw [zA HSZ]; omega)
 have HLW:=zB (show w.heap.size<=((((w.alloc (.cells #[.slice (some ⟨b,off,none⟩) xs.length cap] 25)).alloc (.cells #[.int .i64 o.k,.string o.t,.int .i64 o.a,.int .i64 o.b] 81)).alloc (.cells #[.string ⟨#[]⟩,.int .i64 0,.int .i64 0,.int .i64 0] 123)).drew).heap.size by rw [zA HSZ]; omega)
 have HC0:=zB (show ((((w.alloc (.cells #[.slice (some ⟨b,off,none⟩) xs.length cap] 25)).alloc (.cells #[.int .i64 o.k,.string o.t,.int .i64 o.a,.int .i64 o.b] 81)).alloc (.cells #[.string ⟨#[]⟩,.int .i64 0,.int .i64 0,.int .i64 0] 123)).drew).cell? ⟨w.heap.size,0,none⟩=some (.slice (some ⟨b,off,none⟩) xs.length cap)/\((((w.alloc (.cells #[.slice (some ⟨b,off,none⟩) xs.length cap] 25)).alloc (.cells #[.int .i64 o.k,.string o.t,.int .i64 o.a,.int .i64 o.b] 81)).alloc (.cells #[.string ⟨#[]⟩,.int .i64 0,.int .i64 0,.int .i64 0] 123)).drew).cell? ⟨w.heap.size+1,0,none⟩=some (.int .i64 o.k)/\((((w.alloc (.cells #[.slice (some ⟨b,off,none⟩) xs.length cap] 25)).alloc (.cells #[.int .i64 o.k,.string o.t,.int .i64 o.a,.int .i64 o.b] 81)).alloc (.cells #[.string ⟨#[]⟩,.int .i64 0,.int .i64 0,.int .i64 0] 123)).drew).cell? ⟨w.heap.size+1,1,none⟩=some (.string o.t) from
  (show (((w.alloc (.cells #[.slice (some ⟨b,off,none⟩) xs.length cap] 25)).alloc (.cells #[.int .i64 o.k,.string o.t,.int .i64 o.a,.int .i64 o.b] 81)).alloc (.cells #[.string ⟨#[]⟩,.int .i64 0,.int .i64 0,.int .i64 0] 123)).cell? ⟨w.heap.size,0,none⟩=some (.slice (some ⟨b,off,none⟩) xs.length cap)/\(((w.alloc (.cells #[.slice (some ⟨b,off,none⟩) xs.length cap] 25)).alloc (.cells #[.int .i64 o.k,.string o.t,.int .i64 o.a,.int .i64 o.b] 81)).alloc (.cells #[.string ⟨#[]⟩,.int .i64 0,.int .i64 0,.int .i64 0] 123)).cell? ⟨w.heap.size+1,0,none⟩=some (.int .i64 o.k)/\(((w.alloc (.cells #[.slice (some ⟨b,off,none⟩) xs.length cap] 25)).alloc (.cells #[.int .i64 o.k,.string o.t,.int .i64 o.a,.int .i64 o.b] 81)).alloc (.cells #[.string ⟨#[]⟩,.int .i64 0,.int .i64 0,.int .i64 0] 123)).cell? ⟨w.heap.size+1,1,none⟩=some (.string o.t) from ⟨by simp [go_sem],by simp [go_sem],by simp [go_sem]⟩))
 have HC2:=zB (show (((((w.alloc (.cells #[.slice (some ⟨b,off,none⟩) xs.length cap] 25)).alloc (.cells #[.int .i64 o.k,.string o.t,.int .i64 o.a,.int .i64 o.b] 81)).alloc (.cells #[.string ⟨#[]⟩,.int .i64 0,.int .i64 0,.int .i64 0] 123)).drew).cell? ⟨w.heap.size+1+1,0,none⟩=some (.string ⟨#[]⟩)/\((((w.alloc (.cells #[.slice (some ⟨b,off,none⟩) xs.length cap] 25)).alloc (.cells #[.int .i64 o.k,.string o.t,.int .i64 o.a,.int .i64 o.b] 81)).alloc (.cells #[.string ⟨#[]⟩,.int .i64 0,.int .i64 0,.int .i64 0] 123)).drew).cell? ⟨w.heap.size+1+1,1,none⟩=some (.int .i64 0)/\((((w.alloc (.cells #[.slice (some ⟨b,off,none⟩) xs.length cap] 25)).alloc (.cells #[.int .i64 o.k,.string o.t,.int .i64 o.a,.int .i64 o.b] 81)).alloc (.cells #[.string ⟨#[]⟩,.int .i64 0,.int .i64 0,.int .i64 0] 123)).drew).cell? ⟨w.heap.size+1+1,2,none⟩=some (.int .i64 0)/\((((w.alloc (.cells #[.slice (some ⟨b,off,none⟩) xs.length cap] 25)).alloc (.cells #[.int .i64 o.k,.string o.t,.int .i64 o.a,.int .i64 o.b] 81)).alloc (.cells #[.string ⟨#[]⟩,.int .i64 0,.int .i64 0,.int .i64 0] 123)).drew).cell? ⟨w.heap.size+1+1,3,none⟩=some (.int .i64 0))/\∀ q,((((w.alloc (.cells #[.slice (some ⟨b,off,none⟩) xs.length cap] 25)).alloc (.cells #[.int .i64 o.k,.string o.t,.int .i64 o.a,.int .i64 o.b] 81)).alloc (.cells #[.string ⟨#[]⟩,.int .i64 0,.int .i64 0,.int .i64 0] 123)).drew).frozen? ⟨w.heap.size+1+1,q,none⟩=false from
  (show ((((w.alloc (.cells #[.slice (some ⟨b,off,none⟩) xs.length cap] 25)).alloc (.cells #[.int .i64 o.k,.string o.t,.int .i64 o.a,.int .i64 o.b] 81)).alloc (.cells #[.string ⟨#[]⟩,.int .i64 0,.int .i64 0,.int .i64 0] 123)).cell? ⟨w.heap.size+1+1,0,none⟩=some (.string ⟨#[]⟩)/\(((w.alloc (.cells #[.slice (some ⟨b,off,none⟩) xs.length cap] 25)).alloc (.cells #[.int .i64 o.k,.string o.t,.int .i64 o.a,.int .i64 o.b] 81)).alloc (.cells #[.string ⟨#[]⟩,.int .i64 0,.int .i64 0,.int .i64 0] 123)).cell? ⟨w.heap.size+1+1,1,none⟩=some (.int .i64 0)/\(((w.alloc (.cells #[.slice (some ⟨b,off,none⟩) xs.length cap] 25)).alloc (.cells #[.int .i64 o.k,.string o.t,.int .i64 o.a,.int .i64 o.b] 81)).alloc (.cells #[.string ⟨#[]⟩,.int .i64 0,.int .i64 0,.int .i64 0] 123)).cell? ⟨w.heap.size+1+1,2,none⟩=some (.int .i64 0)/\(((w.alloc (.cells #[.slice (some ⟨b,off,none⟩) xs.length cap] 25)).alloc (.cells #[.int .i64 o.k,.string o.t,.int .i64 o.a,.int .i64 o.b] 81)).alloc (.cells #[.string ⟨#[]⟩,.int .i64 0,.int .i64 0,.int .i64 0] 123)).cell? ⟨w.heap.size+1+1,3,none⟩=some (.int .i64 0))/\∀ q,(((w.alloc (.cells #[.slice (some ⟨b,off,none⟩) xs.length cap] 25)).alloc (.cells #[.int .i64 o.k,.string o.t,.int .i64 o.a,.int .i64 o.b] 81)).alloc (.cells #[.string ⟨#[]⟩,.int .i64 0,.int .i64 0,.int .i64 0] 123)).frozen? ⟨w.heap.size+1+1,q,none⟩=false from ⟨⟨by simp [go_sem],by simp [go_sem],by simp [go_sem],by simp [go_sem]⟩,fun q=>by simp [go_sem]⟩))
 go_region_held (fun w'=>w'.cell? ⟨w.heap.size,0,none⟩=some (.slice (some ⟨b,off,none⟩) xs.length cap)/\w'.cell? ⟨w.heap.size+1,0,none⟩=some (.int .i64 o.k)/\w'.cell? ⟨w.heap.size+1,1,none⟩=some (.string o.t)/\w'.cell? ⟨b,off+j*4,none⟩=some (.string (atO xs j).s)/\w'.cell? ⟨b,off+j*4+1,none⟩=some (.int .i64 (atO xs j).k)/\w'.cell? ⟨b,off+j*4+2,none⟩=some (.int .i64 (atO xs j).l)/\w'.cell? ⟨b,off+j*4+3,none⟩=some (.int .i64 (atO xs j).sd)) (first | (go_keep; done) | (refine ⟨zG9 (by omega) ?_,zG9 (by omega) ?_,zG9 (by omega) ?_,zG9 (by omega) ?_,zG9 (by omega) ?_,zG9 (by omega) ?_,zG9 (by omega) ?_⟩ <;> simp [*]))
  (first | (go_at_call 97; have HX:=zEI b off cap xs o.t (o.k-2) (((w.alloc (.cells #[.slice (some ⟨b,off,none⟩) xs.length cap] 25)).alloc (.cells #[.int .i64 o.k,.string o.t,.int .i64 o.a,.int .i64 o.b] 81)).alloc (.cells #[.string ⟨#[]⟩,.int .i64 0,.int .i64 0,.int .i64 0] 123)).drew hm ((zA HW).below ((zA HB3) _ _ _) hB) (zA HLT); rw [zA HFI] at HX; rw [zA HWR]; refine HX.mono ?_; clear HX; rintro e w2 ⟨rfl,hb2⟩; have q0:=(hb2.cell (p:=⟨w.heap.size,0,none⟩) (zA HL0)).trans (zA HC0).1; have q1:=(hb2.cell (p:=⟨w.heap.size+1,0,none⟩) (zA HL1)).trans (zA HC0).2.1; have q2:=(hb2.cell (p:=⟨w.heap.size+1,1,none⟩) (zA HL1)).trans (zA HC0).2.2; have s0:=(hb2.cell (p:=⟨b,off+j*4,none⟩) (zA HLT)).trans r0; have s1:=(hb2.cell (p:=⟨b,off+j*4+1,none⟩) (zA HLT)).trans r1; have s2:=(hb2.cell (p:=⟨b,off+j*4+2,none⟩) (zA HLT)).trans r2; have s3:=(hb2.cell (p:=⟨b,off+j*4+3,none⟩) (zA HLT)).trans r3; have t0:=(hb2.cell (p:=⟨w.heap.size+1+1,0,none⟩) (zA HL2)).trans (zA HC2).1.1; have t1:=(hb2.cell (p:=⟨w.heap.size+1+1,1,none⟩) (zA HL2)).trans (zA HC2).1.2.1; have t2:=(hb2.cell (p:=⟨w.heap.size+1+1,2,none⟩) (zA HL2)).trans (zA HC2).1.2.2.1; have t3:=(hb2.cell (p:=⟨w.heap.size+1+1,3,none⟩) (zA HL2)).trans (zA HC2).1.2.2.2; have u0:=(hb2.frozen (p:=⟨w.heap.size+1+1,0,none⟩) (zA HL2)).trans ((zA HC2).2 0); have u1:=(hb2.frozen (p:=⟨w.heap.size+1+1,1,none⟩) (zA HL2)).trans ((zA HC2).2 1); have u2:=(hb2.frozen (p:=⟨w.heap.size+1+1,2,none⟩) (zA HL2)).trans ((zA HC2).2 2); have u3:=(hb2.frozen (p:=⟨w.heap.size+1+1,3,none⟩) (zA HL2)).trans ((zA HC2).2 3); have B2:=zB (((zA HB3) _ _ _).trans (hb2.mono (zA HLW))); clear hb2))
 go_wp2
 refine bodyPost_ret (v:=.agg #[.string (atO xs j).s,.int .i64 (atO xs j).k,.int .i64 (atO xs j).l,.int .i64 (atO xs j).sd]) ?res rfl ⟨rfl,?_⟩
 case res=>simp [results,Tryz.results98,go_sem,t0,t1,t2,t3]
 exact zAc (show w.heap.size<=w.heap.size+1+1 by omega) [.string (atO xs j).s,.int .i64 (atO xs j).k,.int .i64 (atO xs j).l,.int .i64 (atO xs j).sd] 0 w2 (zA B2)
theorem zHA (W:World) (s:ByteArray) (k l sd:Int):(Instr.field 123 (.agg #[.string s,.int .i64 k,.int .i64 l,.int .i64 sd]) 2).run Tryz.prog W = .ok (.int .i64 l) W:=by kernel_rfl
theorem zLv {xs:List OpR} {o:zD} {j:Nat} (h3:3<=o.k) (h5:o.k<=5) (hf:fnd xs o.t (o.k-2)=some j):Zd xs o=(atO xs j).l:=by
 unfold Zd
 rw [if_pos ⟨h3,h5⟩,hf]
theorem zHB {xs:List OpR} {o:zD} (h:¬ (3<=o.k/\o.k<=5)):Zd xs o=1001:=by
 unfold Zd
 rw [if_neg h]
theorem zBC (b off cap:Nat) (xs:List OpR) (o:zD) (w:World) (hm:xs.length<=1048576) (hw:Ops w b off xs) (hB:b<w.heap.size) (hkn:3<=o.k->o.k<=5->fnd xs o.t (o.k-2)≠none) :
  Calls Tryz.prog 100 #[.agg #[.slice (some ⟨b,off,none⟩) xs.length cap],.agg #[.int .i64 o.k,.string o.t,.int .i64 o.a,.int .i64 o.b]] w fun e w'=>e = .returned (.int .i64 (Zd xs o))/\Below w.heap.size w w':=by
 by_cases hop:3<=o.k/\o.k<=5
 ·obtain ⟨h3,h5⟩:=hop
  cases hf:fnd xs o.t (o.k-2) with
  | none=>exact absurd hf (hkn h3 h5)
  | some j=>
   have HL:=zB (zLv h3 h5 hf)
   have HW:=zB hw
   have HF:=zB hf
   have HD:=zB (show true=decide (3<=o.k/\o.k<=5) by simp [h3,h5])
   clear hw hf hkn
   go_enter Tryz.func100,Tryz.ntmps100
   go_wp2_with fail
   refine (zAP o _ true (zA HD)).mono ?_
   rintro e w1 ⟨rfl,hb1⟩
   have bel1:Below w.heap.size w w1:=((zC _ _).alloc (by simp) _).trans (hb1.mono (by simp; omega))
   have c0:w1.cell? ⟨w.heap.size,0,none⟩=some (.slice (some ⟨b,off,none⟩) xs.length cap):=(hb1.cell (p:=⟨w.heap.size,0,none⟩) (by simp; omega)).trans (by simp [go_sem])
   have d0:w1.cell? ⟨w.heap.size+1,0,none⟩=some (.int .i64 o.k):=(hb1.cell (p:=⟨w.heap.size+1,0,none⟩) (by simp)).trans (by simp [go_sem])
   have d1:w1.cell? ⟨w.heap.size+1,1,none⟩=some (.string o.t):=(hb1.cell (p:=⟨w.heap.size+1,1,none⟩) (by simp)).trans (by simp [go_sem])
   have d2:w1.cell? ⟨w.heap.size+1,2,none⟩=some (.int .i64 o.a):=(hb1.cell (p:=⟨w.heap.size+1,2,none⟩) (by simp)).trans (by simp [go_sem])
   have d3:w1.cell? ⟨w.heap.size+1,3,none⟩=some (.int .i64 o.b):=(hb1.cell (p:=⟨w.heap.size+1,3,none⟩) (by simp)).trans (by simp [go_sem])
   have hB1:b<w1.heap.size:=Nat.lt_of_lt_of_le hB bel1.size
   clear hb1
   go_wp2_with fail
   refine (zDY b off cap xs o j _ hm ((zA HW).below bel1 hB) hB1 h3 h5 (zA HF)).mono ?_
   rintro e w2 ⟨rfl,hb2⟩
   have hfld:=zHA
   go_wp2
   go_ret
   exact ⟨zF (zA HL).symm,bel1.trans (hb2.mono bel1.size)⟩
 ·have HL:=zB (zHB (xs:=xs) hop)
  have HD:=zB (show false=decide (3<=o.k/\o.k<=5) by simp [hop])
  clear hw hop hkn
  go_enter Tryz.func100,Tryz.ntmps100
  go_wp2_with fail
  refine (zAP o _ false (zA HD)).mono ?_
  rintro e w1 ⟨rfl,hb1⟩
  go_wp2_with fail
  go_ret
  exact ⟨zF (zA HL).symm,((zC _ _).alloc (by simp) _).trans (hb1.mono (by simp; omega))⟩
end Go.Proofs.YtfboipappaonhaaGreat
namespace Go.Proofs.YtfboipappaonhaaGreat
set_option linter.unusedSimpArgs false
set_option linter.unusedVariables false
set_option maxHeartbeats 16000000
set_option maxRecDepth 100000
open Go.RowKit
def Cs (cs:List (Nat×Nat×Value)) (w:World):Prop:=∀ p∈cs,w.cell? ⟨p.1,p.2.1,none⟩=some p.2.2
theorem Cs.below {cs:List (Nat×Nat×Value)} {w w':World} (h:Cs cs w) (hb:Below w.heap.size w w'):Cs cs w':=
 fun p hp=>(hb.cell (p:=⟨p.1,p.2.1,none⟩) (block_lt_of_cell (h p hp))).trans (h p hp)
theorem zDZ {B:Nat} {a w w':World} (h:Below B a w) (h1:w'.os=w.os) (h2:w'.tape=w.tape) (h3:w'.output=w.output) (h4:w'.heap=w.heap):Below B a w':=
 ⟨h1.trans h.os,h2.trans h.tape,h3.trans h.output,by rw [h4]; exact h.size,fun i hi=>by rw [h4]; exact h.block i hi⟩
theorem zHC {xs:List OpR} {ns:List zD} {i j:Nat} (ho:ZF (atN ns i)) (hf:fnd xs (atN ns i).t ((atN ns i).k-2)=some j) :
  zCz xs ns i↔zCy xs j false<=Zd xs (atN ns (atN ns i).a.toNat)/\(zU (atN ns i).k=1\/zCy xs j true<=Zd xs (atN ns (atN ns i).b.toNat)):=by
 constructor
 ·intro h; exact h j ho hf
 ·intro h j' _ hf'
  rw [hf] at hf'
  injection hf' with hf'
  subst hf'
  exact h
end Go.Proofs.YtfboipappaonhaaGreat
