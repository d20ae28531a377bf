import Derived.Test.YtfboipappaonhaaGreatF01
import Derived.Test.YtfboipappaonhaaGreatF12
import Derived.Test.YtfboipappaonhaaGreatF16
import Derived.Test.YtfboipappaonhaaGreatF27
namespace Go.Proofs.YtfboipappaonhaaGreat
set_option linter.unusedSimpArgs false
set_option linter.unusedVariables false
set_option maxHeartbeats 16000000
set_option maxRecDepth 100000
open Go.RowKit
open Go.Deep (BT)
def zLM (s:SyR):Bool:=decide (s.1=1\/s.1=2)
def ApO:List SyR->Prop
 | []=>True
 | [_]=>True
 | x::y::r=>¬ (zLM x=true/\zLM y=true)/\ApO (y::r)
theorem zJS {ns:List OpR}:∀ (ss:List SyR) (st st':Bool×Nat),Zp ns st ss=some st'->ApO ss
 | [],_,_,_=>trivial
 | [_],_,_,_=>trivial
 | x::y::r,st,st',h=>by
  simp only [Zp] at h
  cases e:auS ns st x with
  | none=>rw [e] at h; cases h
  | some s1=>
   rw [e] at h
   refine ⟨fun ⟨hx,hy⟩=>?_,zJS (y::r) s1 st' (by simpa only [Zp] using h)⟩
   have hx':x.1=1\/x.1=2:=by simpa [zLM] using hx
   have hy':y.1=1\/y.1=2:=by simpa [zLM] using hy
   have h1:s1.1=true:=by
    unfold auS at e
    by_cases hs:st.1=false
    ·rw [if_pos hs,if_pos hx'] at e
     injection e with e; rw [<- e]
    ·rw [if_neg hs,if_neg (fun x=>by omega),if_neg (fun x=>by omega)] at e
     split at e
     ·injection e with e; rw [<- e]
     ·cases e
   have h2:auS ns s1 y=none:=by
    unfold auS
    rw [if_neg (by rw [h1]; decide),if_neg (fun x=>by omega),if_neg (fun x=>by omega)]
    rw [if_neg]
    rintro ⟨hc,_⟩
    have:y.1=7:=by simp [zNe] at hc; exact hc.1
    omega
   simp only at h
   rw [h2] at h
   cases h
def zEk (x y:SyR):ByteArray:=if zEO (wS x) (wS y)=true then one 32 else ByteArray.empty
def gwP (g:ByteArray):List SyR->List GwR
 | []=>[]
 | x::r=>⟨g,x.2,tkK x.1⟩::(match r with
  | []=>[]
  | y::r'=>gwP (zEk x y) (y::r'))
theorem zDA (g:ByteArray) (x y:SyR) (r:List SyR):gwP g (x::y::r)=⟨g,x.2,tkK x.1⟩::gwP (zEk x y) (y::r):=by
 rw [gwP]
theorem zQJ (x y:SyR):Bl (zEk x y):=by
 unfold zEk
 split
 ·exact zQI
 ·exact fun i hi=>by simp at hi
theorem zLy:∀ (ss:List SyR) (g:ByteArray),(gwP g ss).length=ss.length
 | [],_=>by simp [gwP]
 | [x],g=>by simp [gwP]
 | x::y::r,g=>by rw [zDA,List.length_cons,zLy (y::r)]; rfl
theorem zOD:∀ (ss:List SyR) (g:ByteArray) (i:Nat) (h:i<ss.length),∃ g',(gwP g ss)[i]?=some ⟨g',ss[i].2,tkK ss[i].1⟩
 | [],_,i,h=>by simp at h
 | [x],g,i,h=>by
  have:i=0:=by simp at h; exact h
  subst this
  exact ⟨g,by simp [gwP]⟩
 | x::y::r,g,0,h=>⟨g,by rw [zDA]; rfl⟩
 | x::y::r,g,i+1,h=>by
  obtain ⟨g',e⟩:=zOD (y::r) (zEk x y) i (by simpa using h)
  exact ⟨g',by rw [zDA]; simpa using e⟩
theorem zKS (ss:List SyR) (g e:ByteArray):zJL ss ((gwP g ss).map zNW++[⟨7,e,⟨#[]⟩⟩]):=by
 have hl:((gwP g ss).map zNW).length=ss.length:=by rw [List.length_map,zLy]
 refine ⟨by rw [List.length_append,hl]; rfl,?_,fun i h=>?_⟩
 ·unfold atT
  rw [List.getD_eq_getElem?_getD,List.getElem?_append_right (by omega),hl,Nat.sub_self]
  rfl
 ·obtain ⟨g',e'⟩:=zOD ss g i h
  have:atT ((gwP g ss).map zNW++[⟨7,e,⟨#[]⟩⟩]) i=⟨(tkK ss[i].1:Int),g',ss[i].2⟩:=by
   unfold atT
   rw [List.getD_eq_getElem?_getD,List.getElem?_append_left (by omega),List.getElem?_map,e']
   rfl
  rw [this]
  exact ⟨rfl,rfl⟩
theorem zPJ {ns:List OpR} (hv:ZA ns) {t:ByteArray} {k:Nat} (h:WdK ns t k):(k=1/\cls (bt t 0)=2)\/(k=2/\cls (bt t 0)=3)\/(k=3/\cls (bt t 0)=6)\/(k=4/\cls (bt t 0)=4)\/(k=5/\cls (bt t 0)=5):=by
 rcases h with ⟨e,h⟩ | ⟨e,h⟩ | ⟨e,h⟩ | ⟨e,rfl⟩ | ⟨e,rfl⟩
 ·exact Or.inl ⟨e,h.2 0 h.1⟩
 ·rcases h.2 0 h.1 with e' | ⟨e',_⟩
  ·exact Or.inr (Or.inl ⟨e,e'⟩)
  ·exact absurd rfl e'
 ·exact Or.inr (Or.inr (Or.inl ⟨e,(zEf hv h).2 0 (zEf hv h).1⟩))
 ·exact Or.inr (Or.inr (Or.inr (Or.inl ⟨e,by decide⟩)))
 ·exact Or.inr (Or.inr (Or.inr (Or.inr ⟨e,by decide⟩)))
theorem zJT {s:SyR} (h:tkK s.1=1\/tkK s.1=2):zLM s=true:=by
 unfold tkK at h
 simp only [zLM,decide_eq_true_eq]
 split at h
 ·omega
 ·split at h
  ·omega
  ·split at h
   ·omega
   ·split at h <;> omega
theorem zOE {s:SyR} (h:tkK s.1=3) (hk:1<=s.1/\s.1<=7):(wS s).o=true:=by
 unfold tkK at h
 simp only [wS,decide_eq_true_eq]
 split at h
 ·omega
 ·split at h
  ·omega
  ·split at h
   ·omega
   ·split at h <;> omega
theorem zEl {ns:List OpR} (hv:ZA ns):∀ (ss:List SyR) (g:ByteArray),Bl g->ApO ss->(∀ q∈ss,1<=q.1/\q.1<=7)->(∀ q∈ss,WdK ns q.2 (tkK q.1))->zI0 ns (gwP g ss) ByteArray.empty
 | [],g,_,_,_,_=>by simp only [gwP]; exact fun i hi=>by simp at hi
 | [x],g,hg,_,_,h=>by
  simp only [gwP]
  exact ⟨hg,h x (by simp),fun hz=>by simp [spr] at hz,fun i hi=>by simp at hi⟩
 | x::y::r,g,hg,ha,hn,h=>by
  rw [zDA]
  refine ⟨hg,h x (by simp),?_,zEl hv (y::r) _ (zQJ x y) ha.2 (fun q hq=>hn q (by simp [List.mem_cons.1 hq])) (fun q hq=>h q (by simp [List.mem_cons.1 hq]))⟩
  intro _
  have hy:=h y (by simp)
  have hfirst:∃ R,spr (gwP (zEk x y) (y::r)) ByteArray.empty=zEk x y++(y.2++R):=by
   cases r with
   | nil=>exact ⟨ByteArray.empty,by simp [gwP,spr]⟩
   | cons z r'=>exact ⟨_,by rw [zDA]; rfl⟩
  obtain ⟨R,hR⟩:=hfirst
  rw [hR]
  by_cases hgp:zEO (wS x) (wS y)=true
  ·have e:zEk x y=one 32:=by unfold zEk; rw [if_pos hgp]
   have:bt (zEk x y++(y.2++R)) 0=32:=by rw [e,zDu (by rw [zNV]; omega),zP5]
   rw [this]
   exact ⟨fun _=>by decide,fun _=>by decide⟩
  ·have e:zEk x y=ByteArray.empty:=by unfold zEk; rw [if_neg hgp]
   have hb:bt (zEk x y++(y.2++R)) 0=bt y.2 0:=by
    rw [e]
    have e1:ByteArray.empty++(y.2++R)=y.2++R:=by apply ByteArray.ext; simp [ByteArray.data_append]
    rw [e1]
    exact zDu (zGY hv hy)
   rw [hb]
   have hc:=zPJ hv hy
   refine ⟨fun hk=>?_,fun hk=>?_⟩
   ·have hx:=zJT hk
    have hny:¬ zLM y=true:=fun e=>ha.1 ⟨hx,e⟩
    have h1:tkK y.1≠1:=fun e=>hny (zJT (Or.inl e))
    have h2:tkK y.1≠2:=fun e=>hny (zJT (Or.inr e))
    rcases hc with ⟨a,_⟩ | ⟨a,_⟩ | ⟨_,b⟩ | ⟨_,b⟩ | ⟨_,b⟩
    ·exact absurd a h1
    ·exact absurd a h2
    ·rw [b]; decide
    ·rw [b]; decide
    ·rw [b]; decide
   ·have hx:=zOE hk (hn x (by simp))
    rcases hc with ⟨_,b⟩ | ⟨_,b⟩ | ⟨a,_⟩ | ⟨_,b⟩ | ⟨_,b⟩
    ·rw [b]; decide
    ·rw [b]; decide
    ·have hy':=zOE a (hn y (by simp))
     exact absurd (by unfold zEO; rw [hx,hy']; simp) hgp
    ·rw [b]; decide
    ·rw [b]; decide
def flP:SyR->List SyR->List UInt8
 | _,[]=>[]
 | x,y::r=>(if zEO (wS x) (wS y)=true then [32] else [])++(y.2.data.toList++flP y r)
theorem zQK:(one 32).data.toList=[32]:=rfl
theorem zJU:∀ (ss:List SyR) (x:SyR) (g:ByteArray),(spr (gwP g (x::ss)) ByteArray.empty).data.toList=g.data.toList++(x.2.data.toList++flP x ss)
 | [],x,g=>by simp [gwP,spr,flP,zFg]
 | y::r,x,g=>by
  rw [zDA]
  show (g++(x.2++spr (gwP (zEk x y) (y::r)) ByteArray.empty)).data.toList=_
  rw [zFg,zFg,zJU r y]
  simp only [flP]
  congr 3
  unfold zEk
  split
  ·exact zQK
  ·rfl
def lst:SyR->List SyR->SyR
 | x,[]=>x
 | _,y::r=>lst y r
theorem zLz:∀ (r:List SyR) (x:SyR),(x::r)[r.length]?=some (lst x r)
 | [],x=>rfl
 | y::r,x=>by
  show (y::r)[r.length]?=some (lst y r)
  exact zLz r y
theorem zKT:∀ (l:List SyR) (x z:SyR),flP x (l++[z])=flP x l++((if zEO (wS (lst x l)) (wS z)=true then [32] else [])++z.2.data.toList)
 | [],x,z=>by
  show (if zEO (wS x) (wS z)=true then [32] else [])++(z.2.data.toList++[])=[]++((if zEO (wS x) (wS z)=true then [32] else [])++z.2.data.toList)
  rw [List.append_nil,List.nil_append]
 | y::l,x,z=>by
  show (if zEO (wS x) (wS y)=true then [32] else [])++(y.2.data.toList++flP y (l++[z]))=((if zEO (wS x) (wS y)=true then [32] else [])++(y.2.data.toList++flP y l))++((if zEO (wS (lst y l)) (wS z)=true then [32] else [])++z.2.data.toList)
  rw [zKT l y z]
  simp only [List.append_assoc]
theorem zIW (ss:List SyR):∀ k,k<=ss.length->zBP (ss.map wS) k=(match ss.take k with | []=>[] | x::r=>x.2.data.toList++flP x r)
 | 0,_=>by simp [zBP]
 | k+1,hk=>by
  have hlt:k<ss.length:=by omega
  have ha:atW (ss.map wS) k=wS ss[k]:=by simp [atW,List.getD_eq_getElem?_getD,hlt]
  simp only [zBP]
  rw [zIW ss k (by omega),ha,List.take_add_one,List.getElem?_eq_getElem hlt]
  show _++(_++(ss[k]).2.data.toList)=_
  cases h:ss.take k with
  | nil=>
   have:k=0:=by
    have:=congrArg List.length h
    rw [List.length_take] at this
    simp only [List.length_nil] at this
    omega
   subst this
   simp [flP]
  | cons x r=>
   have hk0:k≠0:=fun e=>by subst e; simp at h
   have hrl:r.length=k-1:=by
    have:=congrArg List.length h
    rw [List.length_take] at this
    simp only [List.length_cons] at this
    omega
   have hl:lst x r=ss[k-1]:=by
    have e1:=zLz r x
    rw [<- h,hrl,List.getElem?_take_of_lt (by omega),List.getElem?_eq_getElem (by omega)] at e1
    injection e1 with e1
    exact e1.symm
   have hap:atW (ss.map wS) (k-1)=wS ss[k-1]:=by simp [atW,List.getD_eq_getElem?_getD,(show k-1<ss.length by omega)]
   rw [hap]
   simp only [Option.toList,List.cons_append]
   rw [zKT,hl]
   simp [hk0]
theorem zJV {T:ET} (h:Sh T):(⟨(txT T).toArray⟩:ByteArray)=spr (gwP ByteArray.empty (ySy T)) ByteArray.empty:=by
 have hp:=zE7 h
 have hl:txT T=(spr (gwP ByteArray.empty (ySy T)) ByteArray.empty).data.toList:=by
  unfold txT
  have e:(yT T).length=(ySy T).length:=by simp [yT]
  rw [e]
  unfold yT
  rw [zIW (ySy T) _ (Nat.le_refl _),List.take_length]
  cases hs:ySy T with
  | nil=>rw [hs] at hp; simp at hp
  | cons x r=>
   rw [zJU]
   rfl
 apply ByteArray.ext
 rw [hl]
theorem zEK {ns:List OpR}:∀ (T:ET),zA9 ns T->∀ q∈ySy T,1<=q.1/\q.1<=7:=by
 intro T
 induction T with
 | nil=>intro h; exact h.elim
 | node b o t l r ihl ihr=>
  rintro ⟨_,h⟩ q hq
  simp only [ySy] at hq
  rcases h with ⟨hb,_,_⟩ | ⟨rfl,_,hl,_⟩ | ⟨hb,_,hl,_⟩ | ⟨rfl,_,hl,hr⟩
  ·rw [if_neg (by omega),if_neg (by omega),if_neg (by omega),if_neg (by omega)] at hq
   simp at hq; subst hq; simp only; omega
  ·simp only [if_true,List.mem_cons,List.mem_append,List.not_mem_nil,or_false] at hq
   rcases hq with rfl | hq | rfl
   ·exact ⟨by decide,by decide⟩
   ·exact ihl hl q hq
   ·exact ⟨by decide,by decide⟩
  ·rcases hb with rfl | rfl
   ·simp at hq
    rcases hq with rfl | hq
    ·exact ⟨by show 1<=3; omega,by show 3<=7; omega⟩
    ·exact ihl hl q hq
   ·simp at hq
    rcases hq with hq | rfl
    ·exact ihl hl q hq
    ·exact ⟨by show 1<=5; omega,by show 5<=7; omega⟩
  ·simp at hq
   rcases hq with hq | rfl | hq
   ·exact ihl hl q hq
   ·exact ⟨by show 1<=4; omega,by show 4<=7; omega⟩
   ·exact ihr hr q hq
def TxT:ET->Prop
 | .nil=>True
 | .node b _ t l r=>zAA (rt b t)/\TxT l/\TxT r
theorem zOF {xs:List zD} (htx:∀ i,i<xs.length->zAA (atN xs i)):∀ (T:ET) (s:Nat),zBr xs T s->s+tsz T<=xs.length->TxT T:=by
 intro T
 induction T with
 | nil=>intro s _ _; trivial
 | node b o t l r ihl ihr=>
  rintro s ⟨h1,h2,h3⟩ hz
  simp only [tsz] at hz
  have ht:=htx (s+tsz l+tsz r) (by omega)
  rw [h3] at ht
  exact ⟨ht,ihl s h1 (by omega),ihr _ h2 (by omega)⟩
theorem zQL:∀ (T:ET) (s:Nat),TxT T->∀ o∈nd T s,zAA o:=by
 intro T
 induction T with
 | nil=>intro s _ o ho; simp [nd] at ho
 | node b o t l r ihl ihr=>
  rintro s ⟨h1,h2,h3⟩ x hx
  simp only [nd,List.mem_append,List.mem_singleton] at hx
  rcases hx with (hx | hx) | hx
  ·exact ihl _ h2 x hx
  ·exact ihr _ h3 x hx
  ·subst hx; exact h1
theorem zL0 (ns:List OpR):∀ (T:ET) (l:Int),TxT T->TxT (grT ns T l):=by
 intro T
 induction T with
 | nil=>intro l _; trivial
 | node b o t l r ihl ihr=>
  rintro least ⟨h1,h2,h3⟩
  simp only [grT]
  split
  ·exact ihl _ h2
  ·unfold clT
   split
   ·exact ⟨⟨by decide,Or.inr (Or.inr (Or.inl ⟨rfl,rfl⟩))⟩,⟨h1,ihl _ h2,ihr _ h3⟩,trivial⟩
   ·exact ⟨h1,ihl _ h2,ihr _ h3⟩
theorem zL1 {xs:List zD} {i:Nat} (h:i<xs.length):atN xs i∈xs:=by
 have:atN xs i=xs[i]:=by unfold atN; simp [List.getD,h]
 rw [this]; exact List.getElem_mem h
theorem zJW {T:ET} (hs:Sh T) (hz:tsz T<=20000) (ht:TxT T):ZE (nd T 0):=by
 have hp:=hs.pos
 have hf:=zAH T 0 hs (ZW T)
 rw [Nat.zero_add] at hf
 refine ⟨by rw [zi]; exact hp,by rw [zi]; exact hz,by rw [zi]; exact hf,fun i hi=>zQL T 0 ht _ (zL1 hi)⟩
theorem zOG {ns:List OpR}:∀ (T:ET) (s:Nat),zA9 ns T->∀ o∈nd T s,ZF o->fnd ns o.t (o.k-2)≠none:=by
 intro T
 induction T with
 | nil=>intro s h; exact h.elim
 | node b o t l r ihl ihr=>
  rintro s ⟨_,h⟩ x hx hop
  simp only [nd,List.mem_append,List.mem_singleton] at hx
  rcases hx with (hx | hx) | hx
  ·rcases h with ⟨_,rfl,_⟩ | ⟨_,_,hl,_⟩ | ⟨_,_,hl,_⟩ | ⟨_,_,hl,_⟩
   ·simp [nd] at hx
   ·exact ihl _ hl x hx hop
   ·exact ihl _ hl x hx hop
   ·exact ihl _ hl x hx hop
  ·rcases h with ⟨_,_,rfl⟩ | ⟨_,_,_,rfl⟩ | ⟨_,_,_,rfl⟩ | ⟨_,_,_,hr⟩
   ·simp [nd] at hx
   ·simp [nd] at hx
   ·simp [nd] at hx
   ·exact ihr _ hr x hx hop
  ·subst hx
   have hb:3<=(b:Int)/\(b:Int)<=5:=hop
   have hk:knB ns (b,t)=true:=by
    rcases h with ⟨h,_⟩ | ⟨h,_⟩ | ⟨_,h,_⟩ | ⟨_,h,_⟩
    ·omega
    ·omega
    ·exact h
    ·exact h
   show fnd ns t ((b:Int)-2)≠none
   intro e
   unfold knB at hk
   simp only [e] at hk
   cases hk
theorem zHQ {ns:List OpR} {T:ET} (h:zA9 ns T):zAt ns (nd T 0):=fun i hi hop=>zOG T 0 h _ (zL1 hi) hop
theorem zMd {ns:List OpR} {T:ET} (hv:zM ns 0) (hg:zf ns T) (hz:tsz T<=20000) (ht:TxT T):zDs ns (nd T 0) 0:=by
 have hf:=(zOC (ns:=ns) T 0 hg.well (ZW T)).2 hg
 refine Or.inr ⟨hv,Or.inr ⟨⟨zJW hg.well.sh hz ht,zHQ hg.well⟩,Or.inr ⟨fun i hi=>hf i (Nat.zero_le _) (by rw [zi] at hi; omega),rfl⟩⟩⟩
def erT:ET->ET
 | .nil=>.nil
 | .node b _ t l r=>if b=6 then erT l else .node b 0 t (erT l) (erT r)
theorem zOH:∀ (T:ET),Sh T->Sh (erT T):=by
 intro T
 induction T with
 | nil=>intro h; exact h
 | node b o t l r ihl ihr=>
  rintro ⟨_,h⟩
  simp only [erT]
  split
  ·rename_i e
   subst e
   rcases h with ⟨h,_⟩ | ⟨_,h,_⟩ | ⟨h,_⟩
   ·exact absurd h (by decide)
   ·exact ihl h
   ·exact absurd h (by decide)
  ·refine ⟨rfl,?_⟩
   rcases h with ⟨h,rfl,rfl⟩ | ⟨h,hl,rfl⟩ | ⟨h,hl,hr⟩
   ·exact Or.inl ⟨h,rfl,rfl⟩
   ·exact Or.inr (Or.inl ⟨h,ihl hl,rfl⟩)
   ·exact Or.inr (Or.inr ⟨h,ihl hl,ihr hr⟩)
theorem zL2 (ns:List OpR):∀ (T:ET) (l:Int),erT (grT ns T l)=erT T:=by
 intro T
 induction T with
 | nil=>intro l; rfl
 | node b o t l r ihl ihr=>
  intro least
  simp only [grT]
  by_cases e:b=6
  ·rw [if_pos e,ihl]
   simp only [erT,if_pos e]
  ·rw [if_neg e]
   unfold clT
   split
   ·show erT (BT.node 6 0 ByteArray.empty _ .nil)=_
    simp only [erT,if_true,if_neg e,ihl,ihr]
   ·simp only [erT,if_neg e,ihl,ihr]
theorem zQM (ns:List OpR):∀ (T:ET) (l:Int),hT (grT ns T l)<=2*hT (erT T):=by
 intro T
 induction T with
 | nil=>intro l; exact Nat.le_refl _
 | node b o t l r ihl ihr=>
  intro least
  simp only [grT]
  by_cases e:b=6
  ·rw [if_pos e]
   simp only [erT,if_pos e]
   exact ihl _
  ·rw [if_neg e]
   have h1:=ihl (zY ns (rt b t) false)
   have h2:=ihr (zY ns (rt b t) true)
   unfold clT
   split
   ·simp only [erT,if_neg e,hT]
    omega
   ·simp only [erT,if_neg e,hT]
    omega
theorem zGi:∀ (T:ET),tsz (erT T)<=tsz T
 | .nil=>Nat.le_refl _
 | .node b o t l r=>by
  have h1:=zGi l
  have h2:=zGi r
  simp only [erT]
  split
  ·simp only [tsz]; omega
  ·simp only [tsz]; omega
theorem zPK {xs:List zD}:∀ (T:ET) (s:Nat),Sh T->zBr xs T s->er xs (s+tsz T)=er xs s++nd (erT T) (cnt xs s)/\cnt xs (s+tsz T)=cnt xs s+tsz (erT T):=by
 intro T
 induction T with
 | nil=>intro s h; exact h.elim
 | node b o t l r ihl ihr=>
  rintro s ⟨_,h⟩ ⟨h1,h2,h3⟩
  have ez:s+tsz (.node b o t l r:ET)=(s+tsz l+tsz r)+1:=by simp only [tsz]; omega
  have hk:(atN xs (s+tsz l+tsz r)).k=(b:Int):=by rw [h3]; rfl
  have hL:er xs (s+tsz l)=er xs s++nd (erT l) (cnt xs s)/\cnt xs (s+tsz l)=cnt xs s+tsz (erT l):=by
   rcases h with ⟨_,rfl,_⟩ | ⟨_,hl,_⟩ | ⟨_,hl,_⟩
   ·exact ⟨by simp [tsz,erT,nd],by simp [tsz,erT]⟩
   ·exact ihl s hl h1
   ·exact ihl s hl h1
  have hR:er xs (s+tsz l+tsz r)=er xs (s+tsz l)++nd (erT r) (cnt xs (s+tsz l))/\cnt xs (s+tsz l+tsz r)=cnt xs (s+tsz l)+tsz (erT r):=by
   rcases h with ⟨_,_,rfl⟩ | ⟨_,_,rfl⟩ | ⟨_,_,hr⟩
   ·exact ⟨by simp [tsz,erT,nd],by simp [tsz,erT]⟩
   ·exact ⟨by simp [tsz,erT,nd],by simp [tsz,erT]⟩
   ·exact ihr _ hr h2
  rw [ez]
  by_cases e:b=6
  ·subst e
   have hr0:r = .nil:=by
    rcases h with ⟨h,_⟩ | ⟨_,_,h⟩ | ⟨h,_⟩
    ·exact absurd h (by decide)
    ·exact h
    ·exact absurd h (by decide)
   subst hr0
   have e6:(atN xs (s+tsz l+tsz (BT.nil:ET))).k=6:=hk
   rw [zGp e6]
   have ec:cnt xs (s+tsz l+tsz (BT.nil:ET)+1)=cnt xs (s+tsz l+tsz (BT.nil:ET)):=by
    conv=>lhs; unfold cnt
    rw [if_pos e6]
   rw [ec]
   simp only [erT,if_true]
   exact ⟨hL.1,hL.2⟩
  ·have e6:(atN xs (s+tsz l+tsz r)).k≠6:=by rw [hk]; omega
   rw [zCv e6]
   have ec:cnt xs (s+tsz l+tsz r+1)=cnt xs (s+tsz l+tsz r)+1:=by
    conv=>lhs; unfold cnt
    rw [if_neg e6]
   rw [ec,hR.1,hR.2,hL.1,hL.2,h3]
   simp only [erT,if_neg e,nd,tsz]
   refine ⟨?_,by omega⟩
   rw [List.append_assoc (er xs s),List.append_assoc (er xs s)]
   congr 2
   have hx:erN xs (tN b t l r s)=tN b t (erT l) (erT r) (cnt xs s):=by
    unfold erN tN mvd
    rcases h with ⟨hk0,rfl,rfl⟩ | ⟨hk1,hl,rfl⟩ | ⟨hk2,hl,hr⟩
    ·simp [hk0]
    ·have hp:=hl.pos
     have ea:(((s+tsz l:Nat):Int)-1).toNat+1=s+tsz l:=by omega
     simp only [hk1,Nat.one_ne_zero,if_false]
     rw [ea,hL.2]
     simp
    ·have hp:=hl.pos
     have hq:=hr.pos
     have ea:(((s+tsz l:Nat):Int)-1).toNat+1=s+tsz l:=by omega
     have eb:(((s+tsz l+tsz r:Nat):Int)-1).toNat+1=s+tsz l+tsz r:=by omega
     simp only [hk2,if_true,show ¬ (2=0) by decide,if_false]
     rw [ea,eb,hR.2,hL.2]
   rw [hx]
theorem zL3 {T:ET} (h:Sh T):er (nd T 0) (nd T 0).length=nd (erT T) 0:=by
 have:=(zPK (xs:=nd T 0) T 0 h (ZW T)).1
 rw [Nat.zero_add,<- zi T 0] at this
 simpa [er,cnt] using this
theorem ZE.sizedN {xs:List zD} (h:ZE xs):zAX xs:=fun i hi=>by have:=(h.2.2.2 i hi).1; unfold maxLen; omega
structure PrT (ns:List OpR) (us:List zD) (s:ByteArray) (T:ET) (gs:List zD):Prop where
 sh:Sh (erT T)
 z:tsz (erT T)<=20000
 bare:∀ vs v,zEB us vs v->vs=nd (erT T) 0
 pos:1<=s.size
 par:∀ vs c p,s.size<=20000->hT (erT T)<=500->zAQ ns s vs c p->c=0/\vs=gs
 ok:∀ c,zDs ns gs c->c=0
 l1:1<=gs.length
 l:gs.length<=20000
 sz:zAX gs
 er:∀ vs v,zEB gs vs v->v=true/\vs=nd (erT T) 0
theorem zQv {ns:List OpR} {us:List zD} {s:ByteArray} (h:zCb ns us s true):∃ T gs,PrT ns us s T gs:=by
 rcases h with ⟨hh,_,hs⟩ | ⟨_,h,_⟩
 case inr=>cases h
 obtain ⟨G,hG,hgd,_,hz,hgS,_⟩:=zDc hh
 obtain ⟨⟨hv,hord,hkn⟩,_⟩:=hh
 obtain ⟨T,hw,htz,hx⟩:=zF8 hord hkn
 have hto:zCo us=T:=by rw [hx]; exact zB3 hw.sh
 rw [hto] at hG hs
 rw [<- hG] at hs
 have hli:zBr us T 0:=by rw [hx]; exact ZW T
 have htx:TxT T:=zOF hord.2.2.2 T 0 hli (by omega)
 have htg:TxT G:=by rw [hG]; exact zL0 ns T 0 htx
 have hog:ZE (nd G 0):=zJW hgd.well.sh hz htg
 have hsv:ZA ns:=zAL (zBl hv).1
 have hwd:=zKR (ns:=ns) (xs:=nd G 0) hog.2.2.2 G 0 hgd.well (ZW G) (by rw [zi]; omega)
 have hspr:=zJV hgd.well.sh
 rw [hspr] at hs
 have hsp:=zEl hsv (ySy G) ByteArray.empty (fun i hi=>by simp at hi) (zJS _ _ _ (zHI G hgd.well 0)) (zEK G hgd.well) hwd
 have hlx:=zF5 hsv (gwP ByteArray.empty (ySy G)) ByteArray.empty hsp
 rw [<- hs] at hlx
 have hlw:(nd G 0).length<=20000:=hog.2.1
 have hz2:=zGi T
 refine ⟨T,nd G 0,zOH T hw.sh,by have:=hord.2.1; omega,fun vs v he=>?_,?_,fun vs c p h20 hh5 hp=>?_,fun c hc=>?_,hog.1,hog.2.1,hog.sizedN,fun vs v he=>?_⟩
 ·rcases he with ⟨_,_,rfl⟩ | ⟨hno,_,_⟩
  ·have:=zL3 hw.sh
   rw [<- hx] at this
   exact this
  ·exact absurd hord hno
 ·have hp:=zE7 hgd.well.sh
  cases hy:ySy G with
  | nil=>rw [hy] at hp; simp at hp
  | cons x r=>
   rw [hy] at hs
   have hx1:=zGY hsv (hwd x (by rw [hy]; simp))
   have e:=zJU r x ByteArray.empty
   rw [<- hs] at e
   have e2:=congrArg List.length e
   simp only [List.length_append] at e2
   have e3:s.data.toList.length=s.size:=by simp
   have e4:x.2.data.toList.length=x.2.size:=by simp
   omega
 ·have:=(zGB hv h20 hgd.well hlx (zKS (ySy G) _ _) hp).1 hgd (by have:=zQM ns T 0; rw [<- hG] at this; omega)
  exact this
 ·exact hc.one (zMd hv hgd hz htg)
 ·rcases he with ⟨_,hv,rfl⟩ | ⟨hno,_,_⟩
  ·refine ⟨hv,?_⟩
   rw [zL3 hgd.well.sh,hG,zL2]
  ·exact absurd hog hno
end Go.Proofs.YtfboipappaonhaaGreat
namespace Go.Proofs.YtfboipappaonhaaGreat
set_option linter.unusedSimpArgs false
set_option linter.unusedVariables false
set_option maxHeartbeats 16000000
set_option maxRecDepth 100000
open Go.RowKit
def zKU (us:List zK):List UInt8:=us.flatMap fun t=>t.g.data.toList++t.t.data.toList
theorem zGD (us:List zK):∀ k,k<=us.length->Zh us k=zKU (us.take k)
 | 0,_=>rfl
 | k+1,h=>by
  have ih:=zGD us k (by omega)
  have e:us.take (k+1)=us.take k++[atT us k]:=by
   rw [List.take_add_one,List.getElem?_eq_getElem (by omega)]
   simp [atT,List.getD,List.getElem?_eq_getElem (show k<us.length by omega)]
  rw [e]
  show Zh us k++(atT us k).g.data.toList++(atT us k).t.data.toList=_
  rw [ih]
  simp [zKU]
theorem zHR (us:List zK):Zh us us.length=zKU us:=by
 rw [zGD us us.length (Nat.le_refl _),List.take_length]
theorem zHS (s:ByteArray) (i j:Nat):(s.extract i j).data.toList=(s.data.toList.drop i).take (j-i):=by
 simp [ByteArray.data_extract,List.extract_eq_take_drop]
theorem zHT {xs:List OpR} {s:ByteArray}:∀ (us:List zK) (i:Nat),ZR xs s i us->zKU us=s.data.toList.drop i/\us.length+i<=s.size+1
 | [],_,h=>h.elim
 | t::out,i,h=>by
  have hsl:s.data.toList.length=s.size:=by simp
  rcases h with ⟨rfl,hi,_,rfl⟩ | ⟨j,n,k,hij,hj,_,_,htok,rfl,hout⟩
  ·refine ⟨?_,by simp; omega⟩
   show (s.extract i s.size).data.toList++[]++[]=_
   rw [zHS,List.append_nil,List.append_nil,List.take_of_length_le (by rw [List.length_drop,hsl]; exact Nat.le_refl _)]
  ·obtain ⟨ih1,ih2⟩:=zHT out (j+n) hout
   have h1:=htok.1
   refine ⟨?_,by simp; omega⟩
   show (s.extract i j).data.toList++(s.extract j (j+n)).data.toList++zKU out=_
   rw [ih1,zHS,zHS]
   have e1:s.data.toList.drop (j+n)=(s.data.toList.drop j).drop n:=by rw [List.drop_drop]
   have e2:s.data.toList.drop j=(s.data.toList.drop i).drop (j-i):=by rw [List.drop_drop]; congr 1; omega
   rw [List.append_assoc,e1,Nat.add_sub_cancel_left,List.take_append_drop,e2,List.take_append_drop]
theorem zDB {xs:List OpR} {s:ByteArray} {us:List zK} (h:ZR xs s 0 us):(⟨(Zh us us.length).toArray⟩:ByteArray)=s/\us.length<=s.size+1/\ZO us us.length=s.size:=by
 obtain ⟨h1,h2⟩:=zHT us 0 h
 rw [List.drop_zero] at h1
 have h3:=zCH us us.length
 rw [zHR,h1] at h3
 refine ⟨?_,by omega,by rw [<- h3]; simp⟩
 rw [zHR,h1]
end Go.Proofs.YtfboipappaonhaaGreat
namespace Go.Proofs.YtfboipappaonhaaGreat
set_option linter.unusedSimpArgs false
set_option linter.unusedVariables false
set_option maxHeartbeats 16000000
set_option maxRecDepth 100000
def zCL (ns:List OpR) (s t:ByteArray) (c p:Int):Prop:=
 ∃ us c0 p0,zAQ ns s us c0 p0/\((c0≠0/\t=⟨#[]⟩/\c=c0/\p=p0)\/(c0=0/\(∃ v,zCb ns us t v)/\c=0/\p=0))
theorem zCL.one {ns:List OpR} {s t t':ByteArray} {c c' p p':Int} (h:zCL ns s t c p) (h':zCL ns s t' c' p'):t=t'/\c=c'/\p=p':=by
 obtain ⟨us,c0,p0,h0,h⟩:=h
 obtain ⟨us',c0',p0',h0',h'⟩:=h'
 obtain ⟨rfl,rfl,rfl⟩:=h0.one h0'
 rcases h with ⟨a,rfl,rfl,rfl⟩ | ⟨a,⟨v,hv⟩,rfl,rfl⟩
 ·rcases h' with ⟨_,rfl,rfl,rfl⟩ | ⟨b,_⟩
  ·exact ⟨rfl,rfl,rfl⟩
  ·exact absurd b a
 ·rcases h' with ⟨b,_⟩ | ⟨_,⟨v',hv'⟩,rfl,rfl⟩
  ·exact absurd a b
  ·exact ⟨(hv.one hv').1,rfl,rfl⟩
theorem zOI {ns:List OpR} {m:Nat}:∀ (T:ET),zf ns T->(∀ x∈ySy T,x.2.size<=m)->∀ (s:Nat),∀ o∈nd T s,o.t.size<=m:=by
 intro T
 induction T with
 | nil=>intro h; exact h.elim
 | node b o t l r ihl ihr=>
  rintro ⟨rfl,h⟩ hy s q hq
  rcases h with ⟨h12,rfl,rfl⟩ | ⟨rfl,rfl,hl,rfl⟩ | ⟨h35,hk,hl,rfl,hh⟩ | ⟨rfl,hk,hl,hr,h1,h2⟩
  ·rw [zAV h12] at hy
   simp only [nd,List.nil_append,List.mem_singleton] at hq
   subst hq
   exact hy (b,t) (by simp)
  ·rw [zAy] at hy
   simp only [nd,List.append_nil,List.mem_append,List.mem_singleton] at hq
   rcases hq with hq | rfl
   ·exact ihl hl (fun x hx=>hy x (by simp [hx])) s q hq
   ·exact Nat.zero_le _
  ·have hyl:∀ x∈ySy l,x.2.size<=m:=by
    rcases h35 with rfl | rfl
    ·rw [zAZ] at hy; exact fun x hx=>hy x (by simp [hx])
    ·rw [zAF] at hy; exact fun x hx=>hy x (by simp [hx])
   have hyt:t.size<=m:=by
    rcases h35 with rfl | rfl
    ·rw [zAZ] at hy; exact hy (3,t) (by simp)
    ·rw [zAF] at hy; exact hy (5,t) (by simp)
   simp only [nd,List.append_nil,List.mem_append,List.mem_singleton] at hq
   rcases hq with hq | rfl
   ·exact ihl hl hyl s q hq
   ·exact hyt
  ·rw [zBK] at hy
   simp only [nd,List.mem_append,List.mem_singleton] at hq
   rcases hq with (hq | hq) | rfl
   ·exact ihl hl (fun x hx=>hy x (by simp [hx])) s q hq
   ·exact ihr hr (fun x hx=>hy x (by simp [hx])) _ q hq
   ·exact hy (4,t) (by simp)
theorem zKV {ns:List OpR} {ts:List zK} {i m:Nat} (h:(atT ts i).t.size<=m) (h1:1<=m):(sgT ns ts i).2.size<=m:=by
 unfold sgT
 split
 ·exact h
 ·split
  ·exact h1
  ·split
   ·exact h1
   ·split
    ·exact Nat.zero_le _
    ·exact h
theorem zHU {ns:List OpR} {s:ByteArray} {us:List zD} {p:Int} (h:zAQ ns s us 0 p):1<=us.length/\us.length<=20001/\zAX us:=by
 rcases h with ⟨_,_,h,_⟩ | ⟨hv,⟨_,_,h,_⟩ | ⟨h20,ts,hx,⟨i,_,_,_,_,h,_⟩ | ⟨hno,⟨i,_,_,_,_,h,_⟩ | ⟨hf,h⟩⟩⟩⟩
 ·omega
 ·omega
 ·omega
 ·omega
 ·rcases h with ⟨_,_,h,_⟩ | ⟨T,r,hr,⟨_,_,h,_⟩ | ⟨_,rfl,_,_⟩⟩
  ·omega
  ·omega
  ·have hl:=zA3 ts 0 hx
   have hfe:=zJI hf hl 0 hl.1
   rw [Nat.sub_zero] at hfe
   have h1:=Ze hv _ _ none _ 0 _ (by omega) hfe (fun L e=>by cases e) hr
   have e0:=h1.2.2.2.2
   simp only [yM,List.nil_append] at e0
   have e:=congrArg List.length e0
   simp only [List.length_append] at e
   rw [zAD] at e
   have:=zG6 T h1.2.1
   have hlt:=(zDB hx).2.1
   rw [zi]
   refine ⟨Sh.pos h1.2.1.sh,by omega,fun i hi=>?_⟩
   have hm:∀ o∈nd T 0,o.t.size<=20000:=by
    refine zOI T h1.2.1 (fun x hx2=>?_) 0
    have hmem:x∈sgs ns ts 0 ts.length:=by rw [e0]; exact List.mem_append_left _ hx2
    unfold sgs at hmem
    obtain ⟨i,hi,rfl⟩:=List.mem_map.1 hmem
    rw [List.mem_range'_1] at hi
    refine zKV ?_ (by omega)
    have:=(zBX ts 0 hx i (by omega)).2
    omega
   have:=hm (atN (nd T 0) i) (by
    unfold atN
    rw [List.getD_eq_getElem?_getD,List.getElem?_eq_getElem (by omega)]
    exact List.getElem_mem _)
   unfold maxLen
   omega
end Go.Proofs.YtfboipappaonhaaGreat
namespace Go.Proofs.YtfboipappaonhaaGreat
set_option linter.unusedSimpArgs false
set_option linter.unusedVariables false
set_option maxHeartbeats 16000000
set_option maxRecDepth 100000
open Go.RowKit
open Go.Deep (BT)
theorem zGE {ns:List OpR} {s:ByteArray}:∀ (ts:List zK) (i:Nat),ZR ns s i ts->∀ j,j<ts.length->((atT ts j).k=1->zDo (atT ts j).t)/\((atT ts j).k=2->zBR (atT ts j).t)
 | [],_,h,_,_=>h.elim
 | t::out,i,h,j,hj=>by
  rcases h with ⟨rfl,_,_,rfl⟩ | ⟨p,n,k,_,_,_,_,hk,rfl,hr⟩
  ·have:j=0:=by simp at hj; omega
   subst this
   refine ⟨fun h=>?_,fun h=>?_⟩
   ·exact absurd h (by show ¬ ((7:Int)=1); decide)
   ·exact absurd h (by show ¬ ((7:Int)=2); decide)
  ·cases j with
   | succ j=>exact zGE out _ hr j (by simpa using hj)
   | zero=>
    obtain ⟨h1,h2,hc⟩:=hk
    have hz:=zAU h2
    have hb:=fun (q:Nat) (hq:q<n)=>zB6 (s:=s) h2 hq
    refine ⟨fun h=>?_,fun h=>?_⟩
    ·have hk1:(k:Int)=1:=h
     show zDo (sub s p n)
     rcases hc with ⟨_,_,ha,_⟩ | ⟨_,e,_⟩ | ⟨_,e,_⟩ | ⟨_,e,_⟩ | ⟨_,⟨e,_⟩ | ⟨e,_⟩⟩ | ⟨_,e,_⟩
     ·exact ⟨by omega,fun q hq=>by rw [hb q (by omega)]; exact ha q (by omega)⟩
     all_goals omega
    ·have hk1:(k:Int)=2:=h
     show zBR (sub s p n)
     rcases hc with ⟨_,e,_⟩ | ⟨h3,_,ha,_⟩ | ⟨_,e,_⟩ | ⟨_,e,_⟩ | ⟨_,⟨e,_⟩ | ⟨e,_⟩⟩ | ⟨_,e,_⟩
     ·omega
     ·refine ⟨by omega,fun q hq=>?_⟩
      rw [hb q (by omega)]
      by_cases e:q=0
      ·subst e; exact Or.inl h3
      ·rcases ha q (by omega) with h | h
       ·exact Or.inr ⟨e,h⟩
       ·exact Or.inl h
     all_goals omega
theorem zPL {ns:List OpR} {ts:List zK} {i:Nat} (hk:(atT ts i).k=3) (hr:0<=zV ns ts i):1<=zV ns ts i:=by
 have:zV ns ts i=1\/zV ns ts i=2\/zV ns ts i=3\/zV ns ts i = -1:=by
  unfold zV zz
  split
  ·rw [if_neg (by omega)]
   split
   ·exact Or.inl rfl
   ·exact Or.inr (Or.inr (Or.inr rfl))
  ·split
   ·exact Or.inr (Or.inl rfl)
   ·split
    ·exact Or.inr (Or.inr (Or.inl rfl))
    ·rw [if_neg (by omega),if_neg (by omega)]
     exact Or.inr (Or.inr (Or.inr rfl))
 omega
theorem zOJ {ns:List OpR} (hv:zM ns 0) {b:Nat} {t:ByteArray} (h:knB ns (b,t)=true):zEX t=true:=by
 unfold knB at h
 cases e:fnd ns t ((b:Int)-2) with
 | none=>simp only [e] at h; cases h
 | some j=>
  obtain ⟨hj,hs,_⟩:=Z2 e
  have hok:=(zBl hv).1 j hj
  unfold OpR.ok okB at hok
  simp only [Bool.and_eq_true] at hok
  rw [hs] at hok
  exact hok.1.1.1
theorem zMe {ns:List OpR} (hv:zM ns 0):∀ (T:ET),zA9 ns T->(∀ q∈ySy T,q.2.size<=20000/\(q.1=1->zDo q.2)/\(q.1=2->zBR q.2))->TxT T:=by
 intro T
 induction T with
 | nil=>intro h; exact h.elim
 | node b o t l r ihl ihr=>
  rintro ⟨rfl,h⟩ hy
  rcases h with ⟨h12,rfl,rfl⟩ | ⟨rfl,rfl,hl,rfl⟩ | ⟨h35,hk,hl,rfl⟩ | ⟨rfl,hk,hl,hr⟩
  ·rw [zAV h12] at hy
   obtain ⟨a,b1,b2⟩:=hy (b,t) (by simp)
   refine ⟨⟨a,?_⟩,trivial,trivial⟩
   rcases h12 with rfl | rfl
   ·exact Or.inl ⟨rfl,b1 rfl⟩
   ·exact Or.inr (Or.inl ⟨rfl,b2 rfl⟩)
  ·rw [zAy] at hy
   exact ⟨⟨by decide,Or.inr (Or.inr (Or.inl ⟨rfl,rfl⟩))⟩,ihl hl (fun x hx=>hy x (by simp [hx])),trivial⟩
  ·have ht:=zOJ hv hk
   have hyl:∀ q∈ySy l,q.2.size<=20000/\(q.1=1->zDo q.2)/\(q.1=2->zBR q.2):=by
    rcases h35 with rfl | rfl
    ·rw [zAZ] at hy; exact fun x hx=>hy x (by simp [hx])
    ·rw [zAF] at hy; exact fun x hx=>hy x (by simp [hx])
   have hyt:t.size<=20000:=by
    rcases h35 with rfl | rfl
    ·rw [zAZ] at hy; exact (hy (3,t) (by simp)).1
    ·rw [zAF] at hy; exact (hy (5,t) (by simp)).1
   refine ⟨⟨hyt,Or.inr (Or.inr (Or.inr ⟨?_,ht⟩))⟩,ihl hl hyl,trivial⟩
   show (b:Int)=3\/(b:Int)=4\/(b:Int)=5
   omega
  ·rw [zBK] at hy
   have ht:=zOJ hv hk
   exact ⟨⟨(hy (4,t) (by simp)).1,Or.inr (Or.inr (Or.inr ⟨Or.inr (Or.inl rfl),ht⟩))⟩,ihl hl (fun x hx=>hy x (by simp [hx])),ihr hr (fun x hx=>hy x (by simp [hx]))⟩
theorem zMf {ns:List OpR} {s:ByteArray} {us:List zD} {p:Int} (h:zAQ ns s us 0 p):∃ T,zM ns 0/\zf ns T/\us=nd T 0/\TxT T/\tsz T<=20000/\hT T<=1000:=by
 rcases h with ⟨_,_,h,_⟩ | ⟨hv,⟨_,_,h,_⟩ | ⟨h20,ts,hx,⟨i,_,_,_,_,h,_⟩ | ⟨hno,⟨i,_,_,_,_,h,_⟩ | ⟨hf,h⟩⟩⟩⟩
 ·omega
 ·omega
 ·omega
 ·omega
 ·rcases h with ⟨_,_,h,_⟩ | ⟨T,r,hr,⟨_,_,h,_⟩ | ⟨hht,rfl,_,_⟩⟩
  ·omega
  ·omega
  ·have hl:=zA3 ts 0 hx
   have hfe:=zJI hf hl 0 hl.1
   rw [Nat.sub_zero] at hfe
   have h1:=Ze hv _ _ none _ 0 _ (by omega) hfe (fun L e=>by cases e) hr
   have hfr:=h1.1
   have e0:=h1.2.2.2.2
   simp only [yM,List.nil_append] at e0
   have e:=congrArg List.length e0
   simp only [List.length_append] at e
   rw [zAD] at e
   have hts:=zG6 T h1.2.1
   have hlt:=(zDB hx).2.1
   have hrr:1<=r.length:=by
    cases hrl:r with
    | nil=>
     exfalso
     rw [hrl,List.append_nil] at e0
     have hlast:sgT ns ts (ts.length-1)∈sgs ns ts 0 ts.length:=by
      unfold sgs
      exact List.mem_map.2 ⟨ts.length-1,by rw [List.mem_range'_1]; omega,rfl⟩
     have heo:sgT ns ts (ts.length-1)=eoS:=by
      unfold sgT
      rw [hl.2]
      rfl
     rw [heo,e0] at hlast
     have:=zEK T h1.2.1.well _ hlast
     have h8:eoS.1=8:=rfl
     omega
    | cons x r'=>simp
   refine ⟨T,hv,h1.2.1,rfl,zMe hv T h1.2.1.well (fun x hx2=>?_),by omega,hht⟩
   have hmem:x∈sgs ns ts 0 ts.length:=by rw [e0]; exact List.mem_append_left _ hx2
   have hk7:=zEK T h1.2.1.well x hx2
   unfold sgs at hmem
   obtain ⟨i,hi,rfl⟩:=List.mem_map.1 hmem
   rw [List.mem_range'_1] at hi
   have hsz:=(zBX ts 0 hx i (by omega)).2
   have hkd:=zGE ts 0 hx i (by omega)
   have hro:=fun (h:(atT ts i).k=3)=>zPL h (hf i (by omega))
   have key:∀ z:Nat,(z=1\/z=2)->(sgT ns ts i).1=z->(atT ts i).k=(z:Int)/\(sgT ns ts i).2=(atT ts i).t:=by
    intro z hz hs
    unfold sgT at hs ⊢
    by_cases h3:(atT ts i).k=3
    ·rw [if_pos h3] at hs
     have:=hro h3
     simp only at hs
     omega
    ·rw [if_neg h3] at hs ⊢
     by_cases h4:(atT ts i).k=4
     ·rw [if_pos h4] at hs; simp only at hs; omega
     ·rw [if_neg h4] at hs ⊢
      by_cases h5:(atT ts i).k=5
      ·rw [if_pos h5] at hs; simp only at hs; omega
      ·rw [if_neg h5] at hs ⊢
       by_cases h7:(atT ts i).k=7
       ·rw [if_pos h7] at hs
        have h8:eoS.1=8:=rfl
        omega
       ·rw [if_neg h7] at hs ⊢
        simp only at hs
        exact ⟨by omega,rfl⟩
   refine ⟨zKV (by omega) (by omega),fun h=>?_,fun h=>?_⟩
   ·obtain ⟨a,b⟩:=key 1 (Or.inl rfl) h
    rw [b]; exact hkd.1 a
   ·obtain ⟨a,b⟩:=key 2 (Or.inr rfl) h
    rw [b]; exact hkd.2 a
end Go.Proofs.YtfboipappaonhaaGreat
