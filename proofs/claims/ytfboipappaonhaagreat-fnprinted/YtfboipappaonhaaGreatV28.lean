import Derived.Test.YtfboipappaonhaaGreatV01
import Derived.Test.YtfboipappaonhaaGreatV24
import Derived.Test.YtfboipappaonhaaGreatV27
namespace Go.Proofs.YtfboipappaonhaaGreat
set_option linter.unusedSimpArgs false
set_option linter.unusedVariables false
set_option maxHeartbeats 16000000
set_option maxRecDepth 100000
open Go.RowKit
open Go.Deep (BT)
def zIz (s:SyR):Bool:=decide (s.1 = 1 \/ s.1 = 2)
def ApO:List SyR -> Prop
 | []=>True
 | [_]=>True
 | x :: y :: r=>¬ (zIz x = true /\ zIz y = true) /\ ApO (y :: r)
theorem zJl {ns:List OpR}:∀ (ss:List SyR) (st st':Bool × Nat),zAl ns st ss = some st' -> ApO ss
 | [],_,_,_=>trivial
 | [_],_,_,_=>trivial
 | x :: y :: r,st,st',h=>by
  simp only [zAl] at h
  cases e:auS ns st x with
  | none=>rw [e] at h; cases h
  | some s1=>
   rw [e] at h
   refine ⟨fun ⟨hx,hy⟩=>?_,zJl (y :: r) s1 st' (by simpa only [zAl] using h)⟩
   have hx':x.1 = 1 \/ x.1 = 2:=by simpa [zIz] using hx
   have hy':y.1 = 1 \/ y.1 = 2:=by simpa [zIz] using hy
   have h1:s1.1 = true:=by
    unfold auS at e
    by_cases hs:st.1 = false
    ·rw [if_pos hs,if_pos hx'] at e
     injection e with e; rw [<- e]
    ·rw [if_neg hs,if_neg (fun x=>by omega),if_neg (fun x=>by omega)] at e
     split at e
     ·injection e with e; rw [<- e]
     ·cases e
   have h2:auS ns s1 y = none:=by
    unfold auS
    rw [if_neg (by rw [h1]; decide),if_neg (fun x=>by omega),if_neg (fun x=>by omega)]
    rw [if_neg]
    rintro ⟨hc,_⟩
    have:y.1 = 7:=by simp [zLN] at hc; exact hc.1
    omega
   simp only at h
   rw [h2] at h
   cases h
def zDD (x y:SyR):ByteArray:=if zCt (wS x) (wS y) = true then one 32 else ByteArray.empty
def gwP (g:ByteArray):List SyR -> List GwR
 | []=>[]
 | x :: r=>⟨g,x.2,tkK x.1⟩ :: (match r with
  | []=>[]
  | y :: r'=>gwP (zDD x y) (y :: r'))
theorem zBt (g:ByteArray) (x y:SyR) (r:List SyR):gwP g (x :: y :: r) = ⟨g,x.2,tkK x.1⟩ :: gwP (zDD x y) (y :: r):=by
 rw [gwP]
theorem zNn (x y:SyR):Bl (zDD x y):=by
 unfold zDD
 split
 ·exact zNm
 ·exact fun i hi=>by simp at hi
theorem zJm:∀ (ss:List SyR) (g:ByteArray),(gwP g ss).length = ss.length
 | [],_=>by simp [gwP]
 | [x],g=>by simp [gwP]
 | x :: y :: r,g=>by rw [zBt,List.length_cons,zJm (y :: r)]; rfl
theorem zLp:∀ (ss:List SyR) (g:ByteArray) (i:Nat) (h:i < ss.length),∃ g',(gwP g ss)[i]? = some ⟨g',ss[i].2,tkK ss[i].1⟩
 | [],_,i,h=>by simp at h
 | [x],g,i,h=>by
  have:i = 0:=by simp at h; exact h
  subst this
  exact ⟨g,by simp [gwP]⟩
 | x :: y :: r,g,0,h=>⟨g,by rw [zBt]; rfl⟩
 | x :: y :: r,g,i + 1,h=>by
  obtain ⟨g',e⟩:=zLp (y :: r) (zDD x y) i (by simpa using h)
  exact ⟨g',by rw [zBt]; simpa using e⟩
theorem zLq (ss:List SyR) (g e:ByteArray):zHP ss ((gwP g ss).map zLG ++ [⟨7,e,⟨#[]⟩⟩]):=by
 have hl:((gwP g ss).map zLG).length = ss.length:=by rw [List.length_map,zJm]
 refine ⟨by rw [List.length_append,hl]; rfl,?_,fun i h=>?_⟩
 ·unfold atT
  rw [List.getD_eq_getElem?_getD,List.getElem?_append_right (by omega),hl,Nat.sub_self]
  rfl
 ·obtain ⟨g',e'⟩:=zLp ss g i h
  have:atT ((gwP g ss).map zLG ++ [⟨7,e,⟨#[]⟩⟩]) i = ⟨(tkK ss[i].1:Int),g',ss[i].2⟩:=by
   unfold atT
   rw [List.getD_eq_getElem?_getD,List.getElem?_append_left (by omega),List.getElem?_map,e']
   rfl
  rw [this]
  exact ⟨rfl,rfl⟩
theorem zMo {ns:List OpR} (hv:ZA ns) {t:ByteArray} {k:Nat} (h:WdK ns t k):(k = 1 /\ cls (bt t 0) = 2) \/ (k = 2 /\ cls (bt t 0) = 3) \/ (k = 3 /\ cls (bt t 0) = 6) \/ (k = 4 /\ cls (bt t 0) = 4) \/ (k = 5 /\ cls (bt t 0) = 5):=by
 rcases h with ⟨e,h⟩ | ⟨e,h⟩ | ⟨e,h⟩ | ⟨e,rfl⟩ | ⟨e,rfl⟩
 ·exact Or.inl ⟨e,h.2 0 h.1⟩
 ·rcases h.2 0 h.1 with e' | ⟨e',_⟩
  ·exact Or.inr (Or.inl ⟨e,e'⟩)
  ·exact absurd rfl e'
 ·exact Or.inr (Or.inr (Or.inl ⟨e,(zC9 hv h).2 0 (zC9 hv h).1⟩))
 ·exact Or.inr (Or.inr (Or.inr (Or.inl ⟨e,by decide⟩)))
 ·exact Or.inr (Or.inr (Or.inr (Or.inr ⟨e,by decide⟩)))
theorem zHQ {s:SyR} (h:tkK s.1 = 1 \/ tkK s.1 = 2):zIz s = true:=by
 unfold tkK at h
 simp only [zIz,decide_eq_true_eq]
 split at h
 ·omega
 ·split at h
  ·omega
  ·split at h
   ·omega
   ·split at h <;> omega
theorem zLr {s:SyR} (h:tkK s.1 = 3) (hk:1 <= s.1 /\ s.1 <= 7):(wS s).o = true:=by
 unfold tkK at h
 simp only [wS,decide_eq_true_eq]
 split at h
 ·omega
 ·split at h
  ·omega
  ·split at h
   ·omega
   ·split at h <;> omega
theorem zFg {ns:List OpR} (hv:ZA ns):∀ (ss:List SyR) (g:ByteArray),Bl g -> ApO ss -> (∀ q ∈ ss,1 <= q.1 /\ q.1 <= 7) -> (∀ q ∈ ss,WdK ns q.2 (tkK q.1)) -> zG9 ns (gwP g ss) ByteArray.empty
 | [],g,_,_,_,_=>by simp only [gwP]; exact fun i hi=>by simp at hi
 | [x],g,hg,_,_,h=>by
  simp only [gwP]
  exact ⟨hg,h x (by simp),fun hz=>by simp [spr] at hz,fun i hi=>by simp at hi⟩
 | x :: y :: r,g,hg,ha,hn,h=>by
  rw [zBt]
  refine ⟨hg,h x (by simp),?_,zFg hv (y :: r) _ (zNn x y) ha.2 (fun q hq=>hn q (by simp [List.mem_cons.1 hq])) (fun q hq=>h q (by simp [List.mem_cons.1 hq]))⟩
  intro _
  have hy:=h y (by simp)
  have hfirst:∃ R,spr (gwP (zDD x y) (y :: r)) ByteArray.empty = zDD x y ++ (y.2 ++ R):=by
   cases r with
   | nil=>exact ⟨ByteArray.empty,by simp [gwP,spr]⟩
   | cons z r'=>exact ⟨_,by rw [zBt]; rfl⟩
  obtain ⟨R,hR⟩:=hfirst
  rw [hR]
  by_cases hgp:zCt (wS x) (wS y) = true
  ·have e:zDD x y = one 32:=by unfold zDD; rw [if_pos hgp]
   have:bt (zDD x y ++ (y.2 ++ R)) 0 = 32:=by rw [e,zCX (by rw [zLF]; omega),zNc]
   rw [this]
   exact ⟨fun _=>by decide,fun _=>by decide⟩
  ·have e:zDD x y = ByteArray.empty:=by unfold zDD; rw [if_neg hgp]
   have hb:bt (zDD x y ++ (y.2 ++ R)) 0 = bt y.2 0:=by
    rw [e]
    have e1:ByteArray.empty ++ (y.2 ++ R) = y.2 ++ R:=by apply ByteArray.ext; simp [ByteArray.data_append]
    rw [e1]
    exact zCX (zEu hv hy)
   rw [hb]
   have hc:=zMo hv hy
   refine ⟨fun hk=>?_,fun hk=>?_⟩
   ·have hx:=zHQ hk
    have hny:¬ zIz y = true:=fun e=>ha.1 ⟨hx,e⟩
    have h1:tkK y.1 ≠ 1:=fun e=>hny (zHQ (Or.inl e))
    have h2:tkK y.1 ≠ 2:=fun e=>hny (zHQ (Or.inr e))
    rcases hc with ⟨a,_⟩ | ⟨a,_⟩ | ⟨_,b⟩ | ⟨_,b⟩ | ⟨_,b⟩
    ·exact absurd a h1
    ·exact absurd a h2
    ·rw [b]; decide
    ·rw [b]; decide
    ·rw [b]; decide
   ·have hx:=zLr hk (hn x (by simp))
    rcases hc with ⟨_,b⟩ | ⟨_,b⟩ | ⟨a,_⟩ | ⟨_,b⟩ | ⟨_,b⟩
    ·rw [b]; decide
    ·rw [b]; decide
    ·have hy':=zLr a (hn y (by simp))
     exact absurd (by unfold zCt; rw [hx,hy']; simp) hgp
    ·rw [b]; decide
    ·rw [b]; decide
def flP:SyR -> List SyR -> List UInt8
 | _,[]=>[]
 | x,y :: r=>(if zCt (wS x) (wS y) = true then [32] else []) ++ (y.2.data.toList ++ flP y r)
theorem zNo:(one 32).data.toList = [32]:=rfl
theorem zHR:∀ (ss:List SyR) (x:SyR) (g:ByteArray),(spr (gwP g (x :: ss)) ByteArray.empty).data.toList = g.data.toList ++ (x.2.data.toList ++ flP x ss)
 | [],x,g=>by simp [gwP,spr,flP,zEH]
 | y :: r,x,g=>by
  rw [zBt]
  show (g ++ (x.2 ++ spr (gwP (zDD x y) (y :: r)) ByteArray.empty)).data.toList = _
  rw [zEH,zEH,zHR r y]
  simp only [flP]
  congr 3
  unfold zDD
  split
  ·exact zNo
  ·rfl
def lst:SyR -> List SyR -> SyR
 | x,[]=>x
 | _,y :: r=>lst y r
theorem zJn:∀ (r:List SyR) (x:SyR),(x :: r)[r.length]? = some (lst x r)
 | [],x=>rfl
 | y :: r,x=>by
  show (y :: r)[r.length]? = some (lst y r)
  exact zJn r y
theorem zIJ:∀ (l:List SyR) (x z:SyR),flP x (l ++ [z]) = flP x l ++ ((if zCt (wS (lst x l)) (wS z) = true then [32] else []) ++ z.2.data.toList)
 | [],x,z=>by
  show (if zCt (wS x) (wS z) = true then [32] else []) ++ (z.2.data.toList ++ []) = [] ++ ((if zCt (wS x) (wS z) = true then [32] else []) ++ z.2.data.toList)
  rw [List.append_nil,List.nil_append]
 | y :: l,x,z=>by
  show (if zCt (wS x) (wS y) = true then [32] else []) ++ (y.2.data.toList ++ flP y (l ++ [z])) = ((if zCt (wS x) (wS y) = true then [32] else []) ++ (y.2.data.toList ++ flP y l)) ++ ((if zCt (wS (lst y l)) (wS z) = true then [32] else []) ++ z.2.data.toList)
  rw [zIJ l y z]
  simp only [List.append_assoc]
theorem zGe (ss:List SyR):∀ k,k <= ss.length -> zAR (ss.map wS) k = (match ss.take k with | []=>[] | x :: r=>x.2.data.toList ++ flP x r)
 | 0,_=>by simp [zAR]
 | k + 1,hk=>by
  have hlt:k < ss.length:=by omega
  have ha:atW (ss.map wS) k = wS ss[k]:=by simp [atW,List.getD_eq_getElem?_getD,hlt]
  simp only [zAR]
  rw [zGe ss k (by omega),ha,List.take_add_one,List.getElem?_eq_getElem hlt]
  show _ ++ (_ ++ (ss[k]).2.data.toList) = _
  cases h:ss.take k with
  | nil=>
   have:k = 0:=by
    have:=congrArg List.length h
    rw [List.length_take] at this
    simp only [List.length_nil] at this
    omega
   subst this
   simp [flP]
  | cons x r=>
   have hk0:k ≠ 0:=fun e=>by subst e; simp at h
   have hrl:r.length = k - 1:=by
    have:=congrArg List.length h
    rw [List.length_take] at this
    simp only [List.length_cons] at this
    omega
   have hl:lst x r = ss[k - 1]:=by
    have e1:=zJn r x
    rw [<- h,hrl,List.getElem?_take_of_lt (by omega),List.getElem?_eq_getElem (by omega)] at e1
    injection e1 with e1
    exact e1.symm
   have hap:atW (ss.map wS) (k - 1) = wS ss[k - 1]:=by simp [atW,List.getD_eq_getElem?_getD,(show k - 1 < ss.length by omega)]
   rw [hap]
   simp only [Option.toList,List.cons_append]
   rw [zIJ,hl]
   simp [hk0]
theorem zMp {T:ET} (h:Sh T):(⟨(txT T).toArray⟩:ByteArray) = spr (gwP ByteArray.empty (ySy T)) ByteArray.empty:=by
 have hp:=zDa h
 have hl:txT T = (spr (gwP ByteArray.empty (ySy T)) ByteArray.empty).data.toList:=by
  unfold txT
  have e:(yT T).length = (ySy T).length:=by simp [yT]
  rw [e]
  unfold yT
  rw [zGe (ySy T) _ (Nat.le_refl _),List.take_length]
  cases hs:ySy T with
  | nil=>rw [hs] at hp; simp at hp
  | cons x r=>
   rw [zHR]
   rfl
 apply ByteArray.ext
 rw [hl]
theorem zKJ {ns:List OpR}:∀ (T:ET),zAN ns T -> ∀ q ∈ ySy T,1 <= q.1 /\ q.1 <= 7:=by
 intro T
 induction T with
 | nil=>intro h; exact h.elim
 | node b o t l r ihl ihr=>
  rintro ⟨_,h⟩ q hq
  simp only [ySy] at hq
  rcases h with ⟨hb,_,_⟩ | ⟨rfl,_,hl,_⟩ | ⟨hb,_,hl,_⟩ | ⟨rfl,_,hl,hr⟩
  ·rw [if_neg (by omega),if_neg (by omega),if_neg (by omega),if_neg (by omega)] at hq
   simp at hq; subst hq; simp only; omega
  ·simp only [if_true,List.mem_cons,List.mem_append,List.not_mem_nil,or_false] at hq
   rcases hq with rfl | hq | rfl
   ·exact ⟨by decide,by decide⟩
   ·exact ihl hl q hq
   ·exact ⟨by decide,by decide⟩
  ·rcases hb with rfl | rfl
   ·simp at hq
    rcases hq with rfl | hq
    ·exact ⟨by show 1 <= 3; omega,by show 3 <= 7; omega⟩
    ·exact ihl hl q hq
   ·simp at hq
    rcases hq with hq | rfl
    ·exact ihl hl q hq
    ·exact ⟨by show 1 <= 5; omega,by show 5 <= 7; omega⟩
  ·simp at hq
   rcases hq with hq | rfl | hq
   ·exact ihl hl q hq
   ·exact ⟨by show 1 <= 4; omega,by show 4 <= 7; omega⟩
   ·exact ihr hr q hq
def TxT:ET -> Prop
 | .nil=>True
 | .node b _ t l r=>Za (rt b t) /\ TxT l /\ TxT r
theorem zLs {xs:List zD} (htx:∀ i,i < xs.length -> Za (atN xs i)):∀ (T:ET) (s:Nat),zBc xs T s -> s + tsz T <= xs.length -> TxT T:=by
 intro T
 induction T with
 | nil=>intro s _ _; trivial
 | node b o t l r ihl ihr=>
  rintro s ⟨h1,h2,h3⟩ hz
  simp only [tsz] at hz
  have ht:=htx (s + tsz l + tsz r) (by omega)
  rw [h3] at ht
  exact ⟨ht,ihl s h1 (by omega),ihr _ h2 (by omega)⟩
theorem zNp:∀ (T:ET) (s:Nat),TxT T -> ∀ o ∈ nd T s,Za o:=by
 intro T
 induction T with
 | nil=>intro s _ o ho; simp [nd] at ho
 | node b o t l r ihl ihr=>
  rintro s ⟨h1,h2,h3⟩ x hx
  simp only [nd,List.mem_append,List.mem_singleton] at hx
  rcases hx with (hx | hx) | hx
  ·exact ihl _ h2 x hx
  ·exact ihr _ h3 x hx
  ·subst hx; exact h1
theorem zMq (ns:List OpR):∀ (T:ET) (l:Int),TxT T -> TxT (grT ns T l):=by
 intro T
 induction T with
 | nil=>intro l _; trivial
 | node b o t l r ihl ihr=>
  rintro least ⟨h1,h2,h3⟩
  simp only [grT]
  split
  ·exact ihl _ h2
  ·unfold clT
   split
   ·exact ⟨⟨by decide,Or.inr (Or.inr (Or.inl ⟨rfl,rfl⟩))⟩,⟨h1,ihl _ h2,ihr _ h3⟩,trivial⟩
   ·exact ⟨h1,ihl _ h2,ihr _ h3⟩
theorem zJo {xs:List zD} {i:Nat} (h:i < xs.length):atN xs i ∈ xs:=by
 have:atN xs i = xs[i]:=by unfold atN; simp [List.getD,h]
 rw [this]; exact List.getElem_mem h
theorem zLt {T:ET} (hs:Sh T) (hz:tsz T <= 20000) (ht:TxT T):zl (nd T 0):=by
 have hp:=hs.pos
 have hf:=Zu T 0 hs (Zy T)
 rw [Nat.zero_add] at hf
 refine ⟨by rw [zg]; exact hp,by rw [zg]; exact hz,by rw [zg]; exact hf,fun i hi=>zNp T 0 ht _ (zJo hi)⟩
theorem zLu {ns:List OpR}:∀ (T:ET) (s:Nat),zAN ns T -> ∀ o ∈ nd T s,zn o -> fnd ns o.t (o.k - 2) ≠ none:=by
 intro T
 induction T with
 | nil=>intro s h; exact h.elim
 | node b o t l r ihl ihr=>
  rintro s ⟨_,h⟩ x hx hop
  simp only [nd,List.mem_append,List.mem_singleton] at hx
  rcases hx with (hx | hx) | hx
  ·rcases h with ⟨_,rfl,_⟩ | ⟨_,_,hl,_⟩ | ⟨_,_,hl,_⟩ | ⟨_,_,hl,_⟩
   ·simp [nd] at hx
   ·exact ihl _ hl x hx hop
   ·exact ihl _ hl x hx hop
   ·exact ihl _ hl x hx hop
  ·rcases h with ⟨_,_,rfl⟩ | ⟨_,_,_,rfl⟩ | ⟨_,_,_,rfl⟩ | ⟨_,_,_,hr⟩
   ·simp [nd] at hx
   ·simp [nd] at hx
   ·simp [nd] at hx
   ·exact ihr _ hr x hx hop
  ·subst hx
   have hb:3 <= (b:Int) /\ (b:Int) <= 5:=hop
   have hk:knB ns (b,t) = true:=by
    rcases h with ⟨h,_⟩ | ⟨h,_⟩ | ⟨_,h,_⟩ | ⟨_,h,_⟩
    ·omega
    ·omega
    ·exact h
    ·exact h
   show fnd ns t ((b:Int) - 2) ≠ none
   intro e
   unfold knB at hk
   simp only [e] at hk
   cases hk
theorem zLv {ns:List OpR} {T:ET} (h:zAN ns T):zAL ns (nd T 0):=fun i hi hop=>zLu T 0 h _ (zJo hi) hop
theorem zKK {ns:List OpR} {T:ET} (hv:zK ns 0) (hg:zh ns T) (hz:tsz T <= 20000) (ht:TxT T):zBj ns (nd T 0) 0:=by
 have hf:=(zLn (ns:=ns) T 0 hg.well (Zy T)).2 hg
 refine Or.inr ⟨hv,Or.inr ⟨⟨zLt hg.well.sh hz ht,zLv hg.well⟩,Or.inr ⟨fun i hi=>hf i (Nat.zero_le _) (by rw [zg] at hi; omega),rfl⟩⟩⟩
def erT:ET -> ET
 | .nil=>.nil
 | .node b _ t l r=>if b = 6 then erT l else .node b 0 t (erT l) (erT r)
theorem zNq:∀ (T:ET),Sh T -> Sh (erT T):=by
 intro T
 induction T with
 | nil=>intro h; exact h
 | node b o t l r ihl ihr=>
  rintro ⟨_,h⟩
  simp only [erT]
  split
  ·rename_i e
   subst e
   rcases h with ⟨h,_⟩ | ⟨_,h,_⟩ | ⟨h,_⟩
   ·exact absurd h (by decide)
   ·exact ihl h
   ·exact absurd h (by decide)
  ·refine ⟨rfl,?_⟩
   rcases h with ⟨h,rfl,rfl⟩ | ⟨h,hl,rfl⟩ | ⟨h,hl,hr⟩
   ·exact Or.inl ⟨h,rfl,rfl⟩
   ·exact Or.inr (Or.inl ⟨h,ihl hl,rfl⟩)
   ·exact Or.inr (Or.inr ⟨h,ihl hl,ihr hr⟩)
theorem zMr (ns:List OpR):∀ (T:ET) (l:Int),erT (grT ns T l) = erT T:=by
 intro T
 induction T with
 | nil=>intro l; rfl
 | node b o t l r ihl ihr=>
  intro least
  simp only [grT]
  by_cases e:b = 6
  ·rw [if_pos e,ihl]
   simp only [erT,if_pos e]
  ·rw [if_neg e]
   unfold clT
   split
   ·show erT (BT.node 6 0 ByteArray.empty _ .nil) = _
    simp only [erT,if_true,if_neg e,ihl,ihr]
   ·simp only [erT,if_neg e,ihl,ihr]
theorem zNr (ns:List OpR):∀ (T:ET) (l:Int),hT (grT ns T l) <= 2 * hT (erT T):=by
 intro T
 induction T with
 | nil=>intro l; exact Nat.le_refl _
 | node b o t l r ihl ihr=>
  intro least
  simp only [grT]
  by_cases e:b = 6
  ·rw [if_pos e]
   simp only [erT,if_pos e]
   exact ihl _
  ·rw [if_neg e]
   have h1:=ihl (zR ns (rt b t) false)
   have h2:=ihr (zR ns (rt b t) true)
   unfold clT
   split
   ·simp only [erT,if_neg e,hT]
    omega
   ·simp only [erT,if_neg e,hT]
    omega
theorem zHS:∀ (T:ET),tsz (erT T) <= tsz T
 | .nil=>Nat.le_refl _
 | .node b o t l r=>by
  have h1:=zHS l
  have h2:=zHS r
  simp only [erT]
  split
  ·simp only [tsz]; omega
  ·simp only [tsz]; omega
theorem zMs {xs:List zD}:∀ (T:ET) (s:Nat),Sh T -> zBc xs T s -> er xs (s + tsz T) = er xs s ++ nd (erT T) (cnt xs s) /\ cnt xs (s + tsz T) = cnt xs s + tsz (erT T):=by
 intro T
 induction T with
 | nil=>intro s h; exact h.elim
 | node b o t l r ihl ihr=>
  rintro s ⟨_,h⟩ ⟨h1,h2,h3⟩
  have ez:s + tsz (.node b o t l r:ET) = (s + tsz l + tsz r) + 1:=by simp only [tsz]; omega
  have hk:(atN xs (s + tsz l + tsz r)).k = (b:Int):=by rw [h3]; rfl
  have hL:er xs (s + tsz l) = er xs s ++ nd (erT l) (cnt xs s) /\ cnt xs (s + tsz l) = cnt xs s + tsz (erT l):=by
   rcases h with ⟨_,rfl,_⟩ | ⟨_,hl,_⟩ | ⟨_,hl,_⟩
   ·exact ⟨by simp [tsz,erT,nd],by simp [tsz,erT]⟩
   ·exact ihl s hl h1
   ·exact ihl s hl h1
  have hR:er xs (s + tsz l + tsz r) = er xs (s + tsz l) ++ nd (erT r) (cnt xs (s + tsz l)) /\ cnt xs (s + tsz l + tsz r) = cnt xs (s + tsz l) + tsz (erT r):=by
   rcases h with ⟨_,_,rfl⟩ | ⟨_,_,rfl⟩ | ⟨_,_,hr⟩
   ·exact ⟨by simp [tsz,erT,nd],by simp [tsz,erT]⟩
   ·exact ⟨by simp [tsz,erT,nd],by simp [tsz,erT]⟩
   ·exact ihr _ hr h2
  rw [ez]
  by_cases e:b = 6
  ·subst e
   have hr0:r = .nil:=by
    rcases h with ⟨h,_⟩ | ⟨_,_,h⟩ | ⟨h,_⟩
    ·exact absurd h (by decide)
    ·exact h
    ·exact absurd h (by decide)
   subst hr0
   have e6:(atN xs (s + tsz l + tsz (BT.nil:ET))).k = 6:=hk
   rw [zDM e6]
   have ec:cnt xs (s + tsz l + tsz (BT.nil:ET) + 1) = cnt xs (s + tsz l + tsz (BT.nil:ET)):=by
    conv=>lhs; unfold cnt
    rw [if_pos e6]
   rw [ec]
   simp only [erT,if_true]
   exact ⟨hL.1,hL.2⟩
  ·have e6:(atN xs (s + tsz l + tsz r)).k ≠ 6:=by rw [hk]; omega
   rw [zAy e6]
   have ec:cnt xs (s + tsz l + tsz r + 1) = cnt xs (s + tsz l + tsz r) + 1:=by
    conv=>lhs; unfold cnt
    rw [if_neg e6]
   rw [ec,hR.1,hR.2,hL.1,hL.2,h3]
   simp only [erT,if_neg e,nd,tsz]
   refine ⟨?_,by omega⟩
   rw [List.append_assoc (er xs s),List.append_assoc (er xs s)]
   congr 2
   have hx:erN xs (tN b t l r s) = tN b t (erT l) (erT r) (cnt xs s):=by
    unfold erN tN mvd
    rcases h with ⟨hk0,rfl,rfl⟩ | ⟨hk1,hl,rfl⟩ | ⟨hk2,hl,hr⟩
    ·simp [hk0]
    ·have hp:=hl.pos
     have ea:(((s + tsz l:Nat):Int) - 1).toNat + 1 = s + tsz l:=by omega
     simp only [hk1,Nat.one_ne_zero,if_false]
     rw [ea,hL.2]
     simp
    ·have hp:=hl.pos
     have hq:=hr.pos
     have ea:(((s + tsz l:Nat):Int) - 1).toNat + 1 = s + tsz l:=by omega
     have eb:(((s + tsz l + tsz r:Nat):Int) - 1).toNat + 1 = s + tsz l + tsz r:=by omega
     simp only [hk2,if_true,show ¬ (2 = 0) by decide,if_false]
     rw [ea,eb,hR.2,hL.2]
   rw [hx]
theorem zNO {T:ET} (h:Sh T):er (nd T 0) (nd T 0).length = nd (erT T) 0:=by
 have:=(zMs (xs:=nd T 0) T 0 h (Zy T)).1
 rw [Nat.zero_add,<- zg T 0] at this
 simpa [er,cnt] using this
theorem zl.sizedN {xs:List zD} (h:zl xs):ZX xs:=fun i hi=>by have:=(h.2.2.2 i hi).1; unfold maxLen; omega
structure PrT (ns:List OpR) (us:List zD) (s:ByteArray) (T:ET) (gs:List zD):Prop where
 sh:Sh (erT T)
 z:tsz (erT T) <= 20000
 bare:∀ vs v,zDN us vs v -> vs = nd (erT T) 0
 pos:1 <= s.size
 par:∀ vs c p,s.size <= 20000 -> hT (erT T) <= 500 -> zDp ns s vs c p -> c = 0 /\ vs = gs
 ok:∀ c,zBj ns gs c -> c = 0
 l1:1 <= gs.length
 l:gs.length <= 20000
 sz:ZX gs
 er:∀ vs v,zDN gs vs v -> v = true /\ vs = nd (erT T) 0
theorem zOG {ns:List OpR} {us:List zD} {s:ByteArray} (h:zCo ns us s true):∃ T gs,PrT ns us s T gs:=by
 rcases h with ⟨hh,_,hs⟩ | ⟨_,h,_⟩
 case inr=>cases h
 obtain ⟨G,hG,hgd,_,hz,hgS,_⟩:=zDC hh
 obtain ⟨⟨hv,hord,hkn⟩,_⟩:=hh
 obtain ⟨T,hw,htz,hx⟩:=zEX hord hkn
 have hto:zCd us = T:=by rw [hx]; exact zCn hw.sh
 rw [hto] at hG hs
 rw [<- hG] at hs
 have hli:zBc us T 0:=by rw [hx]; exact Zy T
 have htx:TxT T:=zLs hord.2.2.2 T 0 hli (by omega)
 have htg:TxT G:=by rw [hG]; exact zMq ns T 0 htx
 have hog:zl (nd G 0):=zLt hgd.well.sh hz htg
 have hsv:ZA ns:=zAp (zCY hv).1
 have hwd:=zLo (ns:=ns) (xs:=nd G 0) hog.2.2.2 G 0 hgd.well (Zy G) (by rw [zg]; omega)
 have hspr:=zMp hgd.well.sh
 rw [hspr] at hs
 have hsp:=zFg hsv (ySy G) ByteArray.empty (fun i hi=>by simp at hi) (zJl _ _ _ (zIG G hgd.well 0)) (zKJ G hgd.well) hwd
 have hlx:=zH2 hsv (gwP ByteArray.empty (ySy G)) ByteArray.empty hsp
 rw [<- hs] at hlx
 have hlw:(nd G 0).length <= 20000:=hog.2.1
 have hz2:=zHS T
 refine ⟨T,nd G 0,zNq T hw.sh,by have:=hord.2.1; omega,fun vs v he=>?_,?_,fun vs c p h20 hh5 hp=>?_,fun c hc=>?_,hog.1,hog.2.1,hog.sizedN,fun vs v he=>?_⟩
 ·rcases he with ⟨_,_,rfl⟩ | ⟨hno,_,_⟩
  ·have:=zNO hw.sh
   rw [<- hx] at this
   exact this
  ·exact absurd hord hno
 ·have hp:=zDa hgd.well.sh
  cases hy:ySy G with
  | nil=>rw [hy] at hp; simp at hp
  | cons x r=>
   rw [hy] at hs
   have hx1:=zEu hsv (hwd x (by rw [hy]; simp))
   have e:=zHR r x ByteArray.empty
   rw [<- hs] at e
   have e2:=congrArg List.length e
   simp only [List.length_append] at e2
   have e3:s.data.toList.length = s.size:=by simp
   have e4:x.2.data.toList.length = x.2.size:=by simp
   omega
 ·have:=(zII hv h20 hgd.well hlx (zLq (ySy G) _ _) hp).1 hgd (by have:=zNr ns T 0; rw [<- hG] at this; omega)
  exact this
 ·exact hc.one (zKK hv hgd hz htg)
 ·rcases he with ⟨_,hv,rfl⟩ | ⟨hno,_,_⟩
  ·refine ⟨hv,?_⟩
   rw [zNO hgd.well.sh,hG,zMr]
  ·exact absurd hog hno
end Go.Proofs.YtfboipappaonhaaGreat
namespace Go.Proofs.YtfboipappaonhaaGreat
set_option maxHeartbeats 16000000
set_option maxRecDepth 100000
open Go.RowKit
def atI (xs:List Int) (i:Nat):Int:=xs.getD i 0
def za (l:List Int):List Value:=l.map fun n=>.int .i64 n
theorem zDE (l:List Int):(za l).length = l.length:=by simp [za]
theorem Zm (l l':List Int):za (l ++ l') = za l ++ za l':=by simp [za]
theorem zAA (l:List Int):∀ u ∈ za l,u.oneCell' = true:=by
 intro u hu
 simp only [za,List.mem_map] at hu
 obtain ⟨b,_,rfl⟩:=hu
 rfl
theorem zGf (l:List Int) (i:Nat) (h:i < l.length):(za l)[i]? = some (.int .i64 (atI l i)):=by
 simp [za,atI,h]
def zHT (w:World) (g:Nat) (xs:List Int) (k:Nat):Prop:=
 g < w.heap.size /\ w.there g 0 xs.length /\ ∀ i,i < k -> w.cell? ⟨g,i,none⟩ = some (.int .i64 (atI xs i))
theorem zDr {w:World} {base g cap:Nat} {e:TypeId} {zs:List Int} (h:w.ownsRow base e 1 (.slice (some ⟨g,0,none⟩) zs.length cap) zs.length (za zs)):base <= g /\ zHT w g zs zs.length:=by
 have hlt:=h.lt g rfl
 refine ⟨hlt.1,hlt.2,fun j hj=>⟨?_,h.frozenAt _⟩,fun i hi=>?_⟩
 ·rw [h.cellAt (0 + j) (by omega)]
  have:0 + j < (za zs).length:=by rw [zDE]; omega
  rw [List.getElem?_eq_getElem this]
  rfl
 ·exact (h.cellAt i (by omega)).trans (zGf zs i hi)
def zNs (w:World) (n:Nat) (a:Option Addr) (us:List Int):Prop:=(us.length = 0 /\ a = none) \/ ∃ g,a = some ⟨g,0,none⟩ /\ n <= g /\ zHT w g us us.length
def zJp (xs:List OpR):Prop:=∀ j,j < xs.length -> ((atO xs j).k = 1 \/ (atO xs j).k = 2 \/ (atO xs j).k = 3)
theorem zLw {xs:List OpR} (h:Z1 xs xs.length):zJp xs:=fun j hj=>by
 obtain ⟨_,h⟩:=zAJ _ _ _ _ (h j hj)
 omega
theorem zKL {xs:List OpR} {t:ByteArray} (h:zJp xs):opT xs t ↔ ((∃ j,j < xs.length /\ (atO xs j).s = t /\ (atO xs j).k = 1) \/ (∃ j,j < xs.length /\ (atO xs j).s = t /\ (atO xs j).k = 2) \/ (∃ j,j < xs.length /\ (atO xs j).s = t /\ (atO xs j).k = 3)):=by
 constructor
 ·rintro ⟨j,hj,e⟩
  rcases h j hj with k | k | k
  ·exact Or.inl ⟨j,hj,e,k⟩
  ·exact Or.inr (Or.inl ⟨j,hj,e,k⟩)
  ·exact Or.inr (Or.inr ⟨j,hj,e,k⟩)
 ·rintro (⟨j,hj,e,_⟩ | ⟨j,hj,e,_⟩ | ⟨j,hj,e,_⟩)
  ·exact ⟨j,hj,e⟩
  ·exact ⟨j,hj,e⟩
  ·exact ⟨j,hj,e⟩
end Go.Proofs.YtfboipappaonhaaGreat
