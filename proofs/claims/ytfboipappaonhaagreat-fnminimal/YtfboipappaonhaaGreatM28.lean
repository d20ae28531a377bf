import Derived.Test.YtfboipappaonhaaGreatM27
namespace Go.Proofs.YtfboipappaonhaaGreat
set_option linter.unusedSimpArgs false
set_option linter.unusedVariables false
set_option maxHeartbeats 16000000
set_option maxRecDepth 100000
open Go.RowKit
theorem zFZ {ns:List OpR} {xs:List zD} {T:ET} {s:Nat} (h:Sh T) (hl:zBR xs T s):ZI ns (atN xs (s + tsz T - 1)) = lvT ns T:=by
 cases T with
 | nil=>exact h.elim
 | node b o t l r=>
  obtain ⟨_,_,h3⟩:=hl
  have e:s + tsz (.node b o t l r) - 1 = s + tsz l + tsz r:=by simp only [tsz]; omega
  rw [e,h3]
  exact zGw ns _ b t rfl rfl
theorem zCy {ns:List OpR} {b:Nat} {t:ByteArray} {j:Nat} (h:fnd ns t ((b:Int) - 2) = some j) (c:Bool):sH ns (b,t) c = zAe ns j c:=by
 unfold sH zT rt
 simp only
 rw [h]
theorem zIA {ns:List OpR} {xs:List zD}:∀ (T:ET) (s:Nat),ZS ns T -> zBR xs T s -> ((∀ i,s <= i -> i < s + tsz T -> zAx ns xs i) ↔ zl ns T):=by
 intro T
 induction T with
 | nil=>intro s h; exact h.elim
 | node b o t l r ihl ihr=>
  intro s hw hl
  have hsh:=hw.sh
  obtain ⟨h1,h2,h3⟩:=hl
  obtain ⟨rfl,hw⟩:=hw
  have hz:tsz (.node b 0 t l r) = tsz l + tsz r + 1:=rfl
  have split:(∀ i,s <= i -> i < s + tsz (.node b 0 t l r) -> zAx ns xs i) ↔ (∀ i,s <= i -> i < s + tsz l -> zAx ns xs i) /\ (∀ i,s + tsz l <= i -> i < s + tsz l + tsz r -> zAx ns xs i) /\ zAx ns xs (s + tsz l + tsz r):=by
   rw [hz]
   refine ⟨fun h=>⟨fun i a c=>h i a (by omega),fun i a c=>h i (by omega) (by omega),h _ (by omega) (by omega)⟩,fun ⟨h1,h2,h3⟩ i a c=>?_⟩
   by_cases e1:i < s + tsz l
   ·exact h1 i a e1
   ·by_cases e2:i < s + tsz l + tsz r
    ·exact h2 i (by omega) e2
    ·have:i = s + tsz l + tsz r:=by omega
     rw [this]; exact h3
  rw [split]
  have root:zAx ns xs (s + tsz l + tsz r) ↔ ∀ j,zq (tN b t l r s) -> fnd ns t ((b:Int) - 2) = some j -> zAe ns j false <= ZI ns (atN xs (tN b t l r s).a.toNat) /\ (zR (b:Int) = 1 \/ zAe ns j true <= ZI ns (atN xs (tN b t l r s).b.toNat)):=by
   unfold zAx
   rw [h3]
   exact Iff.rfl
  rcases hw with ⟨hb,rfl,rfl⟩ | ⟨rfl,rfl,wl,rfl⟩ | ⟨hb,hk,wl,rfl⟩ | ⟨rfl,hk,wl,wr⟩
  ·refine ⟨fun _=>⟨rfl,Or.inl ⟨hb,rfl,rfl⟩⟩,fun _=>⟨fun i a c=>by simp [tsz] at c; omega,fun i a c=>by simp [tsz] at c; omega,root.2 fun j hop=>?_⟩⟩
   exfalso
   unfold zq tN at hop
   simp only at hop
   omega
  ·rw [ihl s wl h1]
   refine ⟨fun h=>⟨rfl,Or.inr (Or.inl ⟨rfl,rfl,h.1,rfl⟩)⟩,fun h=>⟨?_,fun i a c=>by simp [tsz] at c; omega,root.2 fun j hop=>?_⟩⟩
   ·obtain ⟨_,⟨h | h,_⟩ | ⟨_,_,h,_⟩ | ⟨h | h,_⟩ | ⟨h,_⟩⟩:=h
    ·cases h
    ·cases h
    ·exact h
    ·cases h
    ·cases h
    ·cases h
   ·exfalso
    unfold zq tN at hop
    simp only at hop
    omega
  ·rw [ihl s wl h1]
   obtain ⟨j,hj,hf,_,_⟩:=zDe hk
   simp only at hf
   have hp:=wl.sh.pos
   have hlev:=zFZ (ns:=ns) wl.sh h1
   have ka:zR (b:Int) = 1:=by rcases hb with rfl | rfl <;> decide
   have ea:(tN b t l .nil s).a.toNat = s + tsz l - 1:=by
    unfold tN
    simp only
    rw [if_neg (by rw [ka]; decide)]
    omega
   have hop:zq (tN b t l .nil s):=by
    unfold zq tN
    simp only
    rcases hb with rfl | rfl <;> decide
   constructor
   ·rintro ⟨g,_,hr⟩
    have:=(root.1 hr) j hop hf
    rw [ea,hlev,<- zCy hf] at this
    exact ⟨rfl,Or.inr (Or.inr (Or.inl ⟨hb,hk,g,rfl,this.1⟩))⟩
   ·rintro ⟨_,⟨h | h,_⟩ | ⟨h,_⟩ | ⟨_,_,g,_,hh⟩ | ⟨h,_⟩⟩
    ·omega
    ·omega
    ·omega
    ·refine ⟨g,fun i a c=>by simp [tsz] at c; omega,root.2 fun j' _ hf'=>?_⟩
     rw [hf] at hf'
     injection hf' with hf'
     subst hf'
     rw [ea,hlev,<- zCy hf]
     exact ⟨hh,Or.inl ka⟩
    ·omega
  ·rw [ihl s wl h1,ihr (s + tsz l) wr h2]
   obtain ⟨j,hj,hf,_,_⟩:=zDe hk
   simp only at hf
   have hp:=wl.sh.pos
   have hq:=wr.sh.pos
   have hlev:=zFZ (ns:=ns) wl.sh h1
   have hlev2:=zFZ (ns:=ns) wr.sh h2
   have ea:(tN 4 t l r s).a.toNat = s + tsz l - 1:=by
    unfold tN
    simp only
    rw [if_neg (by decide)]
    omega
   have eb:(tN 4 t l r s).b.toNat = s + tsz l + tsz r - 1:=by
    unfold tN
    simp only
    rw [if_pos (by decide)]
    omega
   have hop:zq (tN 4 t l r s):=by
    unfold zq tN
    simp only
    decide
   constructor
   ·rintro ⟨g,g',hr⟩
    have:=(root.1 hr) j hop hf
    rw [ea,eb,hlev,hlev2,<- zCy hf,<- zCy hf] at this
    exact ⟨rfl,Or.inr (Or.inr (Or.inr ⟨rfl,hk,g,g',this.1,this.2.resolve_left (by decide)⟩))⟩
   ·rintro ⟨_,⟨h | h,_⟩ | ⟨h,_⟩ | ⟨h | h,_⟩ | ⟨_,_,g,g',hh,hh'⟩⟩
    ·omega
    ·omega
    ·omega
    ·omega
    ·omega
    ·refine ⟨g,g',root.2 fun j' _ hf'=>?_⟩
     rw [hf] at hf'
     injection hf' with hf'
     subst hf'
     rw [ea,eb,hlev,hlev2,<- zCy hf,<- zCy hf]
     exact ⟨hh,Or.inr hh'⟩
theorem zLY {ns:List OpR} {xs:List zD} (htx:∀ i,i < xs.length -> Zk (atN xs i)):∀ (T:ET) (s:Nat),ZS ns T -> zBR xs T s -> s + tsz T <= xs.length -> ∀ q ∈ ySy T,WdK ns q.2 (tkK q.1):=by
 have hop:∀ {b:Nat} {t:ByteArray},knB ns (b,t) = true -> opT ns t:=fun {b t} hk=>by
  obtain ⟨j,hj,_,_,h3⟩:=zDe hk
  have:=zJX hk
  simp only at h3
  rw [h3] at this
  exact ⟨j,hj,this⟩
 intro T
 induction T with
 | nil=>intro s h; exact h.elim
 | node b o t l r ihl ihr=>
  rintro s hw ⟨h1,h2,h3⟩ hz
  simp only [tsz] at hz
  have ht:=htx (s + tsz l + tsz r) (by omega)
  rw [h3] at ht
  obtain ⟨rfl,⟨hb,rfl,rfl⟩ | ⟨rfl,rfl,wl,rfl⟩ | ⟨hb,hk,wl,rfl⟩ | ⟨rfl,hk,wl,wr⟩⟩:=hw
  ·rw [zCf hb]
   intro q hq
   simp only [List.mem_singleton] at hq
   subst hq
   rcases ht.2 with ⟨e,h⟩ | ⟨e,h⟩ | ⟨e,_⟩ | ⟨e,_⟩
   ·have:b = 1:=by simp only [tN] at e; omega
    subst this
    exact Or.inl ⟨rfl,h⟩
   ·have:b = 2:=by simp only [tN] at e; omega
    subst this
    exact Or.inr (Or.inl ⟨rfl,h⟩)
   ·simp only [tN] at e; omega
   ·simp only [tN] at e; omega
  ·rw [zDh]
   intro q hq
   simp only [List.mem_cons,List.mem_append,List.not_mem_nil,or_false] at hq
   rcases hq with rfl | hq | rfl
   ·exact Or.inr (Or.inr (Or.inr (Or.inl ⟨rfl,rfl⟩)))
   ·exact ihl s wl h1 (by omega) q hq
   ·exact Or.inr (Or.inr (Or.inr (Or.inr ⟨rfl,rfl⟩)))
  ·rcases hb with rfl | rfl
   ·rw [zCt]
    intro q hq
    rcases List.mem_cons.1 hq with rfl | hq
    ·exact Or.inr (Or.inr (Or.inl ⟨rfl,hop hk⟩))
    ·exact ihl s wl h1 (by omega) q hq
   ·rw [zCg]
    intro q hq
    rcases List.mem_append.1 hq with hq | hq
    ·exact ihl s wl h1 (by omega) q hq
    ·simp only [List.mem_singleton] at hq
     subst hq
     exact Or.inr (Or.inr (Or.inl ⟨rfl,hop hk⟩))
  ·rw [zEr]
   intro q hq
   rcases List.mem_append.1 hq with hq | hq
   ·exact ihl s wl h1 (by omega) q hq
   ·rcases List.mem_cons.1 hq with rfl | hq
    ·exact Or.inr (Or.inr (Or.inl ⟨rfl,hop hk⟩))
    ·exact ihr _ wr h2 (by omega) q hq
def gwF (g:ByteArray):List SyR -> List GwR
 | []=>[]
 | x :: r=>⟨g,x.2,tkK x.1⟩ :: gwF (one 32) r
theorem zNP:Bl (one 32):=fun i hi=>by
 have:i < 1:=hi
 obtain rfl:i = 0:=by omega
 decide
theorem zGV {ns:List OpR}:∀ (ss:List SyR) (g:ByteArray),Bl g -> (∀ q ∈ ss,WdK ns q.2 (tkK q.1)) -> zG1 ns (gwF g ss) ByteArray.empty
 | [],g,_,_=>fun i hi=>by simp at hi
 | x :: r,g,hg,h=>by
  refine ⟨hg,h x (by simp),?_,zGV r (one 32) zNP (fun q hq=>h q (by simp [hq]))⟩
  cases r with
  | nil=>intro hz; simp [gwF,spr] at hz
  | cons y r=>
   intro _
   have:bt (spr (gwF (one 32) (y :: r)) ByteArray.empty) 0 = 32:=by
    show bt (one 32 ++ _) 0 = 32
    rw [zDd (by rw [zK5]; omega),zNA]
   rw [this]
   exact ⟨fun _=>by decide,fun _=>by decide⟩
def yTx (ss:List SyR):ByteArray:=spr (gwF ByteArray.empty ss) ByteArray.empty
theorem zJj:∀ (ss:List SyR) (g:ByteArray),(gwF g ss).length = ss.length
 | [],_=>rfl
 | x :: r,g=>by simp [gwF,zJj r]
theorem zLZ:∀ (ss:List SyR) (g:ByteArray) (i:Nat) (h:i < ss.length),∃ g',(gwF g ss)[i]? = some ⟨g',ss[i].2,tkK ss[i].1⟩
 | [],_,i,h=>by simp at h
 | x :: r,g,0,h=>⟨g,rfl⟩
 | x :: r,g,i + 1,h=>by
  obtain ⟨g',e⟩:=zLZ r (one 32) i (by simpa using h)
  exact ⟨g',by simpa [gwF] using e⟩
theorem zMS (ss:List SyR) (g e:ByteArray):zHH ss ((gwF g ss).map zK6 ++ [⟨7,e,⟨#[]⟩⟩]):=by
 have hl:((gwF g ss).map zK6).length = ss.length:=by rw [List.length_map,zJj]
 refine ⟨by rw [List.length_append,hl]; rfl,?_,fun i h=>?_⟩
 ·unfold atT
  rw [List.getD_eq_getElem?_getD,List.getElem?_append_right (by omega),hl,Nat.sub_self]
  rfl
 ·obtain ⟨g',e'⟩:=zLZ ss g i h
  have:atT ((gwF g ss).map zK6 ++ [⟨7,e,⟨#[]⟩⟩]) i = ⟨(tkK ss[i].1:Int),g',ss[i].2⟩:=by
   unfold atT
   rw [List.getD_eq_getElem?_getD,List.getElem?_append_left (by omega),List.getElem?_map,e']
   rfl
  rw [this]
  exact ⟨rfl,rfl⟩
end Go.Proofs.YtfboipappaonhaaGreat
namespace Go.Proofs.YtfboipappaonhaaGreat
set_option linter.unusedSimpArgs false
set_option linter.unusedVariables false
set_option maxHeartbeats 16000000
set_option maxRecDepth 100000
open Go.RowKit
open Go.Deep (BT)
def TxT:ET -> Prop
 | .nil=>True
 | .node b _ t l r=>Zk (rt b t) /\ TxT l /\ TxT r
theorem zLa {xs:List zD} (htx:∀ i,i < xs.length -> Zk (atN xs i)):∀ (T:ET) (s:Nat),zBR xs T s -> s + tsz T <= xs.length -> TxT T:=by
 intro T
 induction T with
 | nil=>intro s _ _; trivial
 | node b o t l r ihl ihr=>
  rintro s ⟨h1,h2,h3⟩ hz
  simp only [tsz] at hz
  have ht:=htx (s + tsz l + tsz r) (by omega)
  rw [h3] at ht
  exact ⟨ht,ihl s h1 (by omega),ihr _ h2 (by omega)⟩
theorem zNQ:∀ (T:ET) (s:Nat),TxT T -> ∀ o ∈ nd T s,Zk o:=by
 intro T
 induction T with
 | nil=>intro s _ o ho; simp [nd] at ho
 | node b o t l r ihl ihr=>
  rintro s ⟨h1,h2,h3⟩ x hx
  simp only [nd,List.mem_append,List.mem_singleton] at hx
  rcases hx with (hx | hx) | hx
  ·exact ihl _ h2 x hx
  ·exact ihr _ h3 x hx
  ·subst hx; exact h1
theorem zMT (ns:List OpR):∀ (T:ET) (l:Int),TxT T -> TxT (grT ns T l):=by
 intro T
 induction T with
 | nil=>intro l _; trivial
 | node b o t l r ihl ihr=>
  rintro least ⟨h1,h2,h3⟩
  simp only [grT]
  split
  ·exact ihl _ h2
  ·unfold clT
   split
   ·exact ⟨⟨by decide,Or.inr (Or.inr (Or.inl ⟨rfl,rfl⟩))⟩,⟨h1,ihl _ h2,ihr _ h3⟩,trivial⟩
   ·exact ⟨h1,ihl _ h2,ihr _ h3⟩
theorem zJk {xs:List zD} {i:Nat} (h:i < xs.length):atN xs i ∈ xs:=by
 have:atN xs i = xs[i]:=by unfold atN; simp [List.getD,h]
 rw [this]; exact List.getElem_mem h
theorem zIw {T:ET} (hs:Sh T) (hz:tsz T <= 20000) (ht:TxT T):zu (nd T 0):=by
 have hp:=hs.pos
 have hf:=Z6 T 0 hs (Zu T)
 rw [Nat.zero_add] at hf
 refine ⟨by rw [zj]; exact hp,by rw [zj]; exact hz,by rw [zj]; exact hf,fun i hi=>zNQ T 0 ht _ (zJk hi)⟩
theorem zLb {ns:List OpR}:∀ (T:ET) (s:Nat),ZS ns T -> ∀ o ∈ nd T s,zq o -> fnd ns o.t (o.k - 2) ≠ none:=by
 intro T
 induction T with
 | nil=>intro s h; exact h.elim
 | node b o t l r ihl ihr=>
  rintro s ⟨_,h⟩ x hx hop
  simp only [nd,List.mem_append,List.mem_singleton] at hx
  rcases hx with (hx | hx) | hx
  ·rcases h with ⟨_,rfl,_⟩ | ⟨_,_,hl,_⟩ | ⟨_,_,hl,_⟩ | ⟨_,_,hl,_⟩
   ·simp [nd] at hx
   ·exact ihl _ hl x hx hop
   ·exact ihl _ hl x hx hop
   ·exact ihl _ hl x hx hop
  ·rcases h with ⟨_,_,rfl⟩ | ⟨_,_,_,rfl⟩ | ⟨_,_,_,rfl⟩ | ⟨_,_,_,hr⟩
   ·simp [nd] at hx
   ·simp [nd] at hx
   ·simp [nd] at hx
   ·exact ihr _ hr x hx hop
  ·subst hx
   have hb:3 <= (b:Int) /\ (b:Int) <= 5:=hop
   have hk:knB ns (b,t) = true:=by
    rcases h with ⟨h,_⟩ | ⟨h,_⟩ | ⟨_,h,_⟩ | ⟨_,h,_⟩
    ·omega
    ·omega
    ·exact h
    ·exact h
   show fnd ns t ((b:Int) - 2) ≠ none
   intro e
   unfold knB at hk
   simp only [e] at hk
   cases hk
theorem zIB {ns:List OpR} {T:ET} (h:ZS ns T):zAY ns (nd T 0):=fun i hi hop=>zLb T 0 h _ (zJk hi) hop
theorem zKK {ns:List OpR} {T:ET} (hv:zO ns 0) (hg:zl ns T) (hz:tsz T <= 20000) (ht:TxT T):zAy ns (nd T 0) 0:=by
 have hf:=(zIA (ns:=ns) T 0 hg.well (Zu T)).2 hg
 refine Or.inr ⟨hv,Or.inr ⟨⟨zIw hg.well.sh hz ht,zIB hg.well⟩,Or.inr ⟨fun i hi=>hf i (Nat.zero_le _) (by rw [zj] at hi; omega),rfl⟩⟩⟩
def erT:ET -> ET
 | .nil=>.nil
 | .node b _ t l r=>if b = 6 then erT l else .node b 0 t (erT l) (erT r)
theorem zHI:∀ (T:ET),Sh T -> Sh (erT T):=by
 intro T
 induction T with
 | nil=>intro h; exact h
 | node b o t l r ihl ihr=>
  rintro ⟨_,h⟩
  simp only [erT]
  split
  ·rename_i e
   subst e
   rcases h with ⟨h,_⟩ | ⟨_,h,_⟩ | ⟨h,_⟩
   ·exact absurd h (by decide)
   ·exact ihl h
   ·exact absurd h (by decide)
  ·refine ⟨rfl,?_⟩
   rcases h with ⟨h,rfl,rfl⟩ | ⟨h,hl,rfl⟩ | ⟨h,hl,hr⟩
   ·exact Or.inl ⟨h,rfl,rfl⟩
   ·exact Or.inr (Or.inl ⟨h,ihl hl,rfl⟩)
   ·exact Or.inr (Or.inr ⟨h,ihl hl,ihr hr⟩)
theorem zMU (ns:List OpR):∀ (T:ET) (l:Int),erT (grT ns T l) = erT T:=by
 intro T
 induction T with
 | nil=>intro l; rfl
 | node b o t l r ihl ihr=>
  intro least
  simp only [grT]
  by_cases e:b = 6
  ·rw [if_pos e,ihl]
   simp only [erT,if_pos e]
  ·rw [if_neg e]
   unfold clT
   split
   ·show erT (BT.node 6 0 ByteArray.empty _ .nil) = _
    simp only [erT,if_true,if_neg e,ihl,ihr]
   ·simp only [erT,if_neg e,ihl,ihr]
theorem zHJ:∀ (T:ET),tsz (erT T) <= tsz T
 | .nil=>Nat.le_refl _
 | .node b o t l r=>by
  have h1:=zHJ l
  have h2:=zHJ r
  simp only [erT]
  split
  ·simp only [tsz]; omega
  ·simp only [tsz]; omega
theorem zMV {xs:List zD}:∀ (T:ET) (s:Nat),Sh T -> zBR xs T s -> er xs (s + tsz T) = er xs s ++ nd (erT T) (cnt xs s) /\ cnt xs (s + tsz T) = cnt xs s + tsz (erT T):=by
 intro T
 induction T with
 | nil=>intro s h; exact h.elim
 | node b o t l r ihl ihr=>
  rintro s ⟨_,h⟩ ⟨h1,h2,h3⟩
  have ez:s + tsz (.node b o t l r:ET) = (s + tsz l + tsz r) + 1:=by simp only [tsz]; omega
  have hk:(atN xs (s + tsz l + tsz r)).k = (b:Int):=by rw [h3]; rfl
  have hL:er xs (s + tsz l) = er xs s ++ nd (erT l) (cnt xs s) /\ cnt xs (s + tsz l) = cnt xs s + tsz (erT l):=by
   rcases h with ⟨_,rfl,_⟩ | ⟨_,hl,_⟩ | ⟨_,hl,_⟩
   ·exact ⟨by simp [tsz,erT,nd],by simp [tsz,erT]⟩
   ·exact ihl s hl h1
   ·exact ihl s hl h1
  have hR:er xs (s + tsz l + tsz r) = er xs (s + tsz l) ++ nd (erT r) (cnt xs (s + tsz l)) /\ cnt xs (s + tsz l + tsz r) = cnt xs (s + tsz l) + tsz (erT r):=by
   rcases h with ⟨_,_,rfl⟩ | ⟨_,_,rfl⟩ | ⟨_,_,hr⟩
   ·exact ⟨by simp [tsz,erT,nd],by simp [tsz,erT]⟩
   ·exact ⟨by simp [tsz,erT,nd],by simp [tsz,erT]⟩
   ·exact ihr _ hr h2
  rw [ez]
  by_cases e:b = 6
  ·subst e
   have hr0:r = .nil:=by
    rcases h with ⟨h,_⟩ | ⟨_,_,h⟩ | ⟨h,_⟩
    ·exact absurd h (by decide)
    ·exact h
    ·exact absurd h (by decide)
   subst hr0
   have e6:(atN xs (s + tsz l + tsz (BT.nil:ET))).k = 6:=hk
   rw [zE2 e6]
   have ec:cnt xs (s + tsz l + tsz (BT.nil:ET) + 1) = cnt xs (s + tsz l + tsz (BT.nil:ET)):=by
    conv=>lhs; unfold cnt
    rw [if_pos e6]
   rw [ec]
   simp only [erT,if_true]
   exact ⟨hL.1,hL.2⟩
  ·have e6:(atN xs (s + tsz l + tsz r)).k ≠ 6:=by rw [hk]; omega
   rw [zB2 e6]
   have ec:cnt xs (s + tsz l + tsz r + 1) = cnt xs (s + tsz l + tsz r) + 1:=by
    conv=>lhs; unfold cnt
    rw [if_neg e6]
   rw [ec,hR.1,hR.2,hL.1,hL.2,h3]
   simp only [erT,if_neg e,nd,tsz]
   refine ⟨?_,by omega⟩
   rw [List.append_assoc (er xs s),List.append_assoc (er xs s)]
   congr 2
   have hx:erN xs (tN b t l r s) = tN b t (erT l) (erT r) (cnt xs s):=by
    unfold erN tN mvd
    rcases h with ⟨hk0,rfl,rfl⟩ | ⟨hk1,hl,rfl⟩ | ⟨hk2,hl,hr⟩
    ·simp [hk0]
    ·have hp:=hl.pos
     have ea:(((s + tsz l:Nat):Int) - 1).toNat + 1 = s + tsz l:=by omega
     simp only [hk1,Nat.one_ne_zero,if_false]
     rw [ea,hL.2]
     simp
    ·have hp:=hl.pos
     have hq:=hr.pos
     have ea:(((s + tsz l:Nat):Int) - 1).toNat + 1 = s + tsz l:=by omega
     have eb:(((s + tsz l + tsz r:Nat):Int) - 1).toNat + 1 = s + tsz l + tsz r:=by omega
     simp only [hk2,if_true,show ¬ (2 = 0) by decide,if_false]
     rw [ea,eb,hR.2,hL.2]
   rw [hx]
theorem zLc {T:ET} (h:Sh T):er (nd T 0) (nd T 0).length = nd (erT T) 0:=by
 have:=(zMV (xs:=nd T 0) T 0 h (Zu T)).1
 rw [Nat.zero_add,<- zj T 0] at this
 simpa [er,cnt] using this
def gc:ET -> Nat
 | .nil=>0
 | .node b _ _ l r=>if b = 6 then gc l + 1 else gc l + gc r
def rmT (stay:Nat -> Bool):ET -> Nat -> ET
 | .nil,_=>.nil
 | .node b o t l r,k=>if b = 6 then (if stay (k + gc l) = true then .node 6 0 t (rmT stay l k) .nil else rmT stay l k) else .node b 0 t (rmT stay l k) (rmT stay r (k + gc l))
theorem zMW (stay:Nat -> Bool):∀ (T:ET) (k:Nat),erT (rmT stay T k) = erT T:=by
 intro T
 induction T with
 | nil=>intro k; rfl
 | node b o t l r ihl ihr=>
  intro k
  simp only [rmT]
  by_cases e:b = 6
  ·rw [if_pos e]
   split
   ·simp only [erT,if_true,if_pos e,ihl]
   ·simp only [erT,if_pos e,ihl]
  ·rw [if_neg e]
   simp only [erT,if_neg e,ihl,ihr]
theorem zLd {ns:List OpR} (stay:Nat -> Bool):∀ (T:ET) (k:Nat),ZS ns T -> ZS ns (rmT stay T k):=by
 intro T
 induction T with
 | nil=>intro k h; exact h
 | node b o t l r ihl ihr=>
  rintro k ⟨h0,h⟩
  simp only [rmT]
  rcases h with ⟨h,rfl,rfl⟩ | ⟨h,ht,hl,rfl⟩ | ⟨h,hk,hl,rfl⟩ | ⟨h,hk,hl,hr⟩
  ·rw [if_neg (by omega)]
   exact ⟨rfl,Or.inl ⟨h,rfl,rfl⟩⟩
  ·rw [if_pos h]
   split
   ·exact ⟨rfl,Or.inr (Or.inl ⟨rfl,ht,ihl _ hl,rfl⟩)⟩
   ·exact ihl _ hl
  ·rw [if_neg (by omega)]
   exact ⟨rfl,Or.inr (Or.inr (Or.inl ⟨h,hk,ihl _ hl,rfl⟩))⟩
  ·rw [if_neg (by omega)]
   exact ⟨rfl,Or.inr (Or.inr (Or.inr ⟨h,hk,ihl _ hl,ihr _ hr⟩))⟩
theorem zMX (stay:Nat -> Bool):∀ (T:ET) (k:Nat),TxT T -> TxT (rmT stay T k):=by
 intro T
 induction T with
 | nil=>intro k h; exact h
 | node b o t l r ihl ihr=>
  rintro k ⟨h1,h2,h3⟩
  simp only [rmT]
  split
  ·rename_i e
   subst e
   split
   ·exact ⟨h1,ihl _ h2,trivial⟩
   ·exact ihl _ h2
  ·exact ⟨h1,ihl _ h2,ihr _ h3⟩
theorem zMY (stay:Nat -> Bool):∀ (T:ET) (k:Nat),tsz (rmT stay T k) <= tsz T:=by
 intro T
 induction T with
 | nil=>intro k; exact Nat.le_refl _
 | node b o t l r ihl ihr=>
  intro k
  have h1:=ihl k
  have h2:=ihr (k + gc l)
  simp only [rmT]
  split
  ·split
   ·simp only [tsz]; omega
   ·simp only [tsz]; omega
  ·simp only [tsz]; omega
theorem zNR {ns:List OpR} (stay:Nat -> Bool):∀ (T:ET) (least:Int) (k:Nat),ZS ns T -> (∃ i,k <= i /\ i < k + gc (grT ns T least) /\ stay i = false) -> ¬ (zl ns (rmT stay (grT ns T least) k) /\ least <= lvT ns (rmT stay (grT ns T least) k)):=by
 intro T
 induction T with
 | nil=>intro least k h; exact h.elim
 | node b o t l r ihl ihr=>
  rintro least k ⟨h0,h⟩ hx
  simp only [grT] at hx ⊢
  by_cases e:b = 6
  ·rw [if_pos e] at hx ⊢
   subst e
   rcases h with ⟨h | h,_⟩ | ⟨_,_,hl,_⟩ | ⟨h | h,_⟩ | ⟨h,_⟩
   ·omega
   ·omega
   ·exact ihl _ _ hl hx
   ·omega
   ·omega
   ·omega
  ·rw [if_neg e] at hx ⊢
   obtain ⟨GL,hGL⟩:∃ GL,GL = grT ns l (zT ns (rt b t) false):=⟨_,rfl⟩
   obtain ⟨GR,hGR⟩:∃ GR,GR = grT ns r (zT ns (rt b t) true):=⟨_,rfl⟩
   rw [<- hGL,<- hGR] at hx ⊢
   have inner:(∃ i,k <= i /\ i < k + gc GL + gc GR /\ stay i = false) -> ¬ zl ns (.node b 0 t (rmT stay GL k) (rmT stay GR (k + gc GL))):=by
    rintro ⟨i,h1,h2,h3⟩ ⟨_,hg⟩
    by_cases hi:i < k + gc GL
    ·have hl:ZS ns l:=by
      rcases h with ⟨_,rfl,rfl⟩ | ⟨h,_⟩ | ⟨_,_,hl,_⟩ | ⟨_,_,hl,_⟩
      ·rw [hGL] at hi; simp [grT,gc] at hi; omega
      ·exact absurd h e
      ·exact hl
      ·exact hl
     have:=ihl (zT ns (rt b t) false) k hl ⟨i,h1,by rw [<- hGL]; exact hi,h3⟩
     rw [<- hGL] at this
     rcases hg with ⟨_,hn,_⟩ | ⟨hb,_⟩ | ⟨_,_,g,_,hh⟩ | ⟨_,_,g,_,hh,_⟩
     ·rcases h with ⟨_,rfl,rfl⟩ | ⟨h,_⟩ | ⟨h,_⟩ | ⟨h,_⟩
      ·exact absurd hl (fun x=>x)
      ·exact absurd h e
      ·omega
      ·omega
     ·exact e hb
     ·exact this ⟨g,hh⟩
     ·exact this ⟨g,hh⟩
    ·have hr:ZS ns r:=by
      rcases h with ⟨_,rfl,rfl⟩ | ⟨h,_⟩ | ⟨_,_,_,rfl⟩ | ⟨_,_,_,hr⟩
      ·rw [hGR] at h2; simp [grT,gc] at h2; omega
      ·exact absurd h e
      ·rw [hGR] at h2; simp [grT,gc] at h2; omega
      ·exact hr
     have:=ihr (zT ns (rt b t) true) (k + gc GL) hr ⟨i,by omega,by rw [<- hGR]; omega,h3⟩
     rw [<- hGR] at this
     rcases h with ⟨_,rfl,rfl⟩ | ⟨h,_⟩ | ⟨_,_,_,rfl⟩ | ⟨hb4,_,_,_⟩
     ·exact hr
     ·exact absurd h e
     ·exact hr
     ·rcases hg with ⟨hb,_⟩ | ⟨hb,_⟩ | ⟨hb,_⟩ | ⟨_,_,_,g,_,hh⟩
      ·omega
      ·omega
      ·omega
      ·exact this ⟨g,hh⟩
   unfold clT at hx ⊢
   by_cases hlv:ZI ns (rt b t) < least
   ·rw [if_pos hlv] at hx ⊢
    simp only [gc,if_true,if_neg e] at hx
    obtain ⟨i,h1,h2,h3⟩:=hx
    simp only [rmT,if_true,if_neg e,gc]
    by_cases hi:i < k + gc GL + gc GR
    ·have hb:=inner ⟨i,h1,hi,h3⟩
     split
     ·rintro ⟨⟨_,hg⟩,_⟩
      rcases hg with ⟨h | h,_⟩ | ⟨_,_,g,_⟩ | ⟨h | h,_⟩ | ⟨h,_⟩
      ·omega
      ·omega
      ·exact hb g
      ·omega
      ·omega
      ·omega
     ·exact fun x=>hb x.1
    ·have hi2:i = k + (gc GL + gc GR):=by omega
     rw [<- hi2,h3]
     rw [if_neg (by decide)]
     rintro ⟨_,hle⟩
     simp only [lvT] at hle
     have:sLv ns (b,t) = ZI ns (rt b t):=rfl
     omega
   ·rw [if_neg hlv] at hx ⊢
    simp only [gc,if_neg e] at hx
    obtain ⟨i,h1,h2,h3⟩:=hx
    have hb:=inner ⟨i,h1,by omega,h3⟩
    simp only [rmT,if_neg e]
    exact fun x=>hb x.1
end Go.Proofs.YtfboipappaonhaaGreat
