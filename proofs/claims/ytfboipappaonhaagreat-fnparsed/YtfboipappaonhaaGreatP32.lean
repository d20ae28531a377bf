import Derived.Deep.QuietTactic
import Derived.BigQuiet
import Derived.Test.YtfboipappaonhaaGreatP00
import Derived.Test.YtfboipappaonhaaGreatP01
import Derived.Test.YtfboipappaonhaaGreatP14
import Derived.Test.YtfboipappaonhaaGreatP27
import Derived.Test.YtfboipappaonhaaGreatP31
namespace Go.Proofs.YtfboipappaonhaaGreat
set_option linter.unusedSimpArgs false
set_option linter.unusedVariables false
set_option maxHeartbeats 16000000
set_option maxRecDepth 100000
open Go.RowKit
open Go.Deep (BT)
def gwL:List SyR -> List ByteArray -> List GwR
 | x :: r,g :: gs=>⟨g,x.2,tkK x.1⟩ :: gwL r gs
 | _,_=>[]
def zHM (x y:SyR):Bool:=(decide (tkK x.1 = 1 \/ tkK x.1 = 2) && decide (tkK y.1 = 1 \/ tkK y.1 = 2)) || (decide (tkK x.1 = 3) && decide (tkK y.1 = 3))
def zJC:List SyR -> List ByteArray -> Prop
 | x :: y :: r,_ :: h :: gs=>(h.size = 0 -> zHM x y = false) /\ zJC (y :: r) (h :: gs)
 | _,_=>True
theorem zKd:∀ (ss:List SyR) (gs:List ByteArray),gs.length = ss.length -> (gwL ss gs).length = ss.length
 | [],_,_=>by simp [gwL]
 | x :: r,[],h=>by simp at h
 | x :: r,g :: gs,h=>by simp only [gwL,List.length_cons]; rw [zKd r gs (by simpa using h)]
theorem zMn:∀ (ss:List SyR) (gs:List ByteArray),gs.length = ss.length -> ∀ (i:Nat) (h:i < ss.length),∃ g',(gwL ss gs)[i]? = some ⟨g',ss[i].2,tkK ss[i].1⟩
 | [],_,_,i,h=>by simp at h
 | x :: r,[],hl,_,_=>by simp at hl
 | x :: r,g :: gs,hl,0,h=>⟨g,rfl⟩
 | x :: r,g :: gs,hl,i + 1,h=>by
  obtain ⟨g',e⟩:=zMn r gs (by simpa using hl) i (by simpa using h)
  exact ⟨g',by simpa [gwL] using e⟩
theorem zMo (ss:List SyR) (gs:List ByteArray) (hgl:gs.length = ss.length) (e:ByteArray):zH6 ss ((gwL ss gs).map zL4 ++ [⟨7,e,⟨#[]⟩⟩]):=by
 have hl:((gwL ss gs).map zL4).length = ss.length:=by rw [List.length_map,zKd ss gs hgl]
 refine ⟨by rw [List.length_append,hl]; rfl,?_,fun i h=>?_⟩
 ·unfold atT
  rw [List.getD_eq_getElem?_getD,List.getElem?_append_right (by omega),hl,Nat.sub_self]
  rfl
 ·obtain ⟨g',e'⟩:=zMn ss gs hgl i h
  have:atT ((gwL ss gs).map zL4 ++ [⟨7,e,⟨#[]⟩⟩]) i = ⟨(tkK ss[i].1:Int),g',ss[i].2⟩:=by
   unfold atT
   rw [List.getD_eq_getElem?_getD,List.getElem?_append_left (by omega),List.getElem?_map,e']
   rfl
  rw [this]
  exact ⟨rfl,rfl⟩
theorem zHN {k:Nat} {g R:ByteArray} (hg:Bl g) (h0:g.size ≠ 0):Sep k (g ++ R):=by
 intro _
 have h1:cls (bt (g ++ R) 0) = 1:=by rw [zCb (by omega)]; exact hg 0 (by omega)
 rw [h1]
 exact ⟨fun _=>⟨by decide,by decide⟩,fun _=>by decide⟩
theorem zLK {g:ByteArray} (h:g.size = 0) (R:ByteArray):g ++ R = R:=by
 have:g = ByteArray.empty:=ByteArray.size_eq_zero_iff.1 h
 rw [this]
 apply ByteArray.ext
 simp [ByteArray.data_append]
theorem zGL {ns:List OpR} (hv:zi ns) (e:ByteArray) (he:Bl e):∀ (ss:List SyR) (gs:List ByteArray),gs.length = ss.length -> (∀ g ∈ gs,Bl g) -> zJC ss gs -> (∀ q ∈ ss,WdK ns q.2 (tkK q.1)) -> zHm ns (gwL ss gs) e
 | [],_,_,_,_,_=>by simp only [gwL]; exact he
 | x :: r,[],hl,_,_,_=>by simp at hl
 | [x],g :: gs,hl,hb,_,h=>by
  refine ⟨hb g (by simp),h x (by simp),?_,?_⟩
  ·have:spr (gwL [] gs) e = e:=by simp [gwL,spr]
   rw [this]
   by_cases h0:e.size = 0
   ·intro hz; omega
   ·have:=zHN (k:=tkK x.1) (R:=ByteArray.empty) he h0
    have e1:e ++ ByteArray.empty = e:=by apply ByteArray.ext; simp [ByteArray.data_append]
    rw [e1] at this
    exact this
  ·simp only [gwL]; exact he
 | x :: y :: r,[g],hl,_,_,_=>by simp at hl
 | x :: y :: r,g :: k :: gs,hl,hb,ha,h=>by
  refine ⟨hb g (by simp),h x (by simp),?_,zGL hv e he (y :: r) (k :: gs) (by simpa using hl) (fun q hq=>hb q (by simp [List.mem_cons.1 hq])) ha.2 (fun q hq=>h q (by simp [List.mem_cons.1 hq]))⟩
  show Sep (tkK x.1) (k ++ (y.2 ++ spr (gwL r gs) e))
  have hy:=h y (by simp)
  by_cases h0:k.size = 0
  ·rw [zLK h0]
   have hm:=ha.1 h0
   intro _
   rw [zCb (zEH hv hy)]
   have hc:=zID hv hy
   simp only [zHM,Bool.or_eq_false_iff,Bool.and_eq_false_iff,decide_eq_false_iff_not] at hm
   refine ⟨fun hk=>?_,fun hk=>?_⟩
   ·rcases hc with ⟨a,_⟩ | ⟨a,_⟩ | ⟨_,b⟩ | ⟨_,b⟩ | ⟨_,b⟩
    ·rcases hm.1 with h1 | h1
     ·exact absurd hk h1
     ·exact absurd (Or.inl a) h1
    ·rcases hm.1 with h1 | h1
     ·exact absurd hk h1
     ·exact absurd (Or.inr a) h1
    ·rw [b]; decide
    ·rw [b]; decide
    ·rw [b]; decide
   ·rcases hc with ⟨_,b⟩ | ⟨_,b⟩ | ⟨a,_⟩ | ⟨_,b⟩ | ⟨_,b⟩
    ·rw [b]; decide
    ·rw [b]; decide
    ·rcases hm.2 with h1 | h1
     ·exact absurd hk h1
     ·exact absurd a h1
    ·rw [b]; decide
    ·rw [b]; decide
  ·exact zHN (hb k (by simp)) h0
theorem zJ1 {ns:List OpR} (hv:zM ns 0) {T:ET} (hg:zX ns T) (htx:TxT T) (hz:tsz T <= 20000) (hh:hT T <= 1000) (gs:List ByteArray) (e:ByteArray) (hgl:gs.length = (ySy T).length) (hb:∀ g ∈ gs,Bl g) (he:Bl e) (ha:zJC (ySy T) gs) {vs:List zD} {c p:Int}
  (hs:(spr (gwL (ySy T) gs) e).size <= 20000) (h:zAi ns (spr (gwL (ySy T) gs) e) vs c p):c = 0 /\ vs = nd T 0:=by
 have hog:ZL (nd T 0):=zIE hg.well.sh hz htx
 have hsv:zi ns:=Z6 (zBX hv).1
 have hwd:=zJA (ns:=ns) (xs:=nd T 0) hog.2.2.2 T 0 hg.well (zAb T) (by rw [ze]; omega)
 have hlx:=zIr hsv (gwL (ySy T) gs) e (zGL hsv e he _ _ hgl hb ha hwd)
 exact (zI3 hv hs hg.well hlx (zMo _ _ hgl _) h).1 hg hh
end Go.Proofs.YtfboipappaonhaaGreat
namespace Go.Proofs.YtfboipappaonhaaGreat
set_option linter.unusedSimpArgs false
set_option linter.unusedVariables false
set_option maxHeartbeats 16000000
set_option maxRecDepth 100000
open Go.RowKit
theorem zIF (k:Nat):Bl (zBf k):=by
 have h0:Bl (⟨#[]⟩:ByteArray):=fun i hi=>by
  have:i < 0:=hi
  omega
 have h1:Bl (⟨#[32]⟩:ByteArray):=fun i hi=>by
  have:i < 1:=hi
  obtain rfl:i = 0:=by omega
  decide
 have h2:Bl (⟨#[10,9]⟩:ByteArray):=fun i hi=>by
  have:i < 2:=hi
  have:i = 0 \/ i = 1:=by omega
  rcases this with rfl | rfl <;> decide
 have h3:Bl (⟨#[32,32]⟩:ByteArray):=fun i hi=>by
  have:i < 2:=hi
  have:i = 0 \/ i = 1:=by omega
  rcases this with rfl | rfl <;> decide
 unfold zBf
 split
 ·exact h1
 ·split
  ·exact h2
  ·split
   ·exact h3
   ·exact h0
theorem zKe (ws:List ByteArray) (i k:Nat):Bl (zBn ws i k):=by
 unfold zBn
 split
 ·exact fun j hj=>by
   have:j < 1:=hj
   obtain rfl:j = 0:=by omega
   decide
 ·exact zIF k
theorem zOa {a b:ByteArray} (ha:Bl a) (hb:Bl b):Bl (a ++ b):=by
 intro i hi
 rw [zA8] at hi
 by_cases h:i < a.size
 ·rw [zCb h]; exact ha i h
 ·have e:i = a.size + (i - a.size):=by omega
  rw [e,zBw]
  exact hb _ (by omega)
theorem zNp {ns:List OpR} (hv:zi ns) {x y:SyR} (hx:WdK ns x.2 (tkK x.1)) (hy:WdK ns y.2 (tkK y.1)) (h:zHM x y = true):zC8 x.2 y.2 = true:=by
 have px:=zEH hv hx
 have py:=zEH hv hy
 have cx:=zID hv hx
 have cy:=zID hv hy
 have gx:x.2.data.getD 0 0 = bt x.2 0:=by unfold bt; simp [Array.getD_eq_getD_getElem?]
 have gy:y.2.data.getD 0 0 = bt y.2 0:=by unfold bt; simp [Array.getD_eq_getD_getElem?]
 unfold zC8
 rw [if_neg (by omega),gx,gy,zEg,zEg]
 simp only [zHM,Bool.or_eq_true,Bool.and_eq_true,decide_eq_true_eq] at h
 have nbr:∀ (t:ByteArray),(cls (bt t 0) = 2 \/ cls (bt t 0) = 3) -> t ≠ ⟨#[40]⟩ /\ t ≠ ⟨#[41]⟩:=fun t ht=>⟨fun e=>by subst e; revert ht; decide,fun e=>by subst e; revert ht; decide⟩
 rcases h with ⟨h1,h2⟩ | ⟨h1,h2⟩
 ·have d1:cls (bt x.2 0) = 2 \/ cls (bt x.2 0) = 3:=by
   rcases cx with ⟨_,b⟩ | ⟨_,b⟩ | ⟨a,_⟩ | ⟨a,_⟩ | ⟨a,_⟩
   ·exact Or.inl b
   ·exact Or.inr b
   ·omega
   ·omega
   ·omega
  have d2:cls (bt y.2 0) = 2 \/ cls (bt y.2 0) = 3:=by
   rcases cy with ⟨_,b⟩ | ⟨_,b⟩ | ⟨a,_⟩ | ⟨a,_⟩ | ⟨a,_⟩
   ·exact Or.inl b
   ·exact Or.inr b
   ·omega
   ·omega
   ·omega
  rw [if_neg (by simp only [decide_eq_true_eq]; omega),decide_eq_true_eq]
  exact ⟨(nbr _ d1).1,(nbr _ d1).2,(nbr _ d2).1,(nbr _ d2).2⟩
 ·have d1:cls (bt x.2 0) = 6:=by
   rcases cx with ⟨a,_⟩ | ⟨a,_⟩ | ⟨_,b⟩ | ⟨a,_⟩ | ⟨a,_⟩
   ·omega
   ·omega
   ·exact b
   ·omega
   ·omega
  have d2:cls (bt y.2 0) = 6:=by
   rcases cy with ⟨a,_⟩ | ⟨a,_⟩ | ⟨_,b⟩ | ⟨a,_⟩ | ⟨a,_⟩
   ·omega
   ·omega
   ·exact b
   ·omega
   ·omega
  rw [if_pos (Or.inl (by simp [d1]))]
  simp [d1,d2]
theorem zMp (a:ByteArray):a ++ ByteArray.empty = a:=by apply ByteArray.ext; simp [ByteArray.data_append]
theorem zFe:∀ (xs:List GwR) (e f:ByteArray),spr xs e ++ f = spr xs (e ++ f)
 | [],e,f=>rfl
 | x :: r,e,f=>by
  show (x.g ++ (x.w ++ spr r e)) ++ f = x.g ++ (x.w ++ spr r (e ++ f))
  rw [zDH,zDH,zFe r e f]
theorem zJD:∀ (xs:List GwR) (x:GwR) (e:ByteArray),spr (xs ++ [x]) e = spr xs (x.g ++ (x.w ++ e))
 | [],x,e=>rfl
 | y :: r,x,e=>by
  show y.g ++ (y.w ++ spr (r ++ [x]) e) = y.g ++ (y.w ++ spr r (x.g ++ (x.w ++ e)))
  rw [zJD r x e]
theorem zJE:∀ (ss:List SyR) (gs:List ByteArray) (x:SyR) (g:ByteArray),gs.length = ss.length -> gwL (ss ++ [x]) (gs ++ [g]) = gwL ss gs ++ [⟨g,x.2,tkK x.1⟩]
 | [],[],x,g,_=>rfl
 | [],_ :: _,_,_,h=>by simp at h
 | _ :: _,[],_,_,h=>by simp at h
 | y :: r,k :: gs,x,g,h=>by
  simp only [List.cons_append,gwL]
  rw [zJE r gs x g (by simpa using h)]
def gO (bs:List UInt8) (ws:List ByteArray) (p i:Nat):ByteArray:=if i = 0 then zBf (nxt bs p) ++ zBn ws 0 (nxt bs (adv bs p)) else zBn ws i (nxt bs (Zm bs ws p i).2)
def gsO (bs:List UInt8) (ws:List ByteArray) (p:Nat):Nat -> List ByteArray
 | 0=>[]
 | i + 1=>gsO bs ws p i ++ [gO bs ws p i]
theorem zEW (bs:List UInt8) (ws:List ByteArray) (p:Nat):∀ i,(gsO bs ws p i).length = i
 | 0=>rfl
 | i + 1=>by simp [gsO,zEW bs ws p i]
theorem zMq (bs:List UInt8) (ws:List ByteArray) (p:Nat):∀ i,∀ g ∈ gsO bs ws p i,Bl g
 | 0,g,h=>by simp [gsO] at h
 | i + 1,g,h=>by
  rcases List.mem_append.1 h with h | h
  ·exact zMq bs ws p i g h
  ·simp at h
   subst h
   unfold gO
   split
   ·exact zOa (zIF _) (zKe _ _ _)
   ·exact zKe _ _ _
theorem zFG (bs:List UInt8) (ss:List SyR) (p:Nat):∀ i,1 <= i -> i <= ss.length -> (Zm bs (ss.map (·.2)) p i).1 = spr (gwL (ss.take i) (gsO bs (ss.map (·.2)) p i)) ByteArray.empty
 | 0,h,_=>by omega
 | i + 1,_,hi=>by
  have hlt:i < ss.length:=by omega
  have hw:atB (ss.map (·.2)) i = (ss[i]).2:=by simp [atB,List.getD_eq_getElem?_getD,hlt]
  have ht:ss.take (i + 1) = ss.take i ++ [ss[i]]:=by rw [List.take_add_one,List.getElem?_eq_getElem hlt]; rfl
  have hl:(gsO bs (ss.map (·.2)) p i).length = (ss.take i).length:=by rw [zEW,List.length_take]; omega
  rw [ht]
  show _ = spr (gwL (ss.take i ++ [ss[i]]) (gsO bs (ss.map (·.2)) p i ++ [gO bs (ss.map (·.2)) p i])) ByteArray.empty
  rw [zJE _ _ _ _ hl,zJD]
  show (Zm bs (ss.map (·.2)) p i).1 ++ zBn (ss.map (·.2)) i (nxt bs (Zm bs (ss.map (·.2)) p i).2) ++ atB (ss.map (·.2)) i = _
  rw [hw]
  by_cases e:i = 0
  ·subst e
   simp only [List.take_zero,gwL,spr,gO,if_true,Zm,zMp]
  ·have ih:=zFG bs ss p i (by omega) (by omega)
   rw [ih,zFe,zFe]
   congr 1
   show ByteArray.empty ++ zBn (ss.map (·.2)) i (nxt bs (Zm bs (ss.map (·.2)) p i).2) ++ (ss[i]).2 = gO bs (ss.map (·.2)) p i ++ ((ss[i]).2 ++ ByteArray.empty)
   unfold gO
   rw [if_neg e,zMp]
   congr 1
theorem zKf:∀ (ss:List SyR) (gs:List ByteArray),gs.length = ss.length -> (∀ i (h:i + 1 < ss.length) (h':i + 1 < gs.length),(gs[i + 1]).size = 0 -> zHM (ss[i]) (ss[i + 1]) = false) -> zJC ss gs
 | [],_,_,_=>by simp [zJC]
 | [x],gs,_,_=>by
  cases gs with
  | nil=>simp [zJC]
  | cons g r=>cases r <;> simp [zJC]
 | x :: y :: r,[],h,_=>by simp at h
 | x :: y :: r,[g],h,_=>by simp at h
 | x :: y :: r,g :: k :: gs,h,hm=>by
  refine ⟨fun h0=>hm 0 (by simp) (by simp) h0,zKf (y :: r) (k :: gs) (by simpa using h) (fun i hi hi' h0=>?_)⟩
  have:=hm (i + 1) (by simpa using hi) (by simpa using hi') (by simpa using h0)
  simpa using this
theorem zMr (bs:List UInt8) (ws:List ByteArray) (p:Nat):∀ n i,i < n -> (gsO bs ws p n)[i]? = some (gO bs ws p i)
 | 0,i,h=>by omega
 | n + 1,i,h=>by
  have hl:=zEW bs ws p n
  by_cases e:i < n
  ·simp only [gsO]
   rw [List.getElem?_append_left (by omega)]
   exact zMr bs ws p n i e
  ·have:i = n:=by omega
   subst this
   simp only [gsO]
   rw [List.getElem?_append_right (by omega),hl,Nat.sub_self]
   rfl
theorem zJ2 {ns:List OpR} (hv:zi ns) (bs:List UInt8) (ss:List SyR) (p:Nat) (hw:∀ q ∈ ss,WdK ns q.2 (tkK q.1)):zJC ss (gsO bs (ss.map (·.2)) p ss.length):=by
 refine zKf ss _ (zEW _ _ _ _) (fun i hi hi' h0=>?_)
 have e:=zMr bs (ss.map (·.2)) p ss.length (i + 1) hi
 rw [List.getElem?_eq_getElem hi'] at e
 injection e with e
 rw [e] at h0
 unfold gO at h0
 rw [if_neg (by omega)] at h0
 unfold zBn at h0
 cases hm:zHM (ss[i]) (ss[i + 1]) with
 | false=>rfl
 | true=>
  exfalso
  have hme:=zNp hv (hw _ (List.getElem_mem (by omega))) (hw _ (List.getElem_mem hi)) hm
  have a1:atB (ss.map (·.2)) (i + 1 - 1) = (ss[i]).2:=by simp [atB,List.getD_eq_getElem?_getD,(show i < ss.length by omega)]
  have a2:atB (ss.map (·.2)) (i + 1) = (ss[i + 1]).2:=by simp [atB,List.getD_eq_getElem?_getD,hi]
  rw [a1,a2] at h0
  split at h0
  ·exact absurd h0 (by decide)
  ·rename_i hn
   exact hn ⟨by omega,h0,hme⟩
theorem zJF {ns:List OpR} (hv:zM ns 0) {T:ET} (hg:zX ns T) (htx:TxT T) (hz:tsz T <= 20000) (hh:hT T <= 1000) (bs:List UInt8) (p:Nat) {s:ByteArray} (hs:s = (Zm bs ((ySy T).map (·.2)) p (ySy T).length).1 ++ zBf (nxt bs (Zm bs ((ySy T).map (·.2)) p (ySy T).length).2)) {vs:List zD} {c p':Int}
  (h20:s.size <= 20000) (h:zAi ns s vs c p'):c = 0 /\ vs = nd T 0:=by
 have hp:=zKV hg.well.sh
 have hog:ZL (nd T 0):=zIE hg.well.sh hz htx
 have hsv:zi ns:=Z6 (zBX hv).1
 have hwd:=zJA (ns:=ns) (xs:=nd T 0) hog.2.2.2 T 0 hg.well (zAb T) (by rw [ze]; omega)
 have ht:=zFG bs (ySy T) p (ySy T).length hp (Nat.le_refl _)
 rw [List.take_length] at ht
 rw [ht,zFe] at hs
 have e1:∀ g:ByteArray,ByteArray.empty ++ g = g:=fun g=>by apply ByteArray.ext; simp [ByteArray.data_append]
 rw [e1] at hs
 subst hs
 exact zJ1 hv hg htx hz hh _ _ (zEW _ _ _ _) (zMq _ _ _ _) (zIF _) (zJ2 hsv bs (ySy T) p hwd) h20 h
def zKg (a b:zD):Bool:=(a.k == b.k) && (a.t.toList == b.t.toList) && (a.a == b.a) && (a.b == b.b)
theorem zHO (a b:zD):zKg a b = true ↔ a = b:=by
 unfold zKg
 obtain ⟨k,t,x,y⟩:=a
 obtain ⟨k',t',x',y'⟩:=b
 simp only [Bool.and_eq_true,beq_iff_eq]
 constructor
 ·rintro ⟨⟨⟨rfl,h2⟩,rfl⟩,rfl⟩
  rw [zAK h2]
 ·intro h
  injection h with h1 h2 h3 h4
  exact ⟨⟨⟨h1,by rw [h2]⟩,h3⟩,h4⟩
theorem zLL:Tryz.prog.underlying 81 = some (.struct (Tryz.prog.fieldsOf 81)):=by kernel_rfl
theorem zNq:Tryz.prog.stoodInHeld 81 = false:=by kernel_rfl
theorem zMs:Tryz.prog.eqGuardType Tryz.prog.depth 81 = false:=by kernel_rfl
theorem zJG (a b:zD) (w:World) :
  (binOp .neq 81 (.agg #[.int .i64 a.k,.string a.t,.int .i64 a.a,.int .i64 a.b]) (.agg #[.int .i64 b.k,.string b.t,.int .i64 b.a,.int .i64 b.b])).run Tryz.prog w = .ok (.bool (!zKg a b)) w:=by
 rw [run_neq_struct,run_equalIn_agg _ _ _ _ _ zLL zNq]
 unfold Program.fieldsOf zKg
 rw [Tryz.underlying81]
 cases h1:(a.k == b.k) <;> cases h2:(a.t.toList == b.t.toList) <;> cases h3:(a.a == b.a) <;> cases h4:(a.b == b.b) <;> simp [go_sem,h1,h2,h3,h4]
theorem zLM {xs ys:List zD} (hl:xs.length = ys.length) (h:∀ j,j < xs.length -> atN xs j = atN ys j):xs = ys:=
 List.ext_getElem hl fun i h1 h2=>by
  have:=h i h1
  simpa [atN,List.getD_eq_getElem?_getD,h1,h2] using this
theorem zGM (a a':Option Addr) (cap cap':Nat) (xs ys:List zD) (w:World) (hm:xs.length <= 1048576) (hm':ys.length <= 1048576) (h:zJZ w a xs) (h':zJZ w a' ys) :
  Calls Tryz.prog 16 #[.agg #[.slice a xs.length cap],.agg #[.slice a' ys.length cap']] w fun e w'=>(∃ v,e = .returned (.bool v) /\ (v = true ↔ xs = ys)) /\ Below w.heap.size w w':=by
 obtain ⟨W,hW⟩:∃ W,W = (w.alloc (.cells #[.slice a xs.length cap] 28)).alloc (.cells #[.slice a' ys.length cap'] 28):=⟨_,rfl⟩
 have hb:Below w.heap.size w W:=by rw [hW]; exact (zC _ _).alloc (by simp) _
 have HA:=zB (h.below hb)
 have HA':=zB (h'.below hb)
 have HB:=zB hb
 have HW:=zB hW
 have hzW:W.heap.size = w.heap.size + 2:=by rw [hW]; simp
 have t0:W.cell? ⟨w.heap.size,0,none⟩ = some (.slice a xs.length cap):=by rw [hW]; exact ((zC (w.alloc _) _).cell (p:=⟨w.heap.size,0,none⟩) (by simp)).trans (by simp [go_sem])
 have t1:W.cell? ⟨w.heap.size + 1,0,none⟩ = some (.slice a' ys.length cap'):=by rw [hW]; simp [go_sem]
 clear h h' hb hW
 by_cases hl:xs.length = ys.length
 ·have hlI:((xs.length:Int) != (ys.length:Int)) = false:=by simp [hl]
  have HL:=zB hl
  clear hl
  go_enter Tryz.func16,Tryz.ntmps16
  go_wp2_with fail
  rw [<- zA HW]
  go_loopw [5] (fun i wr=>∃ n:Nat,n <= xs.length /\ i = .int .i64 (n:Int) /\ Hid (∀ j,j < n -> atN xs j = atN ys j) /\ Below W.heap.size W wr) (fun i _=>xs.length - (intOf i).toNat)
  case atStart=>exact ⟨0,Nat.zero_le _,rfl,zB (fun j h=>by omega),Below.refl _ _⟩
  case round=>
   obtain ⟨n,hn,rfl,hno,hbel⟩:=hrel
   have d0:=(hbel.cell (p:=⟨w.heap.size,0,none⟩) (show w.heap.size < _ by omega)).trans t0
   have d1:=(hbel.cell (p:=⟨w.heap.size + 1,0,none⟩) (show w.heap.size + 1 < _ by omega)).trans t1
   by_cases hlt:n < xs.length
   ·have hltI:(n:Int) < (xs.length:Int):=by omega
    have hlt2:n < ys.length:=by rw [<- zA HL]; exact hlt
    have hltJ:(n:Int) < (ys.length:Int):=by omega
    rcases zA HA with h | ⟨b,off,rfl,ho,hB⟩
    ·omega
    rcases zA HA' with h | ⟨b',off',rfl,ho',hB'⟩
    ·omega
    obtain ⟨a0,a1,a2,a3⟩:=(ho n hlt).below hbel hB
    obtain ⟨b0,b1,b2,b3⟩:=(ho' n hlt2).below hbel hB'
    have hq:=fun V=>zJG (atN xs n) (atN ys n) V
    have hg:=zMs
    have HBE:=zB hbel
    clear ho ho' hbel hlI
    go_wp2_with fail
    go_quiet (fail)
    clear hq hg a0 a1 a2 a3 b0 b1 b2 b3
    cases hsm:zKg (atN xs n) (atN ys n)
    ·have HN:=zB (show xs ≠ ys from fun e=>by
      have:=(zHO (atN xs n) (atN ys n)).2 (by rw [e])
      rw [hsm] at this
      cases this)
     clear hsm
     go_wp2_with fail
     go_ret
     exact ⟨⟨false,rfl,fun e=>(by cases e),fun e=>absurd e (zA HN)⟩,(zA HB).trans ((below_drewN (zA HBE) _).mono (zA HB).size)⟩
    ·have HN:=zB (show ∀ j,j < n + 1 -> atN xs j = atN ys j from fun j hj=>by
      by_cases e:j = n
      ·rw [e]; exact (zHO _ _).1 hsm
      ·exact (zA hno) j (by omega))
     clear hsm
     go_wp2_with fail
     exact ⟨⟨n + 1,by omega,by go_num,HN,below_drewN (zA HBE) _⟩,by simp [intOf]; omega⟩
   ·have HE:=zB (show xs = ys from zLM (zA HL) (fun j hj=>(zA hno) j (by omega)))
    have HBE:=zB ((zA HB).trans (hbel.mono (zA HB).size))
    clear hbel hlI
    go_wp2_with fail
    go_ret
    exact ⟨⟨true,rfl,fun _=>zA HE,fun _=>rfl⟩,zA HBE⟩
 ·have hlI:((xs.length:Int) != (ys.length:Int)) = true:=by simp; omega
  have HL:=zB hl
  clear hl
  go_enter Tryz.func16,Tryz.ntmps16
  go_wp2_with fail
  go_ret
  exact ⟨⟨false,rfl,fun e=>(by cases e),fun e=>absurd (by rw [e]) (zA HL)⟩,by rw [<- zA HW]; exact zA HB⟩
end Go.Proofs.YtfboipappaonhaaGreat
namespace Go.Proofs.YtfboipappaonhaaGreat
set_option maxHeartbeats 16000000
set_option maxRecDepth 100000
open Go.RowKit
def atI (xs:List Int) (i:Nat):Int:=xs.getD i 0
def zT (l:List Int):List Value:=l.map fun n=>.int .i64 n
theorem zDy (l:List Int):(zT l).length = l.length:=by simp [zT]
theorem Zz (l l':List Int):zT (l ++ l') = zT l ++ zT l':=by simp [zT]
theorem zAX (l:List Int):∀ u ∈ zT l,u.oneCell' = true:=by
 intro u hu
 simp only [zT,List.mem_map] at hu
 obtain ⟨b,_,rfl⟩:=hu
 rfl
theorem zHP (l:List Int) (i:Nat) (h:i < l.length):(zT l)[i]? = some (.int .i64 (atI l i)):=by
 simp [zT,atI,h]
def zEX (w:World) (g:Nat) (xs:List Int) (k:Nat):Prop:=
 g < w.heap.size /\ w.there g 0 xs.length /\ ∀ i,i < k -> w.cell? ⟨g,i,none⟩ = some (.int .i64 (atI xs i))
theorem zC6 {w:World} {base g cap:Nat} {e:TypeId} {zs:List Int} (h:w.ownsRow base e 1 (.slice (some ⟨g,0,none⟩) zs.length cap) zs.length (zT zs)):base <= g /\ zEX w g zs zs.length:=by
 have hlt:=h.lt g rfl
 refine ⟨hlt.1,hlt.2,fun j hj=>⟨?_,h.frozenAt _⟩,fun i hi=>?_⟩
 ·rw [h.cellAt (0 + j) (by omega)]
  have:0 + j < (zT zs).length:=by rw [zDy]; omega
  rw [List.getElem?_eq_getElem this]
  rfl
 ·exact (h.cellAt i (by omega)).trans (zHP zs i hi)
def zOb (w:World) (n:Nat) (a:Option Addr) (us:List Int):Prop:=(us.length = 0 /\ a = none) \/ ∃ g,a = some ⟨g,0,none⟩ /\ n <= g /\ zEX w g us us.length
end Go.Proofs.YtfboipappaonhaaGreat
