import Derived.Deep.RegionHeld
import Derived.Test.YtfboipappaonhaaGreatV21
import Derived.Test.YtfboipappaonhaaGreatV22
import Derived.Test.YtfboipappaonhaaGreatV24
import Derived.Test.YtfboipappaonhaaGreatV26
namespace Go.Proofs.YtfboipappaonhaaGreat
set_option linter.unusedSimpArgs false
set_option linter.unusedVariables false
set_option maxHeartbeats 16000000
set_option maxRecDepth 100000
open Go.RowKit
def zIw (ts:List zN) (i:Nat):Nat:=ZW ts i + (atT ts i).g.size
theorem zIF {ts:List zN} {i j:Nat} (h:j < i):atT (ts.take i) j = atT ts j:=by
 simp [atT,List.getD,List.getElem?_take,h]
theorem zFc (ts:List zN) (i:Nat):∀ k,k <= i -> ZW (ts.take i) k = ZW ts k
 | 0,_=>rfl
 | k + 1,h=>by
  simp only [ZW]
  rw [zFc ts i k (by omega),zIF (by omega)]
theorem zDo (g o c i:Nat) (ts:List zN) (w:World) (hm:ts.length + ZW ts ts.length <= 1048576) (hi:i < ts.length) (hc:ts.length <= c) (hc2:c <= maxLen) (hw:zEe w g o ts) (hB:g < w.heap.size) (hz:(atT ts i).g.size <= 1048576) :
  Calls Tryz.prog 80 #[.slice (some ⟨g,o,none⟩) ts.length c,.int .i64 (i:Int)] w fun e w'=>e = .returned (.int .i64 (zIw ts i:Int)) /\ Below w.heap.size w w':=by
 have htl:(ts.take i).length = i:=by simp; omega
 have htm:=zFW ts i ts.length (by omega)
 have hdr:Below w.heap.size w w.drew:=(Below.refl _ _).drew
 have HX:=zFb g o c (ts.take i) w.drew (by rw [htl,zFc ts i i (Nat.le_refl _)]; omega) (fun j hj=>by
  rw [htl] at hj
  have h:=(hw j (by omega)).below hdr hB
  unfold zD2 at h ⊢
  rw [zIF hj]
  exact h) hB
 rw [htl] at HX
 have e0:(zAO (ts.take i) i).length = ZW ts i:=by rw [zDg,zFc ts i i (Nat.le_refl _)]
 obtain ⟨S,hS⟩:∃ S:ByteArray,S = ⟨(zAO (ts.take i) i).toArray⟩:=⟨_,rfl⟩
 rw [<- hS] at HX
 have hSz:S.size = ZW ts i:=by rw [hS,<- e0]; simp [ByteArray.size]
 obtain ⟨k0,k1,k2⟩:=hw i hi
 have hiI:(i:Int) < (ts.length:Int):=by omega
 have HS:=zB hSz
 have HOFF:=zB (show (zIw ts i:Int) = (S.size:Int) + ((atT ts i).g.size:Int) by unfold zIw; rw [hSz]; omega)
 have hb1:S.size <= 1048576:=by omega
 clear hS e0 hSz htm htl hw hdr
 go_enter Tryz.func80,Tryz.ntmps80
 go_wp2_with fail
 have HBC:=zB (show Below w.heap.size w w.drew from (Below.refl _ _).drew)
 go_region_held (fun w'=>w'.cell? ⟨g,o + i * 3 + 1,none⟩ = some (.string (atT ts i).g)) (first | (go_keep; done) | exact ((zA HBC).cell (p:=⟨g,o + i * 3 + 1,none⟩) hB).trans k1)
  (first | (go_at_call 130; refine HX.mono ?_; rintro x w1 ⟨rfl,hb⟩; replace HBC:=zB ((zA HBC).trans hb); clear HX hb))
 have hwr:IntKind.i64.wrap ((S.size:Int) + ((atT ts i).g.size:Int)) = (S.size:Int) + ((atT ts i).g.size:Int):=by rw [IntKind.wrap_i64]; omega
 rw [hwr,<- zA HOFF]
 go_wp2_with fail
 go_ret
 exact ⟨rfl,zA HBC⟩
end Go.Proofs.YtfboipappaonhaaGreat
namespace Go.Proofs.YtfboipappaonhaaGreat
set_option linter.unusedSimpArgs false
set_option linter.unusedVariables false
set_option maxHeartbeats 16000000
set_option maxRecDepth 100000
def zIx (ns:List OpR) (ts:List zN) (us:List zD) (c p:Int):Prop:=
 (RD ns 0 none (sgs ns ts 0 ts.length) = none /\ us = [] /\ c = 5 /\ p = 0) \/
 ∃ T r,RD ns 0 none (sgs ns ts 0 ts.length) = some (T,r) /\ ((1000 < hT T /\ us = [] /\ c = 6 /\ p = 0) \/ (hT T <= 1000 /\ us = nd T 0 /\ c = 0 /\ p = 0))
def zNj (ns:List OpR) (ts:List zN) (us:List zD) (c p:Int):Prop:=
 (∃ i,i < ts.length /\ (atT ts i).k = 6 /\ (∀ j,j < i -> (atT ts j).k ≠ 6) /\ us = [] /\ c = 3 /\ p = (zIw ts i:Int)) \/
 ((∀ j,j < ts.length -> (atT ts j).k ≠ 6) /\
  ((∃ i,i < ts.length /\ zBS ns ts i /\ zx ns ts i < 0 /\ us = [] /\ c = 4 /\ p = (zIw ts i:Int)) \/ (zBS ns ts ts.length /\ zIx ns ts us c p)))
def zDp (ns:List OpR) (s:ByteArray) (us:List zD) (c p:Int):Prop:=
 (¬ zK ns 0 /\ us = [] /\ c = 1 /\ p = 0) \/
 (zK ns 0 /\ ((20000 < s.size /\ us = [] /\ c = 2 /\ p = 0) \/ (s.size <= 20000 /\ ∃ ts,ZD ns s 0 ts /\ zNj ns ts us c p)))
end Go.Proofs.YtfboipappaonhaaGreat
namespace Go.Proofs.YtfboipappaonhaaGreat
set_option linter.unusedSimpArgs false
set_option linter.unusedVariables false
set_option maxHeartbeats 16000000
set_option maxRecDepth 100000
open Go.RowKit
open Go.Deep (BT)
def trF (xs:List zD):Nat -> Nat -> ET
 | 0,_=>.nil
 | n + 1,i=>if zM (atN xs i).k = 0 then .node (atN xs i).k.toNat 0 (atN xs i).t .nil .nil
  else if zM (atN xs i).k = 1 then .node (atN xs i).k.toNat 0 (atN xs i).t (trF xs n (i - 1)) .nil
  else .node (atN xs i).k.toNat 0 (atN xs i).t (trF xs n (atN xs i).a.toNat) (trF xs n (i - 1))
theorem zLk {xs:List zD}:∀ (T:ET) (s:Nat),Sh T -> zBc xs T s -> ∀ n,tsz T <= n -> trF xs n (s + tsz T - 1) = T:=by
 intro T
 induction T with
 | nil=>intro s h; exact h.elim
 | node b o t l r ihl ihr=>
  rintro s ⟨rfl,hsh⟩ ⟨h1,h2,h3⟩ n hn
  simp only [tsz] at hn
  obtain ⟨n,rfl⟩:∃ m,n = m + 1:=⟨n - 1,by omega⟩
  have e:s + tsz (.node b 0 t l r) - 1 = s + tsz l + tsz r:=by simp only [tsz]; omega
  rw [e]
  have hK:(atN xs (s + tsz l + tsz r)).k = (b:Int):=by rw [h3]; rfl
  have hT:(atN xs (s + tsz l + tsz r)).t = t:=by rw [h3]; rfl
  have hb:((b:Int)).toNat = b:=by omega
  rcases hsh with ⟨hk,rfl,rfl⟩ | ⟨hk,hl,rfl⟩ | ⟨hk,hl,hr⟩
  ·simp only [trF,hK,hT,hk,if_true,hb]
  ·have hp:=hl.pos
   have e2:s + tsz l + tsz (BT.nil:ET) - 1 = s + tsz l - 1:=by simp [tsz]
   simp only [trF,hK,hT,hk,hb,e2,ihl s hl h1 n (by omega)]
   simp
  ·have hp:=hl.pos
   have hq:=hr.pos
   have ha:(atN xs (s + tsz l + tsz r)).a.toNat = s + tsz l - 1:=by
    rw [h3]
    simp [tN,hk]
    omega
   simp only [trF,hK,hT,hk,hb,ha,ihl s hl h1 n (by omega),ihr (s + tsz l) hr h2 n (by omega)]
   simp
def zCd (xs:List zD):ET:=trF xs xs.length (xs.length - 1)
theorem zCn {T:ET} (h:Sh T):zCd (nd T 0) = T:=by
 have:=zLk T 0 h (Zy T) (tsz T) (Nat.le_refl _)
 unfold zCd
 rw [zg]
 simpa using this
def TxB:ET -> Prop
 | .nil=>True
 | .node _ _ t l r=>t.size <= 20000 /\ TxB l /\ TxB r
theorem zLl {xs:List zD} (htx:∀ i,i < xs.length -> Za (atN xs i)):∀ (T:ET) (s:Nat),zBc xs T s -> s + tsz T <= xs.length -> TxB T:=by
 intro T
 induction T with
 | nil=>intro s _ _; trivial
 | node b o t l r ihl ihr=>
  rintro s ⟨h1,h2,h3⟩ hz
  simp only [tsz] at hz
  have ht:=htx (s + tsz l + tsz r) (by omega)
  rw [h3] at ht
  exact ⟨ht.1,ihl s h1 (by omega),ihr _ h2 (by omega)⟩
theorem zMm (ns:List OpR):∀ (T:ET) (l:Int),TxB T -> TxB (grT ns T l):=by
 intro T
 induction T with
 | nil=>intro l _; trivial
 | node b o t l r ihl ihr=>
  rintro least ⟨h1,h2,h3⟩
  simp only [grT]
  split
  ·exact ihl _ h2
  ·unfold clT
   split
   ·exact ⟨by decide,⟨h1,ihl _ h2,ihr _ h3⟩,trivial⟩
   ·exact ⟨h1,ihl _ h2,ihr _ h3⟩
theorem zEL:∀ (T:ET),TxB T -> ∀ s ∈ ySy T,s.2.size <= 20000:=by
 intro T
 induction T with
 | nil=>intro _ s hs; simp [ySy] at hs
 | node b o t l r ihl ihr=>
  rintro ⟨h1,h2,h3⟩ s hs
  have e1:opn.size <= 20000:=by decide
  have e2:zA5.size <= 20000:=by decide
  simp only [ySy] at hs
  split at hs
  ·simp only [List.mem_cons,List.mem_append,List.not_mem_nil,or_false] at hs
   rcases hs with rfl | hs | rfl
   ·exact e1
   ·exact ihl h2 s hs
   ·exact e2
  ·split at hs
   ·simp only [List.mem_cons] at hs
    rcases hs with rfl | hs
    ·exact h1
    ·exact ihl h2 s hs
   ·split at hs
    ·simp only [List.mem_cons,List.mem_append,List.not_mem_nil,or_false] at hs
     rcases hs with hs | rfl
     ·exact ihl h2 s hs
     ·exact h1
    ·split at hs
     ·simp only [List.mem_cons,List.mem_append] at hs
      rcases hs with hs | rfl | hs
      ·exact ihl h2 s hs
      ·exact h1
      ·exact ihr h3 s hs
     ·simp only [List.mem_cons,List.not_mem_nil,or_false] at hs
      subst hs
      exact h1
theorem zFd:∀ (T:ET),(ySy T).length <= 2 * tsz T
 | .nil=>by simp [ySy]
 | .node b o t l r=>by
  have h1:=zFd l
  have h2:=zFd r
  simp only [ySy,tsz]
  split
  ·simp; omega
  ·split
   ·simp; omega
   ·split
    ·simp; omega
    ·split
     ·simp; omega
     ·simp; omega
theorem zFe (ws:List ze) (h:∀ x ∈ ws,x.t.size <= 20000):∀ k,k <= ws.length -> (zAR ws k).length <= 20001 * k
 | 0,_=>by simp [zAR]
 | k + 1,hk=>by
  have ih:=zFe ws h k (by omega)
  have hx:(atW ws k).t.size <= 20000:=h _ (by simp [atW,List.getD,(by omega:k < ws.length)])
  have hx':(atW ws k).t.data.toList.length <= 20000:=by simpa using hx
  simp only [zAR,List.length_append]
  split
  ·simp only [List.length_cons,List.length_nil]; omega
  ·simp only [List.length_nil]; omega
def txT (T:ET):List UInt8:=zAR (yT T) (yT T).length
theorem zMn {T:ET} (h:TxB T) (n:Nat) (hn:tsz T <= n):(txT T).length <= 20001 * (2 * n):=by
 have h1:=zFd T
 have h2:=zFe (yT T) (fun x hx=>by
  simp only [yT,List.mem_map] at hx
  obtain ⟨s,hs,rfl⟩:=hx
  exact zEL T h s hs) (yT T).length (Nat.le_refl _)
 have h3:(yT T).length = (ySy T).length:=by simp [yT]
 unfold txT
 omega
def zCo (ns:List OpR) (xs:List zD) (s:ByteArray) (v:Bool):Prop:=
 (((zK ns 0 /\ zl xs /\ zAL ns xs) /\ (gS ns xs (xs.length - 1) 0 0).length <= 20000) /\ v = true /\ s = ⟨(txT (grT ns (zCd xs) 0)).toArray⟩) \/
 (¬ ((zK ns 0 /\ zl xs /\ zAL ns xs) /\ (gS ns xs (xs.length - 1) 0 0).length <= 20000) /\ v = false /\ s = ⟨#[]⟩)
theorem zCo.one {ns:List OpR} {xs:List zD} {s s':ByteArray} {v v':Bool} (h:zCo ns xs s v) (h':zCo ns xs s' v'):s = s' /\ v = v':=by
 rcases h with ⟨a,rfl,rfl⟩ | ⟨a,rfl,rfl⟩
 ·rcases h' with ⟨_,rfl,rfl⟩ | ⟨a',_⟩
  ·exact ⟨rfl,rfl⟩
  ·exact absurd a a'
 ·rcases h' with ⟨a',_⟩ | ⟨_,rfl,rfl⟩
  ·exact absurd a' a
  ·exact ⟨rfl,rfl⟩
theorem zDC {ns:List OpR} {xs:List zD} (h:(zK ns 0 /\ zl xs /\ zAL ns xs) /\ (gS ns xs (xs.length - 1) 0 0).length <= 20000) :
  ∃ G,G = grT ns (zCd xs) 0 /\ zh ns G /\ TxB G /\ tsz G <= 20000 /\ gS ns xs (xs.length - 1) 0 0 = nd G 0 /\ fS ns xs (xs.length - 1) 0 = exT ns G:=by
 obtain ⟨⟨hv,hord,hkn⟩,hlen⟩:=h
 obtain ⟨T,hT,hz,hx⟩:=zEX hord hkn
 have hto:zCd xs = T:=by rw [hx]; exact zCn hT.sh
 have hli:zBc xs T 0:=by rw [hx]; exact Zy T
 have hg:=zMR ns xs T 0 hT.sh hli 0 0
 have hf:=zMS ns xs T 0 hT.sh hli 0
 rw [Nat.zero_add,hz] at hg hf
 refine ⟨grT ns (zCd xs) 0,rfl,?_,?_,?_,?_,?_⟩
 ·rw [hto]; exact (zLI hv T 0 hT (by omega)).1
 ·rw [hto]; exact zMm ns T 0 (zLl hord.2.2.2 T 0 hli (by omega))
 ·rw [hto,<- zg _ 0,<- hg]; exact hlen
 ·rw [hto]; exact hg
 ·rw [hto]; exact hf
end Go.Proofs.YtfboipappaonhaaGreat
namespace Go.Proofs.YtfboipappaonhaaGreat
set_option linter.unusedSimpArgs false
set_option linter.unusedVariables false
set_option maxHeartbeats 16000000
set_option maxRecDepth 100000
open Go.RowKit
theorem zCJ {ns:List OpR} {st st':Bool × Nat} {s:SyR} {r:List SyR} (h:auS ns st s = some st'):zAl ns st (s :: r) = zAl ns st' r:=by
 simp only [zAl,h]
theorem zDq {ns:List OpR} {a b:List SyR} {st st':Bool × Nat} (h:zAl ns st a = some st'):zAl ns st (a ++ b) = zAl ns st' b:=by
 rw [zBR,h]
theorem zIG {ns:List OpR}:∀ (T:ET),zAN ns T -> ∀ d,zAl ns (false,d) (ySy T) = some (true,d):=by
 intro T
 induction T with
 | nil=>intro h; exact h.elim
 | node b o t l r ihl ihr=>
  intro h d
  obtain ⟨rfl,⟨hb,rfl,rfl⟩ | ⟨rfl,rfl,hl,rfl⟩ | ⟨hb,hk,hl,rfl⟩ | ⟨rfl,hk,hl,hr⟩⟩:=h
  ·rw [zDf hb,zCJ (zJf (s:=(b,t)) hb)]; rfl
  ·rw [zEy,zCJ zJg,zDq (ihl hl (d + 1)),zCJ zH7]; rfl
  ·rcases hb with rfl | rfl
   ·rw [zEz,zCJ (zLO (s:=(3,t)) rfl hk),ihl hl d]
   ·rw [zFV,zDq (ihl hl d),zCJ (zJh (s:=(5,t)) rfl hk)]; rfl
  ·rw [zHB,zDq (ihl hl d),zCJ (zLP (s:=(4,t)) rfl hk),ihr hr d]
def tkK (b:Nat):Nat:=if b = 1 then 1 else if b = 2 then 2 else if b = 6 then 4 else if b = 7 then 5 else 3
theorem zIy {ns:List OpR} {s:SyR} {k:Int} (h:knB ns s = true) (hk:k = (s.1:Int) - 2):ZB ns s.2 k = true:=by
 obtain ⟨j,hj,_,h2,h3⟩:=zDb h
 have ht:=zDd (b:=s.1) (t:=s.2) h
 rw [h3] at ht
 rw [Zv]
 exact ⟨j,hj,ht,by rw [h2,hk]⟩
def zHP (ss:List SyR) (ts:List zN):Prop:=ts.length = ss.length + 1 /\ (atT ts ss.length).k = 7 /\ ∀ i (h:i < ss.length),(atT ts i).k = (tkK ss[i].1:Int) /\ (atT ts i).t = ss[i].2
theorem zIH {ns:List OpR} (ha:zCm ns) {ss:List SyR} {ts:List zN} (ht:zHP ss ts) (hs:Seg ns ss):∀ i,i <= ss.length -> zAl ns (false,0) (ss.take i) = some (zAm ns ts i,zAf ts i) /\ zBS ns ts i /\ sgs ns ts 0 i = ss.take i
 | 0,_=>⟨rfl,fun j hj=>absurd hj (Nat.not_lt_zero j),rfl⟩
 | i + 1,hi=>by
  obtain ⟨h1,h2,h3⟩:=zIH ha ht hs i (by omega)
  obtain ⟨hl,h7,hk⟩:=ht
  have hlt:i < ss.length:=by omega
  obtain ⟨k1,k2⟩:=hk i hlt
  have e:ss.take (i + 1) = ss.take i ++ [ss[i]]:=by rw [List.take_add_one,List.getElem?_eq_getElem hlt]; rfl
  have hrun:∃ st',auS ns (zAm ns ts i,zAf ts i) ss[i] = some st':=by
   have h:=hs
   unfold Seg at h
   have e2:ss = ss.take i ++ ss[i] :: ss.drop (i + 1):=by rw [List.getElem_cons_drop,List.take_append_drop]
   rw [e2,zDq h1] at h
   simp only [zAl] at h
   cases ha':auS ns (zAm ns ts i,zAf ts i) ss[i] with
   | none=>rw [ha'] at h; cases h
   | some st'=>exact ⟨st',rfl⟩
  obtain ⟨st',hst⟩:=hrun
  have hlast:decide (i + 1 = ts.length) = false:=by simp; omega
  generalize hs':ss[i] = s at *
  have key:0 <= zx ns ts i /\ sgT ns ts i = s:=by
   unfold sgT zx
   rw [hlast]
   generalize atT ts i = t at *
   generalize zAf ts i = op at *
   generalize zAm ns ts i = bh at *
   cases bh
   ·rw [zFZ]
    rcases zH6 hst with ⟨c,_⟩ | ⟨c,hkn,_⟩ | ⟨rfl,_⟩
    ·have hkk:t.k = (s.1:Int):=by rw [k1]; rcases c with c | c <;> simp [tkK,c]
     rw [if_pos (by omega),if_neg (by omega),if_neg (by omega),if_neg (by omega),if_neg (by omega)]
     exact ⟨by decide,by rw [hkk,k2]; rfl⟩
    ·have hkk:t.k = 3:=by rw [k1,c]; rfl
     have hh:ZB ns t.t 1 = true:=by rw [k2]; exact zIy hkn (by rw [c]; rfl)
     rw [if_neg (by omega),if_pos ⟨hkk,hh⟩,if_pos hkk]
     refine ⟨by decide,?_⟩
     rw [k2]
     obtain ⟨s1,s2⟩:=s
     simp only at c
     rw [c]
     rfl
    ·have hkk:t.k = 4:=by rw [k1]; rfl
     rw [if_pos (by omega),if_neg (by omega),if_pos hkk]
     exact ⟨by decide,rfl⟩
   ·rw [zDj]
    rcases zJe hst with ⟨c,hkn,_⟩ | ⟨c,hkn,_⟩ | ⟨rfl,hop,_⟩
    ·have hkk:t.k = 3:=by rw [k1,c]; rfl
     have hh:ZB ns t.t 2 = true:=by rw [k2]; exact zIy hkn (by rw [c]; rfl)
     rw [if_pos ⟨hkk,hh⟩,if_pos hkk]
     refine ⟨by decide,?_⟩
     rw [k2]
     obtain ⟨s1,s2⟩:=s
     simp only at c
     rw [c]
     rfl
    ·have hkk:t.k = 3:=by rw [k1,c]; rfl
     have hh:ZB ns t.t 3 = true:=by rw [k2]; exact zIy hkn (by rw [c]; rfl)
     have hn:¬ (t.k = 3 /\ ZB ns t.t 2 = true):=fun x=>ha t.t ⟨x.2,hh⟩
     rw [if_neg hn,if_pos ⟨hkk,hh⟩,if_pos hkk]
     refine ⟨by decide,?_⟩
     rw [k2]
     obtain ⟨s1,s2⟩:=s
     simp only at c
     rw [c]
     rfl
    ·have hkk:t.k = 5:=by rw [k1]; rfl
     rw [if_neg (by omega),if_neg (by omega),if_pos ⟨hkk,hop⟩,if_neg (by omega),if_neg (by omega),if_pos hkk]
     exact ⟨by decide,rfl⟩
  have hau:=zLT (ns:=ns) (ts:=ts) (i:=i) (by omega) key.1
  rw [key.2] at hau
  refine ⟨?_,fun j hj=>?_,?_⟩
  ·rw [e,zDq h1,zCJ hau]; rfl
  ·by_cases x:j = i
   ·rw [x]; exact key.1
   ·exact h2 j (by omega)
  ·rw [zDi,h3,e,Nat.zero_add,key.2]
theorem zLm {ns:List OpR} (ha:zCm ns) {ss:List SyR} {ts:List zN} (ht:zHP ss ts) (hs:Seg ns ss):zBS ns ts ts.length /\ sgs ns ts 0 ts.length = ss ++ [eoS] /\ ∀ j,j < ts.length -> (atT ts j).k ≠ 6:=by
 obtain ⟨h1,h2,h3⟩:=zIH ha ht hs ss.length (Nat.le_refl _)
 obtain ⟨hl,h7,hk⟩:=ht
 rw [List.take_length] at h1 h3
 unfold Seg at hs
 rw [hs] at h1
 injection h1 with h1
 have hb:zAm ns ts ss.length = true:=(congrArg Prod.fst h1).symm
 have ho:zAf ts ss.length = 0:=(congrArg Prod.snd h1).symm
 have hr:0 <= zx ns ts ss.length:=by
  unfold zx
  rw [hb,ho,zDj,show decide (ss.length + 1 = ts.length) = true by simp [hl],h7]
  simp
 refine ⟨fun j hj=>?_,?_,fun j hj=>?_⟩
 ·by_cases x:j = ss.length
  ·rw [x]; exact hr
  ·exact h2 j (by omega)
 ·rw [hl,zDi,h3,Nat.zero_add]
  have:sgT ns ts ss.length = eoS:=by
   unfold sgT
   rw [if_neg (by omega),if_neg (by omega),if_neg (by omega),if_pos h7]
  rw [this]
 ·by_cases x:j = ss.length
  ·rw [x,h7]; decide
  ·rw [(hk j (by omega)).1]
   unfold tkK
   split
   ·decide
   ·split
    ·decide
    ·split
     ·decide
     ·split
      ·decide
      ·decide
theorem zNk {ns:List OpR} (h:zK ns 0):¬ Pr 3 ns:=by
 rcases h with ⟨h,_⟩ | ⟨_,⟨h,_⟩ | ⟨_,⟨h,_⟩ | ⟨h,_⟩⟩⟩
 ·cases h
 ·cases h
 ·cases h
 ·exact h
theorem zNl {T T':ET} (h:Sh T) (h':Sh T') (e:nd T 0 = nd T' 0):T = T':=by
 rw [<- zCn h,<- zCn h',e]
theorem zII {ns:List OpR} (hv:zK ns 0) {s:ByteArray} (hs:s.size <= 20000) {T:ET} (hw:zAN ns T) {ts:List zN} (hl:ZD ns s 0 ts) (ht:zHP (ySy T) ts) {us:List zD} {c p:Int} (h:zDp ns s us c p) :
  (zh ns T -> hT T <= 1000 -> c = 0 /\ us = nd T 0) /\ (¬ zh ns T -> c ≠ 0 \/ us ≠ nd T 0):=by
 have hseg:Seg ns (ySy T):=zIG T hw 0
 have hap:zCm ns:=zH9 (zNk hv)
 obtain ⟨f1,f2,f3⟩:=zLm hap ht hseg
 have hr:zIx ns ts us c p:=by
  rcases h with ⟨h,_⟩ | ⟨_,⟨h,_⟩ | ⟨_,ts',hl',h⟩⟩
  ·exact absurd hv h
  ·omega
  ·have e:=ZD.one _ _ 0 hl' hl
   subst e
   rcases h with ⟨i,hi,h6,_⟩ | ⟨_,⟨i,hi,_,hneg,_⟩ | ⟨_,h⟩⟩
   ·exact absurd h6 (f3 i hi)
   ·exact absurd (f1 i hi) (by omega)
   ·exact h
 unfold zIx at hr
 rw [f2] at hr
 refine ⟨fun hg hh=>?_,fun hg=>?_⟩
 ·have e:=(zLQ hv hseg T).1 ⟨hg,rfl⟩
  rw [e] at hr
  rcases hr with ⟨x,_⟩ | ⟨T',r,x,y⟩
  ·cases x
  ·injection x with x
   injection x with x1 x2
   subst x1
   rcases y with ⟨y,_⟩ | ⟨_,y1,y2,_⟩
   ·omega
   ·exact ⟨y2,y1⟩
 ·rcases hr with ⟨_,_,rfl,_⟩ | ⟨T',r,x,⟨_,_,rfl,_⟩ | ⟨_,rfl,rfl,_⟩⟩
  ·exact Or.inl (by decide)
  ·exact Or.inl (by decide)
  ·refine Or.inr fun e=>hg ?_
   have hr2:=zNf hv hseg x
   simp only at hr2
   subst hr2
   have hg':=((zLQ hv hseg T').2 x).1
   have:T' = T:=zNl hg'.sh hw.sh e
   rw [<- this]
   exact hg'
theorem zFf {ns:List OpR} {xs:List zD} {T:ET} {s:Nat} (h:Sh T) (hl:zBc xs T s):ZF ns (atN xs (s + tsz T - 1)) = lvT ns T:=by
 cases T with
 | nil=>exact h.elim
 | node b o t l r=>
  obtain ⟨_,_,h3⟩:=hl
  have e:s + tsz (.node b o t l r) - 1 = s + tsz l + tsz r:=by simp only [tsz]; omega
  rw [e,h3]
  exact zG5 ns _ b t rfl rfl
theorem zCp {ns:List OpR} {b:Nat} {t:ByteArray} {j:Nat} (h:fnd ns t ((b:Int) - 2) = some j) (c:Bool):sH ns (b,t) c = zBM ns j c:=by
 unfold sH zR rt
 simp only
 rw [h]
theorem zLn {ns:List OpR} {xs:List zD}:∀ (T:ET) (s:Nat),zAN ns T -> zBc xs T s -> ((∀ i,s <= i -> i < s + tsz T -> zBi ns xs i) ↔ zh ns T):=by
 intro T
 induction T with
 | nil=>intro s h; exact h.elim
 | node b o t l r ihl ihr=>
  intro s hw hl
  have hsh:=hw.sh
  obtain ⟨h1,h2,h3⟩:=hl
  obtain ⟨rfl,hw⟩:=hw
  have hz:tsz (.node b 0 t l r) = tsz l + tsz r + 1:=rfl
  have split:(∀ i,s <= i -> i < s + tsz (.node b 0 t l r) -> zBi ns xs i) ↔ (∀ i,s <= i -> i < s + tsz l -> zBi ns xs i) /\ (∀ i,s + tsz l <= i -> i < s + tsz l + tsz r -> zBi ns xs i) /\ zBi ns xs (s + tsz l + tsz r):=by
   rw [hz]
   refine ⟨fun h=>⟨fun i a c=>h i a (by omega),fun i a c=>h i (by omega) (by omega),h _ (by omega) (by omega)⟩,fun ⟨h1,h2,h3⟩ i a c=>?_⟩
   by_cases e1:i < s + tsz l
   ·exact h1 i a e1
   ·by_cases e2:i < s + tsz l + tsz r
    ·exact h2 i (by omega) e2
    ·have:i = s + tsz l + tsz r:=by omega
     rw [this]; exact h3
  rw [split]
  have root:zBi ns xs (s + tsz l + tsz r) ↔ ∀ j,zn (tN b t l r s) -> fnd ns t ((b:Int) - 2) = some j -> zBM ns j false <= ZF ns (atN xs (tN b t l r s).a.toNat) /\ (zM (b:Int) = 1 \/ zBM ns j true <= ZF ns (atN xs (tN b t l r s).b.toNat)):=by
   unfold zBi
   rw [h3]
   exact Iff.rfl
  rcases hw with ⟨hb,rfl,rfl⟩ | ⟨rfl,rfl,wl,rfl⟩ | ⟨hb,hk,wl,rfl⟩ | ⟨rfl,hk,wl,wr⟩
  ·refine ⟨fun _=>⟨rfl,Or.inl ⟨hb,rfl,rfl⟩⟩,fun _=>⟨fun i a c=>by simp [tsz] at c; omega,fun i a c=>by simp [tsz] at c; omega,root.2 fun j hop=>?_⟩⟩
   exfalso
   unfold zn tN at hop
   simp only at hop
   omega
  ·rw [ihl s wl h1]
   refine ⟨fun h=>⟨rfl,Or.inr (Or.inl ⟨rfl,rfl,h.1,rfl⟩)⟩,fun h=>⟨?_,fun i a c=>by simp [tsz] at c; omega,root.2 fun j hop=>?_⟩⟩
   ·obtain ⟨_,⟨h | h,_⟩ | ⟨_,_,h,_⟩ | ⟨h | h,_⟩ | ⟨h,_⟩⟩:=h
    ·cases h
    ·cases h
    ·exact h
    ·cases h
    ·cases h
    ·cases h
   ·exfalso
    unfold zn tN at hop
    simp only at hop
    omega
  ·rw [ihl s wl h1]
   obtain ⟨j,hj,hf,_,_⟩:=zDb hk
   simp only at hf
   have hp:=wl.sh.pos
   have hlev:=zFf (ns:=ns) wl.sh h1
   have ka:zM (b:Int) = 1:=by rcases hb with rfl | rfl <;> decide
   have ea:(tN b t l .nil s).a.toNat = s + tsz l - 1:=by
    unfold tN
    simp only
    rw [if_neg (by rw [ka]; decide)]
    omega
   have hop:zn (tN b t l .nil s):=by
    unfold zn tN
    simp only
    rcases hb with rfl | rfl <;> decide
   constructor
   ·rintro ⟨g,_,hr⟩
    have:=(root.1 hr) j hop hf
    rw [ea,hlev,<- zCp hf] at this
    exact ⟨rfl,Or.inr (Or.inr (Or.inl ⟨hb,hk,g,rfl,this.1⟩))⟩
   ·rintro ⟨_,⟨h | h,_⟩ | ⟨h,_⟩ | ⟨_,_,g,_,hh⟩ | ⟨h,_⟩⟩
    ·omega
    ·omega
    ·omega
    ·refine ⟨g,fun i a c=>by simp [tsz] at c; omega,root.2 fun j' _ hf'=>?_⟩
     rw [hf] at hf'
     injection hf' with hf'
     subst hf'
     rw [ea,hlev,<- zCp hf]
     exact ⟨hh,Or.inl ka⟩
    ·omega
  ·rw [ihl s wl h1,ihr (s + tsz l) wr h2]
   obtain ⟨j,hj,hf,_,_⟩:=zDb hk
   simp only at hf
   have hp:=wl.sh.pos
   have hq:=wr.sh.pos
   have hlev:=zFf (ns:=ns) wl.sh h1
   have hlev2:=zFf (ns:=ns) wr.sh h2
   have ea:(tN 4 t l r s).a.toNat = s + tsz l - 1:=by
    unfold tN
    simp only
    rw [if_neg (by decide)]
    omega
   have eb:(tN 4 t l r s).b.toNat = s + tsz l + tsz r - 1:=by
    unfold tN
    simp only
    rw [if_pos (by decide)]
    omega
   have hop:zn (tN 4 t l r s):=by
    unfold zn tN
    simp only
    decide
   constructor
   ·rintro ⟨g,g',hr⟩
    have:=(root.1 hr) j hop hf
    rw [ea,eb,hlev,hlev2,<- zCp hf,<- zCp hf] at this
    exact ⟨rfl,Or.inr (Or.inr (Or.inr ⟨rfl,hk,g,g',this.1,this.2.resolve_left (by decide)⟩))⟩
   ·rintro ⟨_,⟨h | h,_⟩ | ⟨h,_⟩ | ⟨h | h,_⟩ | ⟨_,_,g,g',hh,hh'⟩⟩
    ·omega
    ·omega
    ·omega
    ·omega
    ·omega
    ·refine ⟨g,g',root.2 fun j' _ hf'=>?_⟩
     rw [hf] at hf'
     injection hf' with hf'
     subst hf'
     rw [ea,eb,hlev,hlev2,<- zCp hf,<- zCp hf]
     exact ⟨hh,Or.inr hh'⟩
theorem zLo {ns:List OpR} {xs:List zD} (htx:∀ i,i < xs.length -> Za (atN xs i)):∀ (T:ET) (s:Nat),zAN ns T -> zBc xs T s -> s + tsz T <= xs.length -> ∀ q ∈ ySy T,WdK ns q.2 (tkK q.1):=by
 have hop:∀ {b:Nat} {t:ByteArray},knB ns (b,t) = true -> opT ns t:=fun {b t} hk=>by
  obtain ⟨j,hj,_,_,h3⟩:=zDb hk
  have:=zDd hk
  simp only at h3
  rw [h3] at this
  exact ⟨j,hj,this⟩
 intro T
 induction T with
 | nil=>intro s h; exact h.elim
 | node b o t l r ihl ihr=>
  rintro s hw ⟨h1,h2,h3⟩ hz
  simp only [tsz] at hz
  have ht:=htx (s + tsz l + tsz r) (by omega)
  rw [h3] at ht
  obtain ⟨rfl,⟨hb,rfl,rfl⟩ | ⟨rfl,rfl,wl,rfl⟩ | ⟨hb,hk,wl,rfl⟩ | ⟨rfl,hk,wl,wr⟩⟩:=hw
  ·rw [zDf hb]
   intro q hq
   simp only [List.mem_singleton] at hq
   subst hq
   rcases ht.2 with ⟨e,h⟩ | ⟨e,h⟩ | ⟨e,_⟩ | ⟨e,_⟩
   ·have:b = 1:=by simp only [tN] at e; omega
    subst this
    exact Or.inl ⟨rfl,h⟩
   ·have:b = 2:=by simp only [tN] at e; omega
    subst this
    exact Or.inr (Or.inl ⟨rfl,h⟩)
   ·simp only [tN] at e; omega
   ·simp only [tN] at e; omega
  ·rw [zEy]
   intro q hq
   simp only [List.mem_cons,List.mem_append,List.not_mem_nil,or_false] at hq
   rcases hq with rfl | hq | rfl
   ·exact Or.inr (Or.inr (Or.inr (Or.inl ⟨rfl,rfl⟩)))
   ·exact ihl s wl h1 (by omega) q hq
   ·exact Or.inr (Or.inr (Or.inr (Or.inr ⟨rfl,rfl⟩)))
  ·rcases hb with rfl | rfl
   ·rw [zEz]
    intro q hq
    rcases List.mem_cons.1 hq with rfl | hq
    ·exact Or.inr (Or.inr (Or.inl ⟨rfl,hop hk⟩))
    ·exact ihl s wl h1 (by omega) q hq
   ·rw [zFV]
    intro q hq
    rcases List.mem_append.1 hq with hq | hq
    ·exact ihl s wl h1 (by omega) q hq
    ·simp only [List.mem_singleton] at hq
     subst hq
     exact Or.inr (Or.inr (Or.inl ⟨rfl,hop hk⟩))
  ·rw [zHB]
   intro q hq
   rcases List.mem_append.1 hq with hq | hq
   ·exact ihl s wl h1 (by omega) q hq
   ·rcases List.mem_cons.1 hq with rfl | hq
    ·exact Or.inr (Or.inr (Or.inl ⟨rfl,hop hk⟩))
    ·exact ihr _ wr h2 (by omega) q hq
theorem zNm:Bl (one 32):=fun i hi=>by
 have:i < 1:=hi
 obtain rfl:i = 0:=by omega
 decide
end Go.Proofs.YtfboipappaonhaaGreat
