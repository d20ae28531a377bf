import Derived.Deep.RegionHeld
import Derived.Test.YtfboipappaonhaaGreatF08
import Derived.Test.YtfboipappaonhaaGreatF09
import Derived.Test.YtfboipappaonhaaGreatF10
import Derived.Test.YtfboipappaonhaaGreatF12
import Derived.Test.YtfboipappaonhaaGreatF14
import Derived.Test.YtfboipappaonhaaGreatF15
namespace Go.Proofs.YtfboipappaonhaaGreat
set_option maxHeartbeats 16000000
set_option maxRecDepth 100000
open Go.RowKit
theorem zMY (w:World):Bld w.heap.size w.heap.size [] (w.alloc (.cells #[.pointer none,.slice none 0 0] 137)):=
 Lib.IsBuilderF.of (Or.inl ⟨Nat.le_refl _,.slice none 0 0,heap_alloc_new w _,World.ownsRow_nil _ _ _ _,by simp [Value.ownBlock]⟩)
theorem Bld.alloc {B b:Nat} {l:List UInt8} {w:World} (h:Bld B b l w) (o:Obj):Bld B b l (w.alloc o):=Lib.IsBuilderF.alloc h o
theorem zQB {B b:Nat} {l:List UInt8} {w:World} (h:Bld B b l w):b<w.heap.size:=by
 rcases h with h | h
 ·exact h.lt
 ·exact h.lt
theorem zHE (b off cap:Nat) (xs:List zK) (w:World) (hm:xs.length+ZO xs xs.length<=1048576) (hw:zCS w b off xs) (hB:b<w.heap.size) :
  Calls Tryz.prog 130 #[.slice (some ⟨b,off,none⟩) xs.length cap] w fun e w'=>e = .returned (.string ⟨(Zh xs xs.length).toArray⟩)/\Below w.heap.size w w':=by
 have HW:=zB hw
 have HO:=zB (zMY w)
 clear hw
 go_enter Tryz.func130,Tryz.ntmps130
 go_wp2
 go_loopw [8] (fun i wr=>∃ k:Nat,k<=xs.length/\i = .int .i64 (k:Int)/\Hid (Bld w.heap.size w.heap.size (Zh xs k) wr)/\Below w.heap.size w wr) (fun i _=>xs.length-(intOf i).toNat)
 case atStart=>exact ⟨0,Nat.zero_le _,rfl,HO,zC _ _⟩
 case round=>
  clear HO
  obtain ⟨k,hk,rfl,hbl,hbel⟩:=hrel
  by_cases hlt:k<xs.length
  ·obtain ⟨a0,a1,a2⟩:=((zA HW) k hlt).below hbel hB
   have hnn:=zCH xs k
   have htk:ZO xs (k+1)<=ZO xs xs.length:=zDv xs _ _ (by omega)
   simp only [ZO,zM5] at htk
   have hl1:(Zh xs k).length+(atT xs k).g.size<=1048576:=by omega
   have hl2:(Zh xs k++(atT xs k).g.data.toList).length+(atT xs k).t.size<=1048576:=by
    rw [List.length_append]
    have:(atT xs k).g.data.toList.length=(atT xs k).g.size:=by simp
    omega
   have HBL:=zB ((zA hbl).alloc (.cells #[.int .i64 (atT xs k).k,.string (atT xs k).g,.string (atT xs k).t] 97))
   have L1:=zB hl1
   have L2:=zB hl2
   have hblt:=zB (show w.heap.size<wr.heap.size from zQB (zA hbl))
   clear hnn htk hl1 hl2 hbl
   go_wp2_with fail
   refine (zFI _ _ _ _ _ (zA HBL) (by have:=zA L1; omega) (by have:=hbel.size; simp; omega)).mono ?_
   rintro e w1 ⟨⟨v,rfl⟩,hb1,hbe1,hk1⟩
   have HB1:=zB hb1
   have hz1:wr.heap.size<w1.heap.size:=by have:=hbe1.size; simp at this; omega
   have ht:w1.heap[wr.heap.size]?=some (.cells #[.int .i64 (atT xs k).k,.string (atT xs k).g,.string (atT xs k).t] 97 (0,0)):=hk1 _ _ (heap_alloc_new wr _) (by have:=hbel.size; simp; have:=(zA hblt); omega) (by simp)
   have q2:w1.cell? ⟨wr.heap.size,2,none⟩=some (.string (atT xs k).t):=by rw [Lib.cell_of_heap ht]; rfl
   have hbel1:Below w.heap.size w w1:=(hbel.alloc hbel.size _).trans hbe1
   clear hb1 hk1 ht hbe1
   go_wp2_with fail
   refine (zFI _ _ _ _ _ (zA HB1) (by have:=zA L2; omega) hbel1.size).mono ?_
   rintro e w2 ⟨⟨v2,rfl⟩,hb2,hbe2,_⟩
   have HB2:=zB (show Bld w.heap.size w.heap.size (Zh xs (k+1)) w2 from hb2)
   have hbel2:=hbel1.trans hbe2
   clear hb2 hbe2
   go_wp2
   exact ⟨⟨k+1,by omega,by go_num,HB2,hbel2⟩,by simp [intOf]; omega⟩
  ·have HK:=zB (show k=xs.length by omega)
   go_wp2_with fail
   refine (zHu _ _ _ _ (zA hbl) hbel.size).mono ?_
   rintro e w1 ⟨rfl,_,hbe1,_⟩
   go_wp2
   go_ret
   exact ⟨zIj (by rw [zA HK]),hbel.trans hbe1⟩
end Go.Proofs.YtfboipappaonhaaGreat
namespace Go.Proofs.YtfboipappaonhaaGreat
set_option linter.unusedSimpArgs false
set_option linter.unusedVariables false
set_option maxHeartbeats 16000000
set_option maxRecDepth 100000
open Go.RowKit
def zGJ (ts:List zK) (i:Nat):Nat:=ZO ts i+(atT ts i).g.size
theorem zHF {ts:List zK} {i j:Nat} (h:j<i):atT (ts.take i) j=atT ts j:=by
 simp [atT,List.getD,List.getElem?_take,h]
theorem zDz (ts:List zK) (i:Nat):∀ k,k<=i->ZO (ts.take i) k=ZO ts k
 | 0,_=>rfl
 | k+1,h=>by
  simp only [ZO]
  rw [zDz ts i k (by omega),zHF (by omega)]
theorem zFJ (g o c i:Nat) (ts:List zK) (w:World) (hm:ts.length+ZO ts ts.length<=1048576) (hi:i<ts.length) (hc:ts.length<=c) (hc2:c<=maxLen) (hw:zCS w g o ts) (hB:g<w.heap.size) (hz:(atT ts i).g.size<=1048576) :
  Calls Tryz.prog 80 #[.slice (some ⟨g,o,none⟩) ts.length c,.int .i64 (i:Int)] w fun e w'=>e = .returned (.int .i64 (zGJ ts i:Int))/\Below w.heap.size w w':=by
 have htl:(ts.take i).length=i:=by simp; omega
 have htm:=zDv ts i ts.length (by omega)
 have hdr:Below w.heap.size w w.drew:=(Below.refl _ _).drew
 have HX:=zHE g o c (ts.take i) w.drew (by rw [htl,zDz ts i i (Nat.le_refl _)]; omega) (fun j hj=>by
  rw [htl] at hj
  have h:=(hw j (by omega)).below hdr hB
  unfold zEY at h ⊢
  rw [zHF hj]
  exact h) hB
 rw [htl] at HX
 have e0:(Zh (ts.take i) i).length=ZO ts i:=by rw [zCH,zDz ts i i (Nat.le_refl _)]
 obtain ⟨S,hS⟩:∃ S:ByteArray,S=⟨(Zh (ts.take i) i).toArray⟩:=⟨_,rfl⟩
 rw [<- hS] at HX
 have hSz:S.size=ZO ts i:=by rw [hS,<- e0]; simp [ByteArray.size]
 obtain ⟨k0,k1,k2⟩:=hw i hi
 have hiI:(i:Int)<(ts.length:Int):=by omega
 have HS:=zB hSz
 have HOFF:=zB (show (zGJ ts i:Int)=(S.size:Int)+((atT ts i).g.size:Int) by unfold zGJ; rw [hSz]; omega)
 have hb1:S.size<=1048576:=by omega
 clear hS e0 hSz htm htl hw hdr
 go_enter Tryz.func80,Tryz.ntmps80
 go_wp2_with fail
 have HBC:=zB (show Below w.heap.size w w.drew from (Below.refl _ _).drew)
 go_region_held (fun w'=>w'.cell? ⟨g,o+i*3+1,none⟩=some (.string (atT ts i).g)) (first | (go_keep; done) | exact ((zA HBC).cell (p:=⟨g,o+i*3+1,none⟩) hB).trans k1)
  (first | (go_at_call 130; refine HX.mono ?_; rintro x w1 ⟨rfl,hb⟩; replace HBC:=zB ((zA HBC).trans hb); clear HX hb))
 have hwr:IntKind.i64.wrap ((S.size:Int)+((atT ts i).g.size:Int))=(S.size:Int)+((atT ts i).g.size:Int):=by rw [IntKind.wrap_i64]; omega
 rw [hwr,<- zA HOFF]
 go_wp2_with fail
 go_ret
 exact ⟨rfl,zA HBC⟩
end Go.Proofs.YtfboipappaonhaaGreat
namespace Go.Proofs.YtfboipappaonhaaGreat
set_option linter.unusedSimpArgs false
set_option linter.unusedVariables false
set_option maxHeartbeats 16000000
set_option maxRecDepth 100000
def zFm (ns:List OpR) (ts:List zK) (us:List zD) (c p:Int):Prop:=
 (RD ns 0 none (sgs ns ts 0 ts.length)=none/\us=[]/\c=5/\p=0) \/
 ∃ T r,RD ns 0 none (sgs ns ts 0 ts.length)=some (T,r)/\((1000<hT T/\us=[]/\c=6/\p=0)\/(hT T<=1000/\us=nd T 0/\c=0/\p=0))
def zJK (ns:List OpR) (ts:List zK) (us:List zD) (c p:Int):Prop:=
 (∃ i,i<ts.length/\(atT ts i).k=6/\(∀ j,j<i->(atT ts j).k≠6)/\us=[]/\c=3/\p=(zGJ ts i:Int)) \/
 ((∀ j,j<ts.length->(atT ts j).k≠6) /\
  ((∃ i,i<ts.length/\zBB ns ts i/\zV ns ts i<0/\us=[]/\c=4/\p=(zGJ ts i:Int))\/(zBB ns ts ts.length/\zFm ns ts us c p)))
def zAQ (ns:List OpR) (s:ByteArray) (us:List zD) (c p:Int):Prop:=
 (¬ zM ns 0/\us=[]/\c=1/\p=0) \/
 (zM ns 0/\((20000<s.size/\us=[]/\c=2/\p=0)\/(s.size<=20000/\∃ ts,ZR ns s 0 ts/\zJK ns ts us c p)))
theorem zFm.one {ns:List OpR} {ts:List zK} {us us':List zD} {c c' p p':Int} (h:zFm ns ts us c p) (h':zFm ns ts us' c' p'):us=us'/\c=c'/\p=p':=by
 rcases h with ⟨h1,rfl,rfl,rfl⟩ | ⟨T,r,h1,h⟩
 ·rcases h' with ⟨h2,rfl,rfl,rfl⟩ | ⟨T',r',h2,h'⟩
  ·exact ⟨rfl,rfl,rfl⟩
  ·rw [h1] at h2; cases h2
 ·rcases h' with ⟨h2,rfl,rfl,rfl⟩ | ⟨T',r',h2,h'⟩
  ·rw [h1] at h2; cases h2
  ·rw [h1] at h2
   injection h2 with h2
   injection h2 with h2 _
   subst h2
   rcases h with ⟨a,rfl,rfl,rfl⟩ | ⟨a,rfl,rfl,rfl⟩ <;> rcases h' with ⟨b,rfl,rfl,rfl⟩ | ⟨b,rfl,rfl,rfl⟩
   ·exact ⟨rfl,rfl,rfl⟩
   ·omega
   ·omega
   ·exact ⟨rfl,rfl,rfl⟩
theorem zJK.one {ns:List OpR} {ts:List zK} {us us':List zD} {c c' p p':Int} (h:zJK ns ts us c p) (h':zJK ns ts us' c' p'):us=us'/\c=c'/\p=p':=by
 rcases h with ⟨i,hi,a1,a2,rfl,rfl,rfl⟩ | ⟨a,h⟩
 ·rcases h' with ⟨j,hj,b1,b2,rfl,rfl,rfl⟩ | ⟨b,h'⟩
  ·rcases (by omega:i=j\/i<j\/j<i) with e | e | e
   ·subst e; exact ⟨rfl,rfl,rfl⟩
   ·exact absurd a1 (b2 i e)
   ·exact absurd b1 (a2 j e)
  ·exact absurd a1 (b i hi)
 ·rcases h' with ⟨j,hj,b1,b2,rfl,rfl,rfl⟩ | ⟨b,h'⟩
  ·exact absurd b1 (a j hj)
  ·rcases h with ⟨i,hi,f,n,rfl,rfl,rfl⟩ | ⟨f,h⟩
   ·rcases h' with ⟨j,hj,f',n',rfl,rfl,rfl⟩ | ⟨f',h'⟩
    ·rcases (by omega:i=j\/i<j\/j<i) with e | e | e
     ·subst e; exact ⟨rfl,rfl,rfl⟩
     ·have:=f' i e; omega
     ·have:=f j e; omega
    ·have:=f' i hi; omega
   ·rcases h' with ⟨j,hj,f',n',rfl,rfl,rfl⟩ | ⟨f',h'⟩
    ·have:=f j hj; omega
    ·exact h.one h'
theorem zAQ.one {ns:List OpR} {s:ByteArray} {us us':List zD} {c c' p p':Int} (h:zAQ ns s us c p) (h':zAQ ns s us' c' p'):us=us'/\c=c'/\p=p':=by
 rcases h with ⟨n,rfl,rfl,rfl⟩ | ⟨n,h⟩
 ·rcases h' with ⟨n',rfl,rfl,rfl⟩ | ⟨n',h'⟩
  ·exact ⟨rfl,rfl,rfl⟩
  ·exact absurd n' n
 ·rcases h' with ⟨n',rfl,rfl,rfl⟩ | ⟨n',h'⟩
  ·exact absurd n n'
  ·rcases h with ⟨b,rfl,rfl,rfl⟩ | ⟨b,ts,hx,h⟩
   ·rcases h' with ⟨b',rfl,rfl,rfl⟩ | ⟨b',ts',hx',h'⟩
    ·exact ⟨rfl,rfl,rfl⟩
    ·omega
   ·rcases h' with ⟨b',rfl,rfl,rfl⟩ | ⟨b',ts',hx',h'⟩
    ·omega
    ·have e:=ZR.one _ _ _ hx hx'
     subst e
     exact h.one h'
end Go.Proofs.YtfboipappaonhaaGreat
namespace Go.Proofs.YtfboipappaonhaaGreat
set_option linter.unusedSimpArgs false
set_option linter.unusedVariables false
set_option maxHeartbeats 16000000
set_option maxRecDepth 100000
open Go.RowKit
open Go.Deep (BT)
def trF (xs:List zD):Nat->Nat->ET
 | 0,_=>.nil
 | n+1,i=>if zU (atN xs i).k=0 then .node (atN xs i).k.toNat 0 (atN xs i).t .nil .nil
  else if zU (atN xs i).k=1 then .node (atN xs i).k.toNat 0 (atN xs i).t (trF xs n (i-1)) .nil
  else .node (atN xs i).k.toNat 0 (atN xs i).t (trF xs n (atN xs i).a.toNat) (trF xs n (i-1))
theorem zNy {xs:List zD}:∀ (T:ET) (s:Nat),Sh T->zBr xs T s->∀ n,tsz T<=n->trF xs n (s+tsz T-1)=T:=by
 intro T
 induction T with
 | nil=>intro s h; exact h.elim
 | node b o t l r ihl ihr=>
  rintro s ⟨rfl,hsh⟩ ⟨h1,h2,h3⟩ n hn
  simp only [tsz] at hn
  obtain ⟨n,rfl⟩:∃ m,n=m+1:=⟨n-1,by omega⟩
  have e:s+tsz (.node b 0 t l r)-1=s+tsz l+tsz r:=by simp only [tsz]; omega
  rw [e]
  have hK:(atN xs (s+tsz l+tsz r)).k=(b:Int):=by rw [h3]; rfl
  have hT:(atN xs (s+tsz l+tsz r)).t=t:=by rw [h3]; rfl
  have hb:((b:Int)).toNat=b:=by omega
  rcases hsh with ⟨hk,rfl,rfl⟩ | ⟨hk,hl,rfl⟩ | ⟨hk,hl,hr⟩
  ·simp only [trF,hK,hT,hk,if_true,hb]
  ·have hp:=hl.pos
   have e2:s+tsz l+tsz (BT.nil:ET)-1=s+tsz l-1:=by simp [tsz]
   simp only [trF,hK,hT,hk,hb,e2,ihl s hl h1 n (by omega)]
   simp
  ·have hp:=hl.pos
   have hq:=hr.pos
   have ha:(atN xs (s+tsz l+tsz r)).a.toNat=s+tsz l-1:=by
    rw [h3]
    simp [tN,hk]
    omega
   simp only [trF,hK,hT,hk,hb,ha,ihl s hl h1 n (by omega),ihr (s+tsz l) hr h2 n (by omega)]
   simp
def zCo (xs:List zD):ET:=trF xs xs.length (xs.length-1)
theorem zB3 {T:ET} (h:Sh T):zCo (nd T 0)=T:=by
 have:=zNy T 0 h (ZW T) (tsz T) (Nat.le_refl _)
 unfold zCo
 rw [zi]
 simpa using this
def TxB:ET->Prop
 | .nil=>True
 | .node _ _ t l r=>t.size<=20000/\TxB l/\TxB r
theorem zNz {xs:List zD} (htx:∀ i,i<xs.length->zAA (atN xs i)):∀ (T:ET) (s:Nat),zBr xs T s->s+tsz T<=xs.length->TxB T:=by
 intro T
 induction T with
 | nil=>intro s _ _; trivial
 | node b o t l r ihl ihr=>
  rintro s ⟨h1,h2,h3⟩ hz
  simp only [tsz] at hz
  have ht:=htx (s+tsz l+tsz r) (by omega)
  rw [h3] at ht
  exact ⟨ht.1,ihl s h1 (by omega),ihr _ h2 (by omega)⟩
theorem zPC (ns:List OpR):∀ (T:ET) (l:Int),TxB T->TxB (grT ns T l):=by
 intro T
 induction T with
 | nil=>intro l _; trivial
 | node b o t l r ihl ihr=>
  rintro least ⟨h1,h2,h3⟩
  simp only [grT]
  split
  ·exact ihl _ h2
  ·unfold clT
   split
   ·exact ⟨by decide,⟨h1,ihl _ h2,ihr _ h3⟩,trivial⟩
   ·exact ⟨h1,ihl _ h2,ihr _ h3⟩
theorem zFn:∀ (T:ET),TxB T->∀ s∈ySy T,s.2.size<=20000:=by
 intro T
 induction T with
 | nil=>intro _ s hs; simp [ySy] at hs
 | node b o t l r ihl ihr=>
  rintro ⟨h1,h2,h3⟩ s hs
  have e1:opn.size<=20000:=by decide
  have e2:zA1.size<=20000:=by decide
  simp only [ySy] at hs
  split at hs
  ·simp only [List.mem_cons,List.mem_append,List.not_mem_nil,or_false] at hs
   rcases hs with rfl | hs | rfl
   ·exact e1
   ·exact ihl h2 s hs
   ·exact e2
  ·split at hs
   ·simp only [List.mem_cons] at hs
    rcases hs with rfl | hs
    ·exact h1
    ·exact ihl h2 s hs
   ·split at hs
    ·simp only [List.mem_cons,List.mem_append,List.not_mem_nil,or_false] at hs
     rcases hs with hs | rfl
     ·exact ihl h2 s hs
     ·exact h1
    ·split at hs
     ·simp only [List.mem_cons,List.mem_append] at hs
      rcases hs with hs | rfl | hs
      ·exact ihl h2 s hs
      ·exact h1
      ·exact ihr h3 s hs
     ·simp only [List.mem_cons,List.not_mem_nil,or_false] at hs
      subst hs
      exact h1
theorem zHG:∀ (T:ET),(ySy T).length<=2*tsz T
 | .nil=>by simp [ySy]
 | .node b o t l r=>by
  have h1:=zHG l
  have h2:=zHG r
  simp only [ySy,tsz]
  split
  ·simp; omega
  ·split
   ·simp; omega
   ·split
    ·simp; omega
    ·split
     ·simp; omega
     ·simp; omega
theorem zHH (ws:List zu) (h:∀ x∈ws,x.t.size<=20000):∀ k,k<=ws.length->(zBP ws k).length<=20001*k
 | 0,_=>by simp [zBP]
 | k+1,hk=>by
  have ih:=zHH ws h k (by omega)
  have hx:(atW ws k).t.size<=20000:=h _ (by simp [atW,List.getD,(by omega:k<ws.length)])
  have hx':(atW ws k).t.data.toList.length<=20000:=by simpa using hx
  simp only [zBP,List.length_append]
  split
  ·simp only [List.length_cons,List.length_nil]; omega
  ·simp only [List.length_nil]; omega
def txT (T:ET):List UInt8:=zBP (yT T) (yT T).length
theorem zPD {T:ET} (h:TxB T) (n:Nat) (hn:tsz T<=n):(txT T).length<=20001*(2*n):=by
 have h1:=zHG T
 have h2:=zHH (yT T) (fun x hx=>by
  simp only [yT,List.mem_map] at hx
  obtain ⟨s,hs,rfl⟩:=hx
  exact zFn T h s hs) (yT T).length (Nat.le_refl _)
 have h3:(yT T).length=(ySy T).length:=by simp [yT]
 unfold txT
 omega
def zCb (ns:List OpR) (xs:List zD) (s:ByteArray) (v:Bool):Prop:=
 (((zM ns 0/\ZE xs/\zAt ns xs)/\(gS ns xs (xs.length-1) 0 0).length<=20000)/\v=true/\s=⟨(txT (grT ns (zCo xs) 0)).toArray⟩) \/
 (¬ ((zM ns 0/\ZE xs/\zAt ns xs)/\(gS ns xs (xs.length-1) 0 0).length<=20000)/\v=false/\s=⟨#[]⟩)
theorem zCb.one {ns:List OpR} {xs:List zD} {s s':ByteArray} {v v':Bool} (h:zCb ns xs s v) (h':zCb ns xs s' v'):s=s'/\v=v':=by
 rcases h with ⟨a,rfl,rfl⟩ | ⟨a,rfl,rfl⟩
 ·rcases h' with ⟨_,rfl,rfl⟩ | ⟨a',_⟩
  ·exact ⟨rfl,rfl⟩
  ·exact absurd a a'
 ·rcases h' with ⟨a',_⟩ | ⟨_,rfl,rfl⟩
  ·exact absurd a' a
  ·exact ⟨rfl,rfl⟩
theorem zDc {ns:List OpR} {xs:List zD} (h:(zM ns 0/\ZE xs/\zAt ns xs)/\(gS ns xs (xs.length-1) 0 0).length<=20000) :
  ∃ G,G=grT ns (zCo xs) 0/\zf ns G/\TxB G/\tsz G<=20000/\gS ns xs (xs.length-1) 0 0=nd G 0/\fS ns xs (xs.length-1) 0=exT ns G:=by
 obtain ⟨⟨hv,hord,hkn⟩,hlen⟩:=h
 obtain ⟨T,hT,hz,hx⟩:=zF8 hord hkn
 have hto:zCo xs=T:=by rw [hx]; exact zB3 hT.sh
 have hli:zBr xs T 0:=by rw [hx]; exact ZW T
 have hg:=zGX ns xs T 0 hT.sh hli 0 0
 have hf:=zOq ns xs T 0 hT.sh hli 0
 rw [Nat.zero_add,hz] at hg hf
 refine ⟨grT ns (zCo xs) 0,rfl,?_,?_,?_,?_,?_⟩
 ·rw [hto]; exact (zJ7 hv T 0 hT (by omega)).1
 ·rw [hto]; exact zPC ns T 0 (zNz hord.2.2.2 T 0 hli (by omega))
 ·rw [hto,<- zi _ 0,<- hg]; exact hlen
 ·rw [hto]; exact hg
 ·rw [hto]; exact hf
end Go.Proofs.YtfboipappaonhaaGreat
namespace Go.Proofs.YtfboipappaonhaaGreat
set_option linter.unusedSimpArgs false
set_option linter.unusedVariables false
set_option maxHeartbeats 16000000
set_option maxRecDepth 100000
open Go.RowKit
theorem zDd {ns:List OpR} {st st':Bool×Nat} {s:SyR} {r:List SyR} (h:auS ns st s=some st'):Zp ns st (s::r)=Zp ns st' r:=by
 simp only [Zp,h]
theorem zFK {ns:List OpR} {a b:List SyR} {st st':Bool×Nat} (h:Zp ns st a=some st'):Zp ns st (a++b)=Zp ns st' b:=by
 rw [zBm,h]
theorem zHI {ns:List OpR}:∀ (T:ET),zA9 ns T->∀ d,Zp ns (false,d) (ySy T)=some (true,d):=by
 intro T
 induction T with
 | nil=>intro h; exact h.elim
 | node b o t l r ihl ihr=>
  intro h d
  obtain ⟨rfl,⟨hb,rfl,rfl⟩ | ⟨rfl,rfl,hl,rfl⟩ | ⟨hb,hk,hl,rfl⟩ | ⟨rfl,hk,hl,hr⟩⟩:=h
  ·rw [zAV hb,zDd (zI3 (s:=(b,t)) hb)]; rfl
  ·rw [zAy,zDd zI4,zFK (ihl hl (d+1)),zDd zG4]; rfl
  ·rcases hb with rfl | rfl
   ·rw [zAZ,zDd (zK1 (s:=(3,t)) rfl hk),ihl hl d]
   ·rw [zAF,zFK (ihl hl d),zDd (zI5 (s:=(5,t)) rfl hk)]; rfl
  ·rw [zBK,zFK (ihl hl d),zDd (zK2 (s:=(4,t)) rfl hk),ihr hr d]
def tkK (b:Nat):Nat:=if b=1 then 1 else if b=2 then 2 else if b=6 then 4 else if b=7 then 5 else 3
theorem zLB {ns:List OpR} {s:SyR} {k:Int} (h:knB ns s=true) (hk:k=(s.1:Int)-2):zn ns s.2 k=true:=by
 obtain ⟨j,hj,_,h2,h3⟩:=zE8 h
 have ht:=zFA (b:=s.1) (t:=s.2) h
 rw [h3] at ht
 rw [ZQ]
 exact ⟨j,hj,ht,by rw [h2,hk]⟩
def zJL (ss:List SyR) (ts:List zK):Prop:=ts.length=ss.length+1/\(atT ts ss.length).k=7/\∀ i (h:i<ss.length),(atT ts i).k=(tkK ss[i].1:Int)/\(atT ts i).t=ss[i].2
theorem zKL {ns:List OpR} (ha:zCa ns) {ss:List SyR} {ts:List zK} (ht:zJL ss ts) (hs:Seg ns ss):∀ i,i<=ss.length->Zp ns (false,0) (ss.take i)=some (zBL ns ts i,zBG ts i)/\zBB ns ts i/\sgs ns ts 0 i=ss.take i
 | 0,_=>⟨rfl,fun j hj=>absurd hj (Nat.not_lt_zero j),rfl⟩
 | i+1,hi=>by
  obtain ⟨h1,h2,h3⟩:=zKL ha ht hs i (by omega)
  obtain ⟨hl,h7,hk⟩:=ht
  have hlt:i<ss.length:=by omega
  obtain ⟨k1,k2⟩:=hk i hlt
  have e:ss.take (i+1)=ss.take i++[ss[i]]:=by rw [List.take_add_one,List.getElem?_eq_getElem hlt]; rfl
  have hrun:∃ st',auS ns (zBL ns ts i,zBG ts i) ss[i]=some st':=by
   have h:=hs
   unfold Seg at h
   have e2:ss=ss.take i++ss[i]::ss.drop (i+1):=by rw [List.getElem_cons_drop,List.take_append_drop]
   rw [e2,zFK h1] at h
   simp only [Zp] at h
   cases ha':auS ns (zBL ns ts i,zBG ts i) ss[i] with
   | none=>rw [ha'] at h; cases h
   | some st'=>exact ⟨st',rfl⟩
  obtain ⟨st',hst⟩:=hrun
  have hlast:decide (i+1=ts.length)=false:=by simp; omega
  generalize hs':ss[i]=s at *
  have key:0<=zV ns ts i/\sgT ns ts i=s:=by
   unfold sgT zV
   rw [hlast]
   generalize atT ts i=t at *
   generalize zBG ts i=op at *
   generalize zBL ns ts i=bh at *
   cases bh
   ·rw [zFE]
    rcases zC6 hst with ⟨c,_⟩ | ⟨c,hkn,_⟩ | ⟨rfl,_⟩
    ·have hkk:t.k=(s.1:Int):=by rw [k1]; rcases c with c | c <;> simp [tkK,c]
     rw [if_pos (by omega),if_neg (by omega),if_neg (by omega),if_neg (by omega),if_neg (by omega)]
     exact ⟨by decide,by rw [hkk,k2]; rfl⟩
    ·have hkk:t.k=3:=by rw [k1,c]; rfl
     have hh:zn ns t.t 1=true:=by rw [k2]; exact zLB hkn (by rw [c]; rfl)
     rw [if_neg (by omega),if_pos ⟨hkk,hh⟩,if_pos hkk]
     refine ⟨by decide,?_⟩
     rw [k2]
     obtain ⟨s1,s2⟩:=s
     simp only at c
     rw [c]
     rfl
    ·have hkk:t.k=4:=by rw [k1]; rfl
     rw [if_pos (by omega),if_neg (by omega),if_pos hkk]
     exact ⟨by decide,rfl⟩
   ·rw [zDx]
    rcases zEE hst with ⟨c,hkn,_⟩ | ⟨c,hkn,_⟩ | ⟨rfl,hop,_⟩
    ·have hkk:t.k=3:=by rw [k1,c]; rfl
     have hh:zn ns t.t 2=true:=by rw [k2]; exact zLB hkn (by rw [c]; rfl)
     rw [if_pos ⟨hkk,hh⟩,if_pos hkk]
     refine ⟨by decide,?_⟩
     rw [k2]
     obtain ⟨s1,s2⟩:=s
     simp only at c
     rw [c]
     rfl
    ·have hkk:t.k=3:=by rw [k1,c]; rfl
     have hh:zn ns t.t 3=true:=by rw [k2]; exact zLB hkn (by rw [c]; rfl)
     have hn:¬ (t.k=3/\zn ns t.t 2=true):=fun x=>ha t.t ⟨x.2,hh⟩
     rw [if_neg hn,if_pos ⟨hkk,hh⟩,if_pos hkk]
     refine ⟨by decide,?_⟩
     rw [k2]
     obtain ⟨s1,s2⟩:=s
     simp only at c
     rw [c]
     rfl
    ·have hkk:t.k=5:=by rw [k1]; rfl
     rw [if_neg (by omega),if_neg (by omega),if_pos ⟨hkk,hop⟩,if_neg (by omega),if_neg (by omega),if_pos hkk]
     exact ⟨by decide,rfl⟩
  have hau:=zNh (ns:=ns) (ts:=ts) (i:=i) (by omega) key.1
  rw [key.2] at hau
  refine ⟨?_,fun j hj=>?_,?_⟩
  ·rw [e,zFK h1,zDd hau]; rfl
  ·by_cases x:j=i
   ·rw [x]; exact key.1
   ·exact h2 j (by omega)
  ·rw [zCI,h3,e,Nat.zero_add,key.2]
theorem zN0 {ns:List OpR} (ha:zCa ns) {ss:List SyR} {ts:List zK} (ht:zJL ss ts) (hs:Seg ns ss):zBB ns ts ts.length/\sgs ns ts 0 ts.length=ss++[eoS]/\∀ j,j<ts.length->(atT ts j).k≠6:=by
 obtain ⟨h1,h2,h3⟩:=zKL ha ht hs ss.length (Nat.le_refl _)
 obtain ⟨hl,h7,hk⟩:=ht
 rw [List.take_length] at h1 h3
 unfold Seg at hs
 rw [hs] at h1
 injection h1 with h1
 have hb:zBL ns ts ss.length=true:=(congrArg Prod.fst h1).symm
 have ho:zBG ts ss.length=0:=(congrArg Prod.snd h1).symm
 have hr:0<=zV ns ts ss.length:=by
  unfold zV
  rw [hb,ho,zDx,show decide (ss.length+1=ts.length)=true by simp [hl],h7]
  simp
 refine ⟨fun j hj=>?_,?_,fun j hj=>?_⟩
 ·by_cases x:j=ss.length
  ·rw [x]; exact hr
  ·exact h2 j (by omega)
 ·rw [hl,zCI,h3,Nat.zero_add]
  have:sgT ns ts ss.length=eoS:=by
   unfold sgT
   rw [if_neg (by omega),if_neg (by omega),if_neg (by omega),if_pos h7]
  rw [this]
 ·by_cases x:j=ss.length
  ·rw [x,h7]; decide
  ·rw [(hk j (by omega)).1]
   unfold tkK
   split
   ·decide
   ·split
    ·decide
    ·split
     ·decide
     ·split
      ·decide
      ·decide
theorem zQC {ns:List OpR} (h:zM ns 0):¬ Pr 3 ns:=by
 rcases h with ⟨h,_⟩ | ⟨_,⟨h,_⟩ | ⟨_,⟨h,_⟩ | ⟨h,_⟩⟩⟩
 ·cases h
 ·cases h
 ·cases h
 ·exact h
theorem zN1 {T T':ET} (h:Sh T) (h':Sh T') (e:nd T 0=nd T' 0):T=T':=by
 rw [<- zB3 h,<- zB3 h',e]
theorem zGB {ns:List OpR} (hv:zM ns 0) {s:ByteArray} (hs:s.size<=20000) {T:ET} (hw:zA9 ns T) {ts:List zK} (hl:ZR ns s 0 ts) (ht:zJL (ySy T) ts) {us:List zD} {c p:Int} (h:zAQ ns s us c p) :
  (zf ns T->hT T<=1000->c=0/\us=nd T 0)/\(¬ zf ns T->c≠0\/us≠nd T 0):=by
 have hseg:Seg ns (ySy T):=zHI T hw 0
 have hap:zCa ns:=zKG (zQC hv)
 obtain ⟨f1,f2,f3⟩:=zN0 hap ht hseg
 have hr:zFm ns ts us c p:=by
  rcases h with ⟨h,_⟩ | ⟨_,⟨h,_⟩ | ⟨_,ts',hl',h⟩⟩
  ·exact absurd hv h
  ·omega
  ·have e:=ZR.one _ _ 0 hl' hl
   subst e
   rcases h with ⟨i,hi,h6,_⟩ | ⟨_,⟨i,hi,_,hneg,_⟩ | ⟨_,h⟩⟩
   ·exact absurd h6 (f3 i hi)
   ·exact absurd (f1 i hi) (by omega)
   ·exact h
 unfold zFm at hr
 rw [f2] at hr
 refine ⟨fun hg hh=>?_,fun hg=>?_⟩
 ·have e:=(zK3 hv hseg T).1 ⟨hg,rfl⟩
  rw [e] at hr
  rcases hr with ⟨x,_⟩ | ⟨T',r,x,y⟩
  ·cases x
  ·injection x with x
   injection x with x1 x2
   subst x1
   rcases y with ⟨y,_⟩ | ⟨_,y1,y2,_⟩
   ·omega
   ·exact ⟨y2,y1⟩
 ·rcases hr with ⟨_,_,rfl,_⟩ | ⟨T',r,x,⟨_,_,rfl,_⟩ | ⟨_,rfl,rfl,_⟩⟩
  ·exact Or.inl (by decide)
  ·exact Or.inl (by decide)
  ·refine Or.inr fun e=>hg ?_
   have hr2:=zNf hv hseg x
   simp only at hr2
   subst hr2
   have hg':=((zK3 hv hseg T').2 x).1
   have:T'=T:=zN1 hg'.sh hw.sh e
   rw [<- this]
   exact hg'
end Go.Proofs.YtfboipappaonhaaGreat
namespace Go.Proofs.YtfboipappaonhaaGreat
set_option linter.unusedSimpArgs false
set_option linter.unusedVariables false
set_option maxHeartbeats 16000000
set_option maxRecDepth 100000
open Go.RowKit
open Go.Deep (BT)
def moT (bs:List UInt8):ET->Nat->Nat×ET
 | .nil,p=>(p,.nil)
 | .node b _ t l r,p=>
  (adv bs (moT bs r (moT bs l p).1).1,
   if nxt bs (moT bs r (moT bs l p).1).1%6=5 then .node 6 0 ByteArray.empty (.node b 0 t (moT bs l p).2 (moT bs r (moT bs l p).1).2) .nil
   else .node b 0 t (moT bs l p).2 (moT bs r (moT bs l p).1).2)
theorem zHJ (bs:List UInt8):∀ (T:ET) (p:Nat),tsz T<=tsz (moT bs T p).2/\tsz (moT bs T p).2<=2*tsz T
 | .nil,p=>⟨Nat.le_refl _,Nat.zero_le _⟩
 | .node b o t l r,p=>by
  have h1:=zHJ bs l p
  have h2:=zHJ bs r (moT bs l p).1
  simp only [moT]
  split <;> simp only [tsz] <;> omega
theorem zJM (bs:List UInt8):∀ (T:ET) (p:Nat),Sh T->Sh (moT bs T p).2
 | .nil,p,h=>h.elim
 | .node b o t l r,p,⟨_,h⟩=>by
  have hn:Sh (.node b 0 t (moT bs l p).2 (moT bs r (moT bs l p).1).2):=by
   refine ⟨rfl,?_⟩
   rcases h with ⟨hk,rfl,rfl⟩ | ⟨hk,hl,rfl⟩ | ⟨hk,hl,hr⟩
   ·exact Or.inl ⟨hk,rfl,rfl⟩
   ·exact Or.inr (Or.inl ⟨hk,zJM bs l p hl,rfl⟩)
   ·exact Or.inr (Or.inr ⟨hk,zJM bs l p hl,zJM bs r _ hr⟩)
  simp only [moT]
  split
  ·exact ⟨rfl,Or.inr (Or.inl ⟨by decide,hn,rfl⟩)⟩
  ·exact hn
def TxL (n:Nat):ET->Prop
 | .nil=>True
 | .node _ _ t l r=>t.size<=n/\TxL n l/\TxL n r
theorem zJN (bs:List UInt8) (n:Nat):∀ (T:ET) (p:Nat),TxL n T->TxL n (moT bs T p).2
 | .nil,p,h=>trivial
 | .node b o t l r,p,⟨h0,h1,h2⟩=>by
  have hn:TxL n (.node b 0 t (moT bs l p).2 (moT bs r (moT bs l p).1).2):=⟨h0,zJN bs n l p h1,zJN bs n r _ h2⟩
  simp only [moT]
  split
  ·exact ⟨Nat.zero_le _,hn,trivial⟩
  ·exact hn
theorem zFo (n:Nat):∀ (T:ET) (s:Nat),(∀ o∈nd T s,o.t.size<=n)->TxL n T
 | .nil,s,h=>trivial
 | .node b o t l r,s,h=>by
  simp only [nd,List.mem_append,List.mem_singleton] at h
  refine ⟨?_,zFo n l s fun x hx=>h x (Or.inl (Or.inl hx)),zFo n r _ fun x hx=>h x (Or.inl (Or.inr hx))⟩
  have:=h (tN b t l r s) (Or.inr rfl)
  simpa [tN] using this
theorem zGd (ns:List OpR) (n b:Nat) (t:ByteArray) (l:Int) (T:ET) (h:TxL n T):TxL n (clT ns b t l T):=by
 unfold clT
 split
 ·exact ⟨Nat.zero_le _,h,trivial⟩
 ·exact h
def wdT (T:ET):List ByteArray:=(ySy T).map (·.2)
theorem zGe:∀ (T:ET),(wdT T).length<=2*tsz T
 | .nil=>Nat.zero_le _
 | .node b o t l r=>by
  have h1:=zGe l
  have h2:=zGe r
  simp only [wdT,List.length_map] at h1 h2 ⊢
  simp only [ySy,tsz]
  split
  ·simp; omega
  ·split
   ·simp; omega
   ·split
    ·simp; omega
    ·split
     ·simp; omega
     ·simp; omega
theorem zLC {n:Nat} (hn:1<=n):∀ (T:ET),TxL n T->∀ s∈wdT T,s.size<=n
 | .nil,h=>fun s hs=>by simp [wdT,ySy] at hs
 | .node b o t l r,⟨h0,h1,h2⟩=>by
  have i1:=zLC hn l h1
  have i2:=zLC hn r h2
  have c1:opn.size<=n:=hn
  have c2:zA1.size<=n:=hn
  simp only [wdT] at i1 i2 ⊢
  simp only [ySy]
  intro s hs
  split at hs
  ·simp only [List.map_cons,List.map_append,List.map_nil,List.mem_cons,List.mem_append,List.mem_singleton,List.not_mem_nil,or_false] at hs
   rcases hs with rfl | hs | rfl
   ·exact c1
   ·exact i1 s hs
   ·exact c2
  ·split at hs
   ·simp only [List.map_cons,List.mem_cons] at hs
    rcases hs with rfl | hs
    ·exact h0
    ·exact i1 s hs
   ·split at hs
    ·simp only [List.map_cons,List.map_append,List.map_nil,List.mem_cons,List.mem_append,List.mem_singleton,List.not_mem_nil,or_false] at hs
     rcases hs with hs | rfl
     ·exact i1 s hs
     ·exact h0
    ·split at hs
     ·simp only [List.map_cons,List.map_append,List.map_nil,List.mem_cons,List.mem_append] at hs
      rcases hs with hs | rfl | hs
      ·exact i1 s hs
      ·exact h0
      ·exact i2 s hs
     ·simp only [List.map_cons,List.map_nil,List.mem_singleton] at hs
      subst hs
      exact h0
def lnF (bs:List UInt8) (ns:List OpR):Nat->Nat->Bool->Nat->Nat->Nat×Nat
 | 0,n,_,_,p=>(n,p)
 | f+1,n,bh,op,p=>
  if ¬ ((n<30/\p<bs.length)\/bh=false\/0<op) then (n,p)
  else if bh=false then
   if nxt bs p%8=1/\n<30 then lnF bs ns f (n+1) false (op+1) (adv bs p)
   else if 4<nxt bs p%8/\(atO ns (nxt bs p/8%ns.length)).k=1 then lnF bs ns f (n+1) false op (adv bs p)
   else lnF bs ns f (n+1) true op (adv bs p)
  else if 0<op/\(nxt bs p%8=0\/30<=n\/bs.length<=adv bs p) then lnF bs ns f (n+1) true (op-1) (adv bs p)
  else if (atO ns (nxt bs p/8%ns.length)).k=3 then lnF bs ns f (n+1) true op (adv bs p)
  else if (atO ns (nxt bs p/8%ns.length)).k=2 then lnF bs ns f (n+1) false op (adv bs p)
  else if bs.length<=adv bs p then (n,adv bs p)
  else lnF bs ns f n true op (adv bs p)
def lnM (bs:List UInt8) (bh:Bool) (op p:Nat):Nat:=3*(bs.length-p)+op+(if bh=true then 0 else 1)
def gnW (bs:List UInt8) (ns:List OpR) (p:Nat):Nat×List zD:=gen bs ns false (2+nxt bs p%5) (adv bs p) []
def zN2 (bs:List UInt8) (ns:List OpR) (p n q:Nat):Prop:=
 (nxt bs p%4=3/\lnF bs ns 3601 0 false 0 (adv bs p)=(n,q)) \/
 (nxt bs p%4≠3/\∃ gs v,zED ns (gnW bs ns (adv bs p)).2 gs v/\((v=false/\n=1/\q=(gnW bs ns (adv bs p)).1) \/
  (v=true/\∃ T,Sh T/\gs=nd T 0/\n=(wdT (moT bs T (gnW bs ns (adv bs p)).1).2).length/\q=(moT bs T (gnW bs ns (adv bs p)).1).1)))
theorem zN2.one {bs:List UInt8} {ns:List OpR} {p n q n' q':Nat} (h:zN2 bs ns p n q) (h':zN2 bs ns p n' q'):n=n'/\q=q':=by
 rcases h with ⟨a,e⟩ | ⟨a,gs,v,hg,h⟩ <;> rcases h' with ⟨a',e'⟩ | ⟨a',gs',v',hg',h'⟩
 ·rw [e] at e'; injection e' with e1 e2; exact ⟨e1,e2⟩
 ·exact absurd a a'
 ·exact absurd a' a
 ·obtain ⟨rfl,rfl⟩:=hg.one hg'
  rcases h with ⟨rfl,rfl,rfl⟩ | ⟨rfl,T,hT,hgs,rfl,rfl⟩ <;> rcases h' with ⟨b',rfl,rfl⟩ | ⟨b',T',hT',hgs',rfl,rfl⟩
  ·exact ⟨rfl,rfl⟩
  ·cases b'
  ·cases b'
  ·obtain rfl:=zN1 hT hT' (hgs.symm.trans hgs')
   exact ⟨rfl,rfl⟩
theorem zLD {ns:List OpR} {xs gs:List zD} (hx:xs.length<=127) (h16:∀ o∈xs,o.t.size<=16) (h:zED ns xs gs true):∃ T,Sh T/\gs=nd T 0/\tsz T<=254/\TxL 16 T:=by
 rcases h with ⟨⟨⟨_,ho,_⟩,_⟩,_,rfl⟩ | ⟨_,hv,_⟩
 ·obtain ⟨T,hs,hz,hxs⟩:=zF3 ho
  have hp:=hs.pos
  have hl:zBr xs T 0:=by rw [hxs]; exact ZW T
  have e:=zGX ns xs T 0 hs hl 0 0
  have e0:0+tsz T-1=xs.length-1:=by omega
  rw [e0] at e
  have hf:=zAH T 0 hs hl
  rw [e0] at hf
  have hg:=zBV ns xs (xs.length) (xs.length-1) 0 (by omega) hf 0 0
  rw [e,zi] at hg
  refine ⟨grT ns T 0,zP4 ns T 0 hs,e,by omega,?_⟩
  have h0:TxL 16 T:=zFo 16 T 0 (by rw [<- hxs]; exact h16)
  have:∀ (T:ET) (l:Int),TxL 16 T->TxL 16 (grT ns T l):=by
   intro T
   induction T with
   | nil=>intro l _; exact trivial
   | node b o t l r ihl ihr=>
    rintro k ⟨a0,a1,a2⟩
    simp only [grT]
    split
    ·first | exact ihl _ a1 | exact ihl k a1
    ·first | exact zGd _ _ _ _ _ _ ⟨a0,ihl _ a1,ihr _ a2⟩ | (split <;> first | exact zGd _ _ _ _ _ _ ⟨a0,trivial,trivial⟩ | exact zGd _ _ _ _ _ _ ⟨a0,ihl _ a1,trivial⟩ | exact zGd _ _ _ _ _ _ ⟨a0,ihl _ a1,ihr _ a2⟩)
  exact this T 0 h0
 ·cases hv
theorem zN3:∀ {T:ET},Sh T->1<=(ySy T).length
 | .nil,h=>h.elim
 | .node b o t l r,⟨_,h⟩=>by
  simp only [ySy]
  split
  ·simp
  ·split
   ·simp
   ·split
    ·simp
    ·split
     ·simp; omega
     ·simp
end Go.Proofs.YtfboipappaonhaaGreat
