import Derived.Test.YtfboipappaonhaaGreatRows
import Derived.WalkKit
import Derived.WalkSpells
import Derived.WalkLawsBesides
import Derived.Lib.Walk
import Derived.Deep.Light
import Derived.Deep.MidRow
import Derived.Lib.Bytealg
import Derived.Laws.MakeOwn
import Derived.Deep.RegionHeld
import Derived.Deep.QuietTactic
import Derived.BigQuiet
import Derived.OwnWalk
import Derived.Laws.OwnMore
namespace Go.Proofs.YtfboipappaonhaaGreat
set_option maxHeartbeats 16000000
set_option maxRecDepth 100000
open Go.RowKit
theorem zB {p:Prop} (h:p):Hid p:=h
theorem zA {p:Prop} (h:Hid p):p:=h
theorem zFz {W w1:World} (hb:Below W.heap.size W w1):(∀ b o,b<W.heap.size->w1.cell? ⟨b,o,none⟩=W.cell? ⟨b,o,none⟩)/\(∀ b o,b<W.heap.size->w1.frozen? ⟨b,o,none⟩=W.frozen? ⟨b,o,none⟩):=
 ⟨fun b o h=>hb.cell (p:=⟨b,o,none⟩) h,fun b o h=>hb.frozen (p:=⟨b,o,none⟩) h⟩
theorem zj {a b:Bool} (h:a=b):Ending.returned (.bool a) = .returned (.bool b):=by rw [h]
theorem zF {k:IntKind} {a b:Int} (h:a=b):Ending.returned (.int k a) = .returned (.int k b):=by rw [h]
theorem zIj {a b:ByteArray} (h:a=b):Ending.returned (.string a) = .returned (.string b):=by rw [h]
theorem zC (w:World) (o):Below w.heap.size w (w.alloc o):=(Below.refl _ _).alloc (Nat.le_refl _) _
theorem zAc {B:Nat} {a:World} {g:Nat} (hg:B<=g):∀ (vs:List Value) (o:Nat) (w:World),Below B a w->Below B a (w.setCells g o vs)
 | [],_,_,h=>h
 | v::r,o,_,h=>zAc hg r (o+1) _ (h.setCell (p:=⟨g,o,none⟩) hg v)
end Go.Proofs.YtfboipappaonhaaGreat
namespace Go.Proofs.YtfboipappaonhaaGreat
set_option maxHeartbeats 16000000
set_option maxRecDepth 100000
def sgL:List UInt8:=[43,45,42,47,60,62,61,33,38,124,94,126,63,58,64,37,36,46]
def sgB (c:UInt8):Bool:=sgL.contains c
def zGm (l:List UInt8):Bool:=l.all sgB
def zEX (s:ByteArray):Bool:=zGm s.data.toList&&decide (1<=s.size)&&decide (s.size<=16)
def zF0 (k sd:Int):Bool:=(k==2&&(sd==1||sd==2||sd==3))||((k==1||k==3)&&sd==0)
def okB (s:ByteArray) (k l sd:Int):Bool:=zEX s&&decide (1<=l)&&decide (l<=1000)&&zF0 k sd
def zJs (l sd:Int) (b:Bool):Int:=if sd=(if b then 2 else 1) then l else l+1
def ZJ (s:ByteArray) (k l sd:Int) (b:Bool):Int:=
 if okB s k l sd=false then 0 else if k=2 then zJs l sd b else if b then 0 else l
theorem zBe (s:ByteArray) (k l sd:Int) (h:okB s k l sd=true) :
  (1<=l/\l<=1000)/\((k=2/\sd=1)\/(k=2/\sd=2)\/(k=2/\sd=3)\/(k=1/\sd=0)\/(k=3/\sd=0)):=by
 simp only [okB,zF0,Bool.and_eq_true,Bool.or_eq_true,decide_eq_true_eq,beq_iff_eq] at h
 omega
theorem zJt (s:ByteArray) (k l sd:Int) (b:Bool) (h:okB s k l sd=false):ZJ s k l sd b=0:=by
 simp [ZJ,h]
theorem zPz (c:UInt8):(decide (0<=Lib.indexByte sgL c))=sgB c:=by
 obtain ⟨v⟩:=c
 revert v
 decide +kernel
theorem zMw (c:UInt8) (h:∀ j,j<18->sgL.getD j 0≠c):sgB c=false:=by
 have h':∀ x∈sgL,x≠c:=by
  intro x hx
  obtain ⟨j,hj,e⟩:=List.getElem_of_mem hx
  have:=h j hj
  rw [List.getD_eq_getElem?_getD,List.getElem?_eq_getElem hj] at this
  simpa [e] using this
 unfold sgB
 simp only [List.contains_eq_mem,decide_eq_false_iff_not]
 intro hc
 exact h' c hc rfl
theorem zMx (c:UInt8) (j:Nat) (hj:j<18) (h:sgL.getD j 0=c):sgB c=true:=by
 unfold sgB
 simp only [List.contains_eq_mem,decide_eq_true_eq]
 rw [List.getD_eq_getElem?_getD,List.getElem?_eq_getElem hj] at h
 rw [<- h]
 exact List.getElem_mem _
theorem zMy (l:List UInt8) (c:UInt8):zGm (l++[c])=(zGm l&&sgB c):=by
 simp [zGm]
theorem zMF (s:ByteArray) (k:Nat) (h:k<s.size):s.data.toList.take (k+1)=s.data.toList.take k++[s[k]]:=by
 rw [List.take_succ_eq_append_getElem (by simpa using h)]; rfl
theorem zMz (s:ByteArray) (k:Nat) (h:¬ k<s.size):s.data.toList.take k=s.data.toList:=by
 rw [List.take_of_length_le]; simp; omega
theorem zMG (s:ByteArray) (k:Nat) (h:k<s.size) (hb:sgB s[k]=false):zGm s.data.toList=false:=by
 have hm:s[k]∈s.data.toList:=by
  have:s[k]=s.data.toList[k]'(by simpa using h):=rfl
  rw [this]; exact List.getElem_mem _
 simp only [zGm,List.all_eq_false]
 exact ⟨_,hm,by simp [hb]⟩
theorem zQg (a c:UInt8) (h:((a.toNat:Int)==(c.toNat:Int))=true):a=c:=by
 have:=beq_iff_eq.1 h
 exact UInt8.toNat_inj.1 (by omega)
theorem zQh (a c:UInt8) (h:((a.toNat:Int)==(c.toNat:Int))=false):a≠c:=by
 intro e
 subst e
 simp at h
theorem zLe (k:Nat) (h:k<18) (h':k<(ByteArray.mk #[43,45,42,47,60,62,61,33,38,124,94,126,63,58,64,37,36,46]).size) :
  (ByteArray.mk #[43,45,42,47,60,62,61,33,38,124,94,126,63,58,64,37,36,46])[k]'h'=sgL.getD k 0:=by
 have e:∀ i:Fin 18,(ByteArray.mk #[43,45,42,47,60,62,61,33,38,124,94,126,63,58,64,37,36,46])[i.val]'i.isLt=sgL.getD i.val 0:=by decide
 exact e ⟨k,h⟩
end Go.Proofs.YtfboipappaonhaaGreat
namespace Go.Proofs.YtfboipappaonhaaGreat
set_option maxHeartbeats 16000000
set_option maxRecDepth 100000
open Go.RowKit
structure OpR where
 s:ByteArray
 k:Int
 l:Int
 sd:Int
def OpR.ok (o:OpR):Bool:=okB o.s o.k o.l o.sd
def OpR.zero:OpR:=⟨⟨#[]⟩,0,0,0⟩
def atO (xs:List OpR) (i:Nat):OpR:=xs.getD i OpR.zero
def zAw (w:World) (b off:Nat) (xs:List OpR) (i:Nat):Prop:=
 w.cell? ⟨b,off+i*4,none⟩=some (.string (atO xs i).s)/\w.cell? ⟨b,off+i*4+1,none⟩=some (.int .i64 (atO xs i).k) /\
  w.cell? ⟨b,off+i*4+2,none⟩=some (.int .i64 (atO xs i).l)/\w.cell? ⟨b,off+i*4+3,none⟩=some (.int .i64 (atO xs i).sd)
def Ops (w:World) (b off:Nat) (xs:List OpR):Prop:=∀ i,i<xs.length->zAw w b off xs i
def ZV (xs:List OpR):Prop:=∀ i,i<xs.length->(atO xs i).s.size<=maxLen
theorem zAw.below {w w':World} {b off i:Nat} {xs:List OpR} {B:Nat} (h:zAw w b off xs i) (hb:Below B w w') (hB:b<B):zAw w' b off xs i:=by
 obtain ⟨h0,h1,h2,h3⟩:=h
 exact ⟨(hb.cell (p:=⟨b,_,none⟩) hB).trans h0,(hb.cell (p:=⟨b,_,none⟩) hB).trans h1,(hb.cell (p:=⟨b,_,none⟩) hB).trans h2,(hb.cell (p:=⟨b,_,none⟩) hB).trans h3⟩
theorem Ops.below {w w':World} {b off:Nat} {xs:List OpR} {B:Nat} (h:Ops w b off xs) (hb:Below B w w') (hB:b<B):Ops w' b off xs:=
 fun i hi=>(h i hi).below hb hB
def zBF (xs:List OpR) (k:Nat):Prop:=∀ j,j<k->(atO xs j).ok=true
theorem zH8 {xs:List OpR} {k:Nat} (h:zBF xs k) (hk:(atO xs k).ok=true):zBF xs (k+1):=by
 intro j hj
 by_cases e:j=k
 ·subst e; exact hk
 ·exact h j (by omega)
def zt (w:World) (g:Nat) (xs:List OpR) (k:Nat):Prop:=
 g<w.heap.size/\w.there g 0 (xs.length*4)/\∀ i,i<k->zAw w g 0 xs i
theorem zt.below {w w':World} {g k:Nat} {xs:List OpR} {B:Nat} (h:zt w g xs k) (hb:Below B w w') (hB:g<B):zt w' g xs k:=by
 obtain ⟨h1,h2,h3⟩:=h
 refine ⟨Nat.lt_of_lt_of_le h1 hb.size,fun j hj=>?_,fun i hi=>(h3 i hi).below hb hB⟩
 have:=h2 j hj
 exact ⟨by rw [hb.cell (p:=⟨g,_,none⟩) hB]; exact this.1,by rw [hb.frozen (p:=⟨g,_,none⟩) hB]; exact this.2⟩
theorem zAw.setCell {w:World} {b off i:Nat} {xs:List OpR} (h:zAw w b off xs i) (p:Addr) (v:Value) (hp:p.block≠b):zAw (w.setCell p v) b off xs i:=by
 obtain ⟨h0,h1,h2,h3⟩:=h
 have e:∀ o,(w.setCell p v).cell? ⟨b,o,none⟩=w.cell? ⟨b,o,none⟩:=fun o=>World.cell?_setCell_other _ _ _ _ (fun e=>hp (by rw [e]))
 exact ⟨(e _).trans h0,(e _).trans h1,(e _).trans h2,(e _).trans h3⟩
theorem zt.setCell {w:World} {g k:Nat} {xs:List OpR} (h:zt w g xs k) (p:Addr) (v:Value) (hp:p.block≠g):zt (w.setCell p v) g xs k:=by
 obtain ⟨h1,h2,h3⟩:=h
 refine ⟨by simpa [World.setCell] using h1,fun j hj=>⟨?_,?_⟩,fun i hi=>(h3 i hi).setCell p v hp⟩
 ·rw [World.cell?_setCell_other _ _ _ _ (fun e=>hp (by rw [e]))]; exact (h2 j hj).1
 ·rw [World.frozen?_setCell]; exact (h2 j hj).2
theorem zt.ops {w:World} {g:Nat} {xs:List OpR} (h:zt w g xs xs.length):Ops w g 0 xs:=fun i hi=>h.2.2 i hi
theorem zAK {s t:ByteArray} (h:s.toList=t.toList):s=t:=by
 rw [ByteArray.toList_eq,ByteArray.toList_eq] at h
 obtain ⟨⟨a⟩⟩:=s
 obtain ⟨⟨b⟩⟩:=t
 simp at h
 rw [h]
structure zE (w w':World) (g:Nat):Prop where
 os:w'.os=w.os
 tape:w'.tape=w.tape
 output:w'.output=w.output
 size:w.heap.size<=w'.heap.size
 block:∀ i,i<w.heap.size->i≠g->w'.heap[i]?=w.heap[i]?
theorem zE.refl (w:World) (g:Nat):zE w w g:=⟨rfl,rfl,rfl,Nat.le_refl _,fun _ _ _=>rfl⟩
theorem zE.trans {w w1 w2:World} {g:Nat} (h:zE w w1 g) (h':zE w1 w2 g):zE w w2 g:=
 ⟨h'.os.trans h.os,h'.tape.trans h.tape,h'.output.trans h.output,Nat.le_trans h.size h'.size,fun i hi a=>(h'.block i (Nat.lt_of_lt_of_le hi h.size) a).trans (h.block i hi a)⟩
theorem zE.of_below {w w':World} {g:Nat} (h:Below w.heap.size w w'):zE w w' g:=⟨h.os,h.tape,h.output,h.size,fun i hi _=>h.block i hi⟩
theorem zE.cell {w w':World} {g:Nat} (h:zE w w' g) {b:Nat} (hb:b<w.heap.size) (h1:b≠g) (o:Nat):w'.cell? ⟨b,o,none⟩=w.cell? ⟨b,o,none⟩:=
 World.cell?_of_block (w:=w) (h.block b hb h1)
theorem zE.frozen {w w':World} {g:Nat} (h:zE w w' g) {b:Nat} (hb:b<w.heap.size) (h1:b≠g) (o:Nat):w'.frozen? ⟨b,o,none⟩=w.frozen? ⟨b,o,none⟩:=
 World.frozen?_of_block (w:=w) (h.block b hb h1)
theorem zE.below {w w':World} {g B:Nat} (h:zE w w' g) (hB:B<=w.heap.size) (h1:B<=g):Below B w w':=
 ⟨h.os,h.tape,h.output,h.size,fun i hi=>h.block i (by omega) (by omega)⟩
theorem zAd {g:Nat}:∀ (vs:List Value) (o:Nat) (w:World),zE w (w.setCells g o vs) g
 | [],_,w=>zE.refl w g
 | v::r,o,w=>(show zE w (w.setCell ⟨g,o,none⟩ v) g from ⟨rfl,rfl,rfl,by simp [World.setCell],fun _ _ hi=>Below.heap_setCell _ _ _ _ hi⟩).trans (zAd r (o+1) _)
theorem zE.ops {w w':World} {g b off:Nat} {xs:List OpR} (h:zE w w' g) (ho:Ops w b off xs) (hb:b<w.heap.size) (hne:b≠g):Ops w' b off xs:=fun i hi=>by
 obtain ⟨a0,a1,a2,a3⟩:=ho i hi
 have e:=h.cell hb hne
 exact ⟨(e _).trans a0,(e _).trans a1,(e _).trans a2,(e _).trans a3⟩
theorem zE.filled {w w':World} {g b k:Nat} {xs:List OpR} (h:zE w w' g) (ho:zt w b xs k) (hne:b≠g):zt w' b xs k:=by
 obtain ⟨h1,h2,h3⟩:=ho
 have e:=h.cell h1 hne
 have f:=h.frozen h1 hne
 refine ⟨Nat.lt_of_lt_of_le h1 h.size,fun j hj=>⟨by rw [e]; exact (h2 j hj).1,by rw [f]; exact (h2 j hj).2⟩,fun i hi=>?_⟩
 obtain ⟨a0,a1,a2,a3⟩:=h3 i hi
 exact ⟨(e _).trans a0,(e _).trans a1,(e _).trans a2,(e _).trans a3⟩
theorem ze {w w':World} {g:Nat} (h:zE w w' g):w.grownBy w' (some g):=⟨h.os,h.tape,h.output,h.size,fun i hi e=>h.block i hi (fun x=>e (by rw [x]))⟩
end Go.Proofs.YtfboipappaonhaaGreat
namespace Go.Proofs.YtfboipappaonhaaGreat
set_option linter.unusedSimpArgs false
set_option maxHeartbeats 16000000
set_option maxRecDepth 100000
open Go.RowKit
def nxt (bs:List UInt8) (p:Nat):Nat:=(bs.getD p 0).toNat
def adv (bs:List UInt8) (p:Nat):Nat:=if p<bs.length then p+1 else p
theorem zKq (bs:List UInt8) (p:Nat):nxt bs p<256:=UInt8.toNat_lt _
theorem zM0 {bs:List UInt8} {p:Nat} (h:p<=bs.length):adv bs p<=bs.length:=by unfold adv; split <;> omega
structure RdS (w:World) (rp:Nat) (a:Option Addr) (cap:Nat) (bs:List UInt8) (p:Nat):Prop where
 c0:w.cell? ⟨rp,0,none⟩=some (.slice a bs.length cap)
 c1:w.cell? ⟨rp,1,none⟩=some (.int .i64 (p:Int))
 fz:w.frozen? ⟨rp,1,none⟩=false
 le:p<=bs.length
 bts:bs.length=0\/∃ b off,a=some ⟨b,off,none⟩/\b<rp/\∀ i,i<bs.length->w.cell? ⟨b,off+i,none⟩=some (.int .u8 ((bs.getD i 0).toNat:Int))
theorem RdS.lt {w:World} {rp cap p:Nat} {a:Option Addr} {bs:List UInt8} (h:RdS w rp a cap bs p):rp<w.heap.size:=block_lt_of_cell h.c0
theorem RdS.kept {w w':World} {rp cap p:Nat} {a:Option Addr} {bs:List UInt8} (h:RdS w rp a cap bs p) (hb:∀ i,i<=rp->w'.heap[i]?=w.heap[i]?):RdS w' rp a cap bs p:=by
 have e:=fun o=>World.cell?_of_block (w:=w) (w':=w') (a:=⟨rp,o,none⟩) (hb rp (Nat.le_refl _))
 refine ⟨(e _).trans h.c0,(e _).trans h.c1,(World.frozen?_of_block (w:=w) (w':=w') (a:=⟨rp,1,none⟩) (hb rp (Nat.le_refl _))).trans h.fz,h.le,?_⟩
 rcases h.bts with h0 | ⟨b,off,ha,hlt,hc⟩
 ·exact Or.inl h0
 ·exact Or.inr ⟨b,off,ha,hlt,fun i hi=>(World.cell?_of_block (w:=w) (w':=w') (a:=⟨b,off+i,none⟩) (hb b (Nat.le_of_lt hlt))).trans (hc i hi)⟩
theorem RdS.below {w w':World} {rp cap p:Nat} {a:Option Addr} {bs:List UInt8} (h:RdS w rp a cap bs p) (hb:Below w.heap.size w w'):RdS w' rp a cap bs p:=
 h.kept (fun i hi=>hb.block i (by have:=h.lt; omega))
theorem RdS.move {w:World} {rp cap p:Nat} {a:Option Addr} {bs:List UInt8} (h:RdS w rp a cap bs p) (hp:p<bs.length) (n:Int) (hn:n=((p+1:Nat):Int)):RdS (w.setCell ⟨rp,1,none⟩ (.int .i64 n)) rp a cap bs (p+1):=by
 subst hn
 refine ⟨(World.cell?_setCell_other _ _ _ _ (by simp)).trans h.c0,World.cell?_setCell_same _ _ _ h.c1,(World.frozen?_setCell _ _ _ _).trans h.fz,by omega,?_⟩
 rcases h.bts with h0 | ⟨b,off,ha,hlt,hc⟩
 ·exact Or.inl h0
 ·exact Or.inr ⟨b,off,ha,hlt,fun i hi=>(World.cell?_setCell_other _ _ _ _ (fun e=>by simp at e; first | done | omega)).trans (hc i hi)⟩
theorem Zz (w:World) (n g:Nat):zE w (w.drewN n) g:=⟨rfl,rfl,rfl,Nat.le_refl _,fun _ _ _=>rfl⟩
theorem zAE (w:World) (p o:Nat) (v:Value):zE w (w.setCell ⟨p,o,none⟩ v) p:=zAd [v] o w
theorem RdS.drewN {w:World} {rp cap p:Nat} {a:Option Addr} {bs:List UInt8} (h:RdS w rp a cap bs p) (n:Nat):RdS (w.drewN n) rp a cap bs p:=h.kept (fun _ _=>rfl)
theorem zM1 (rp cap p:Nat) (a:Option Addr) (bs:List UInt8) (w:World) (h:RdS w rp a cap bs p) (hl:bs.length<=1200) :
  Calls Tryz.prog 48 #[.pointer (some ⟨rp,0,none⟩)] w fun e w'=>e = .returned (.int .i64 (nxt bs p:Int))/\Hid (RdS w' rp a cap bs (adv bs p))/\zE w w' rp:=by
 have H:=zB h
 obtain ⟨c0,c1,fz,le,bts⟩:=h
 by_cases hp:p<bs.length
 ·have hpI:(p:Int)<(bs.length:Int):=by omega
  rcases bts with h0 | ⟨b,off,rfl,hlt,hc⟩
  ·omega
  have b0:=hc p hp
  have HA:=zB (show adv bs p=p+1 by simp [adv,hp])
  have HN:=zB (show nxt bs p=(bs.getD p 0).toNat from rfl)
  clear hc
  go_enter Tryz.func48,Tryz.ntmps48
  go_wp2_with fail
  go_quiet (fail)
  go_wp2_with fail
  go_quiet (fail)
  go_wp2_with fail
  go_ret
  rw [zA HA]
  refine ⟨zF ?_,zB (((zA H).drewN _).move hp _ (by omega)),(Zz w _ _).trans (zAE _ rp 1 _)⟩
  have h8:nxt bs p<256:=zKq bs p
  have h9:nxt bs p=bs[p].toNat:=by simp [nxt,hp]
  rw [h9] at h8 ⊢
  unfold wrap64
  omega
 ·have hpI:¬ (p:Int)<(bs.length:Int):=by omega
  have HA:=zB (show adv bs p=p by simp [adv,hp])
  have HN:=zB (show nxt bs p=0 by simp [nxt,hp])
  go_enter Tryz.func48,Tryz.ntmps48
  go_wp2_with fail
  go_quiet (fail)
  go_wp2_with fail
  go_ret
  rw [zA HA,zA HN]
  exact ⟨rfl,zB ((zA H).drewN _),Zz w _ _⟩
theorem zAC (rp cap p:Nat) (a:Option Addr) (bs:List UInt8) (w:World) (h:RdS w rp a cap bs p) (hl:bs.length<=1200) :
  Calls Tryz.prog 48 #[.pointer (some ⟨rp,0,none⟩)] w fun e w'=>(∃ k:Nat,e = .returned (.int .i64 (k:Int))/\k<256/\Hid (k=nxt bs p))/\Hid (RdS w' rp a cap bs (adv bs p))/\Hid (zE w w' rp):=by
 refine (zM1 rp cap p a bs w h hl).mono ?_
 rintro e w' ⟨rfl,h1,h2⟩
 exact ⟨⟨nxt bs p,rfl,zKq bs p,zB rfl⟩,h1,zB h2⟩
theorem zCt (rp cap p:Nat) (a:Option Addr) (bs:List UInt8) (w:World) (h:RdS w rp a cap bs p) (hl:bs.length<=1200) :
  Calls Tryz.prog 162 #[.pointer (some ⟨rp,0,none⟩)] w fun e w'=>e = .returned (.int .i64 ((bs.length-p:Nat):Int))/\Hid (RdS w' rp a cap bs p)/\Below w.heap.size w w':=by
 have H:=zB h
 obtain ⟨c0,c1,fz,le,bts⟩:=h
 clear bts
 go_enter Tryz.func162,Tryz.ntmps162
 go_wp2_with fail
 go_quiet (fail)
 go_wp2_with fail
 go_ret
 exact ⟨zF (by omega),zB ((zA H).drewN _),⟨rfl,rfl,rfl,Nat.le_refl _,fun _ _=>rfl⟩⟩
def zGG (l:List UInt8):List UInt8:=l.take 1200
def zIk (w:World) (a:Option Addr) (l:List UInt8):Prop:=l.length=0\/∃ b off,a=some ⟨b,off,none⟩/\b<w.heap.size/\∀ i,i<l.length->w.cell? ⟨b,off+i,none⟩=some (.int .u8 ((l.getD i 0).toNat:Int))
theorem zKr (a:Option Addr) (cap:Nat) (l:List UInt8) (w:World) (hl:l.length<=1048576) (hcap:l.length<=cap) (h:zIk w a l) :
  Calls Tryz.prog 47 #[.slice a l.length cap] w fun e w'=>(∃ rp cap',e = .returned (.pointer (some ⟨rp,0,none⟩))/\w.heap.size<=rp/\Hid (RdS w' rp a cap' (zGG l) 0))/\Below w.heap.size w w':=by
 have H:=zB h
 clear h
 by_cases h12:1200<l.length
 ·have h12':(1200:Int)<(l.length:Int):=by omega
  rcases zA H with h0 | ⟨b,off,rfl,hb,hc⟩
  ·omega
  have HC:=zB hc
  clear hc
  have hci:(1200:Int)<=(cap:Int):=by omega
  go_enter Tryz.func47,Tryz.ntmps47
  go_wp2_with fail
  go_ret
  have hr:RdS (w.alloc (.cells #[.slice (some ⟨b,off,none⟩) 1200 cap,.int .i64 0] 172)) w.heap.size (some ⟨b,off,none⟩) cap (zGG l) 0:=by
   have hlen:(zGG l).length=1200:=by simp [zGG]; omega
   refine ⟨by rw [hlen]; simp [go_sem],by simp [go_sem],by simp [go_sem],Nat.zero_le _,Or.inr ⟨b,off,rfl,hb,fun i hi=>?_⟩⟩
   rw [hlen] at hi
   rw [(zC w _).cell (p:=⟨b,off+i,none⟩) hb,(zA HC) i (by omega)]
   simp [zGG,hi,List.getElem?_take]
  refine ⟨?_,zC _ _⟩
  first
   | exact ⟨w.heap.size,cap,rfl,Nat.le_refl _,zB hr⟩
   | exact ⟨w.heap.size,rfl,Nat.le_refl _,cap,zB hr⟩
 ·have h12':¬ (1200:Int)<(l.length:Int):=by omega
  have HE:=zB (show zGG l=l from List.take_of_length_le (by omega))
  go_enter Tryz.func47,Tryz.ntmps47
  go_wp2_with fail
  go_ret
  have hr:RdS (w.alloc (.cells #[.slice a l.length cap,.int .i64 0] 172)) w.heap.size a cap (zGG l) 0:=by
   rw [zA HE]
   refine ⟨by simp [go_sem],by simp [go_sem],by simp [go_sem],Nat.zero_le _,?_⟩
   rcases zA H with h0 | ⟨b,off,rfl,hb,hc⟩
   ·exact Or.inl h0
   ·exact Or.inr ⟨b,off,rfl,hb,fun i hi=>((zC w _).cell (p:=⟨b,off+i,none⟩) hb).trans (hc i hi)⟩
  refine ⟨?_,zC _ _⟩
  first
   | exact ⟨w.heap.size,cap,rfl,Nat.le_refl _,zB hr⟩
   | exact ⟨w.heap.size,rfl,Nat.le_refl _,cap,zB hr⟩
end Go.Proofs.YtfboipappaonhaaGreat
namespace Go.Proofs.YtfboipappaonhaaGreat
set_option maxHeartbeats 16000000
set_option maxRecDepth 100000
open Go.RowKit
theorem zZ {w w':World} (h:Below w.heap.size w w') (row:Option Nat):w.grownBy w' row:=⟨h.os,h.tape,h.output,h.size,fun i hi _=>h.block i hi⟩
theorem zN {w w1 w2:World} {row:Option Nat} (h:Below w.heap.size w w1) (h2:w1.grownBy w2 row):w.grownBy w2 row:=
 ⟨h2.os.trans h.os,h2.tape.trans h.tape,h2.output.trans h.output,Nat.le_trans h.size h2.size,fun i hi hr=>(h2.block i (Nat.lt_of_lt_of_le hi h.size) hr).trans (h.block i hi)⟩
theorem zO {w w1 w2:World} {row row':Option Nat} (h:w.grownBy w1 row) (h2:w1.grownBy w2 row') (hr:row'=row\/∃ k,row'=some k/\w.heap.size<=k):w.grownBy w2 row:=
 ⟨h2.os.trans h.os,h2.tape.trans h.tape,h2.output.trans h.output,Nat.le_trans h.size h2.size,fun i hi hne=>(h2.block i (Nat.lt_of_lt_of_le hi h.size) (fun e=>by
  rcases hr with rfl | ⟨k,rfl,hk⟩
  ·exact hne e
  ·injection e with e; omega)).trans (h.block i hi hne)⟩
theorem zH {w w':World} {row:Option Nat} (h:w.grownBy w' row) {b:Nat} (hb:b<w.heap.size) (hne:row≠some b) (o:Nat):w'.cell? ⟨b,o,none⟩=w.cell? ⟨b,o,none⟩:=
 World.cell?_of_block (w:=w) (h.block b hb (fun e=>hne e.symm))
theorem ZN {w w':World} {row row':Option Nat} (h:w.grownBy w' row) (hr:row'=row\/∃ k,row'=some k/\w.heap.size<=k) (r:Option Nat) (hr2:r=row'\/∃ k,r=some k/\w'.heap.size<=k):r=row\/∃ k,r=some k/\w.heap.size<=k:=by
 have:=h.size
 rcases hr2 with rfl | ⟨k,rfl,hk⟩
 ·exact hr
 ·exact Or.inr ⟨k,rfl,by omega⟩
theorem zl {t:TypeId} {z:Value} {s b:Nat} (h:(Tryz.prog.info? t).map (fun i=>(i.zero,i.size,i.bytes))=some (some z,s,b)):∃ i,Tryz.prog.info? t=some i/\i.zero=some z/\i.size=s/\i.bytes=b:=by
 obtain ⟨i,hi,hz⟩:=Option.map_eq_some_iff.1 h
 simp only [Prod.mk.injEq] at hz
 exact ⟨i,hi,hz.1,hz.2.1,hz.2.2⟩
def bt (s:ByteArray) (i:Nat):UInt8:=s.data[i]?.getD 0
theorem ZS {s:ByteArray} {i:Nat} (h:i<s.size):s[i]=bt s i:=by
 have h':i<s.data.size:=h
 show s.data[i]=_
 unfold bt
 rw [Array.getElem?_eq_getElem h']
 rfl
def cls (c:UInt8):Nat:=
 if c.toNat=32\/c.toNat=9\/c.toNat=10 then 1
 else if 48<=c.toNat/\c.toNat<=57 then 2
 else if (65<=c.toNat/\c.toNat<=90)\/(97<=c.toNat/\c.toNat<=122)\/c.toNat=95 then 3
 else if c.toNat=40 then 4
 else if c.toNat=41 then 5
 else if sgB c=true then 6
 else 0
theorem zIl (c:UInt8):sgB c=decide (cls c=6):=by
 obtain ⟨v⟩:=c
 revert v
 decide +kernel
theorem zMH (c:UInt8):(cls c=1)↔(c.toNat=32\/c.toNat=9\/c.toNat=10):=by
 obtain ⟨v⟩:=c
 revert v
 decide +kernel
theorem zOk (c:UInt8):(cls c=2)↔(48<=c.toNat/\c.toNat<=57):=by
 obtain ⟨v⟩:=c
 revert v
 decide +kernel
theorem zOl (c:UInt8):(cls c=3)↔((65<=c.toNat/\c.toNat<=90)\/(97<=c.toNat/\c.toNat<=122)\/c.toNat=95):=by
 obtain ⟨v⟩:=c
 revert v
 decide +kernel
theorem zEr (c:UInt8):(cls c=4)↔c=40:=by
 obtain ⟨v⟩:=c
 revert v
 decide +kernel
theorem zD9 (c:UInt8):(cls c=5)↔c=41:=by
 obtain ⟨v⟩:=c
 revert v
 decide +kernel
theorem zM2 (c:UInt8):cls c<7:=by
 unfold cls
 split
 ·omega
 ·split
  ·omega
  ·split
   ·omega
   ·split
    ·omega
    ·split
     ·omega
     ·split <;> omega
def zDo (t:ByteArray):Prop:=1<=t.size/\∀ j,j<t.size->cls (bt t j)=2
def zBR (t:ByteArray):Prop:=1<=t.size/\∀ j,j<t.size->(cls (bt t j)=3\/(j≠0/\cls (bt t j)=2))
def zP0 (t:ByteArray):Bool:=decide (1<=t.size)&&(List.range t.size).all fun j=>cls (bt t j)==2
def zM3 (t:ByteArray):Bool:=decide (1<=t.size)&&(List.range t.size).all fun j=>cls (bt t j)==3||(j != 0&&cls (bt t j)==2)
theorem Z0 (t:ByteArray):zP0 t=true↔zDo t:=by
 simp [zP0,zDo,List.all_eq_true]
theorem Zw (t:ByteArray):zM3 t=true↔zBR t:=by
 simp [zM3,zBR,List.all_eq_true]
theorem zCU (t:ByteArray) (a:Array UInt8):t.data=a↔t=⟨a⟩:=⟨fun h=>by cases t; simp_all,fun h=>by rw [h]⟩
structure zK where
 k:Int
 g:ByteArray
 t:ByteArray
def zK.zero:zK:=⟨0,⟨#[]⟩,⟨#[]⟩⟩
def atT (xs:List zK) (i:Nat):zK:=xs.getD i zK.zero
def zEY (w:World) (b off:Nat) (xs:List zK) (i:Nat):Prop:=
 w.cell? ⟨b,off+i*3,none⟩=some (.int .i64 (atT xs i).k)/\w.cell? ⟨b,off+i*3+1,none⟩=some (.string (atT xs i).g)/\w.cell? ⟨b,off+i*3+2,none⟩=some (.string (atT xs i).t)
def zCS (w:World) (b off:Nat) (xs:List zK):Prop:=∀ i,i<xs.length->zEY w b off xs i
def zM4 (xs:List zK):Prop:=∀ i,i<xs.length->(atT xs i).g.size<=maxLen/\(atT xs i).t.size<=maxLen
theorem zEY.below {w w':World} {b off i:Nat} {xs:List zK} {B:Nat} (h:zEY w b off xs i) (hb:Below B w w') (hB:b<B):zEY w' b off xs i:=by
 obtain ⟨h0,h1,h2⟩:=h
 exact ⟨(hb.cell (p:=⟨b,_,none⟩) hB).trans h0,(hb.cell (p:=⟨b,_,none⟩) hB).trans h1,(hb.cell (p:=⟨b,_,none⟩) hB).trans h2⟩
theorem zCS.below {w w':World} {b off:Nat} {xs:List zK} {B:Nat} (h:zCS w b off xs) (hb:Below B w w') (hB:b<B):zCS w' b off xs:=
 fun i hi=>(h i hi).below hb hB
def zM5 (o:zK):Nat:=o.g.size+o.t.size
def ZO (xs:List zK):Nat->Nat
 | 0=>0
 | k+1=>ZO xs k+zM5 (atT xs k)
def zGR (w:World) (g:Nat) (xs:List zK) (k:Nat):Prop:=
 g<w.heap.size/\w.there g 0 (xs.length*3)/\∀ i,i<k->zEY w g 0 xs i
theorem zPs:(Tryz.prog.info? 97).map (fun i=>(i.zero,i.size,i.bytes))=some (some (.agg #[.int .i64 0,.string ⟨#[]⟩,.string ⟨#[]⟩]),3,40):=by kernel_rfl
end Go.Proofs.YtfboipappaonhaaGreat
