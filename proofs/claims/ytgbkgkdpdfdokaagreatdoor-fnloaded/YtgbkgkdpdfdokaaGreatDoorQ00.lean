import Derived.Test.YtgbkgkdpdfdokaaGreatDoorRows
import Derived.WalkSpells
import Derived.WalkLawsBesides
import Derived.Lib.Walk
import Derived.Deep.Light
import Derived.Lib.SplitLaws
import Derived.Deep.RegionHeld
import Derived.BigQuiet
namespace Go.Proofs.YtgbkgkdpdfdokaaGreatDoor
set_option linter.all false
set_option maxHeartbeats 16000000
set_option maxRecDepth 100000
open Go.RowKit
abbrev JZ:=ByteArray
abbrev JY:=World
def ya:=@List.getElem_cons_succ
def yb:=@List.getElem_cons_zero
def yc:=@List.getElem_toArray
def yd:=@List.setIfInBounds_toArray
def ye:=@List.set_cons_zero
def yf:=@List.set_cons_succ
def yg:=@World.cell?_setCell_other
def yh:=@Nat.le_refl
def yi:=@Nat.lt_of_lt_of_le
def yj:=@Nat.zero_le
def yk:=@List.getD_eq_getElem?_getD
def ym:=@List.length_append
def yn:=@List.getElem?_eq_getElem
def yo:=@World.cell?_setCell_same
def yp:=@World.cell?_of_block
def yq:=@World.frozen?_setCell
def yr:=@Nat.le_trans
def yt:=@Nat.not_lt_zero
def yu:=@Int.tmod_eq_emod_of_nonneg
def yv:=@List.length_cons
def yw:=@ByteArray.size_extract
def yx:=@List.append_assoc
def yy:=@List.mem_of_getElem?
def yz:=@World.rangeAt_of_block
def yA:=@World.frozen?_of_block
def yB:=@List.getElem?_append_left
def yC:=@ByteArray.toList_eq
def yD:=@World.ownsRow_lit
def yE:=@AllReadyH.cons
def yF:=@AllReadyH.nil
def yG:=@Below.refl
def yH:=@And.intro
def yI:=@wpAnyH_take
def yJ:=@wpList_append_own_at
def yK:=@bodyPost_ret
def yL:=@wpAnyH_ready
def yN:=@if_neg
def yO:=@if_pos
def yP:=@absurd
def yQ:=@Or.inl
def yR:=@Or.inr
def yS:=@congrArg
def yT:=@decide_eq_false_iff_not
def yU:=@beq_eq_false_iff_ne
def yV:=@Nat.zero_add
def yW:=@List.length_nil
def yX:=@List.getElem?_eq_some_iff
def yY:=@List.length_eq_zero_iff
def yZ:=@Below.heap_setCell
variable {a:Option Addr} {b cap g i off p rp:Nat} {bs:List UInt8} {s:ByteArray} {w w' w1:World} {ws:List ByteArray}
theorem zB {p:Prop} (h:p):Hid p:=h
theorem zA {p:Prop} (h:Hid p):p:=h
theorem zJX {W:JY} (hb:Below W.heap.size W w1):(∀ b o,b<W.heap.size->w1.cell? ⟨b,o,none⟩=W.cell? ⟨b,o,none⟩)/\(∀ b o,b<W.heap.size->w1.frozen? ⟨b,o,none⟩=W.frozen? ⟨b,o,none⟩):=
 ⟨fun b o h=>hb.cell (p:=⟨b,o,none⟩) h,fun b o h=>hb.frozen (p:=⟨b,o,none⟩) h⟩
theorem zj {a b:Bool} (h:a=b):Ending.returned (.bool a) = .returned (.bool b):=by rw [h]
theorem zJ {k:IntKind} {a b:Int} (h:a=b):Ending.returned (.int k a) = .returned (.int k b):=by rw [h]
theorem zLy {a b:JZ} (h:a=b):Ending.returned (.string a) = .returned (.string b):=by rw [h]
theorem zC (w:JY) (o):Below w.heap.size w (w.alloc o):=(yG _ _).alloc (yh _) _
theorem zK {B:Nat} {a:JY} {g:Nat} (hg:B<=g):∀ (vs:List Value) (o:Nat) (w:JY),Below B a w->Below B a (w.setCells g o vs)
 | [],_,_,h=>h
 | v::r,o,_,h=>zK hg r (o+1) _ (h.setCell (p:=⟨g,o,none⟩) hg v)
def sgL:List UInt8:=[43,45,42,47,60,62,61,33,38,124,94,126,63,58,64,37,36,46]
def sgB (c:UInt8):Bool:=sgL.contains c
def zGQ (l:List UInt8):Bool:=l.all sgB
def zD8 (s:JZ):Bool:=zGQ s.data.toList&&decide (1<=s.size)&&decide (s.size<=16)
def zEV (k sd:Int):Bool:=(k==2&&(sd==1||sd==2||sd==3))||((k==1||k==3)&&sd==0)
def okB (s:JZ) (k l sd:Int):Bool:=zD8 s&&decide (1<=l)&&decide (l<=1000)&&zEV k sd
def zQy (l sd:Int) (b:Bool):Int:=if sd=(if b then 2 else 1) then l else l+1
def zBF (s:JZ) (k l sd:Int) (b:Bool):Int:=
 if okB s k l sd=false then 0 else if k=2 then zQy l sd b else if b then 0 else l
theorem zB0 (s:JZ) (k l sd:Int) (h:okB s k l sd=true) :
  (1<=l/\l<=1000)/\((k=2/\sd=1)\/(k=2/\sd=2)\/(k=2/\sd=3)\/(k=1/\sd=0)\/(k=3/\sd=0)):=by
 simp only [okB,zEV,Bool.and_eq_true,Bool.or_eq_true,decide_eq_true_eq,beq_iff_eq] at h
 omega
theorem zNJ (s:JZ) (k l sd:Int) (b:Bool) (h:okB s k l sd=false):zBF s k l sd b=0:=by
 simp [zBF,h]
theorem zQz (c:UInt8):(decide (0<=Lib.indexByte sgL c))=sgB c:=by
 obtain ⟨v⟩:=c
 revert v
 decide +kernel
theorem zNK (c:UInt8) (h:∀ j,j<18->sgL.getD j 0≠c):sgB c=false:=by
 have h':∀ x∈sgL,x≠c:=by
  intro x hx
  obtain ⟨j,hj,e⟩:=List.getElem_of_mem hx
  have:=h j hj
  rw [yk,yn hj] at this
  simpa [e] using this
 unfold sgB
 simp only [List.contains_eq_mem,yT]
 intro hc
 exact h' c hc rfl
theorem zNL (c:UInt8) (j:Nat) (hj:j<18) (h:sgL.getD j 0=c):sgB c=true:=by
 unfold sgB
 simp only [List.contains_eq_mem,decide_eq_true_eq]
 rw [yk,yn hj] at h
 rw [<- h]
 exact List.getElem_mem _
theorem zNM (l:List UInt8) (c:UInt8):zGQ (l++[c])=(zGQ l&&sgB c):=by
 simp [zGQ]
theorem zMf (s:JZ) (k:Nat) (h:k<s.size):s.data.toList.take (k+1)=s.data.toList.take k++[s[k]]:=by
 rw [List.take_succ_eq_append_getElem (by simpa using h)]; rfl
theorem zNN (s:JZ) (k:Nat) (h:¬ k<s.size):s.data.toList.take k=s.data.toList:=by
 rw [List.take_of_length_le]; simp; omega
theorem zMg (s:JZ) (k:Nat) (h:k<s.size) (hb:sgB s[k]=false):zGQ s.data.toList=false:=by
 have hm:s[k]∈s.data.toList:=by
  have:s[k]=s.data.toList[k]'(by simpa using h):=rfl
  rw [this]; exact List.getElem_mem _
 simp only [zGQ,List.all_eq_false]
 exact ⟨_,hm,by simp [hb]⟩
theorem zRo (a c:UInt8) (h:((a.toNat:Int)==(c.toNat:Int))=true):a=c:=by
 have:=beq_iff_eq.1 h
 exact UInt8.toNat_inj.1 (by omega)
theorem zRp (a c:UInt8) (h:((a.toNat:Int)==(c.toNat:Int))=false):a≠c:=by
 intro e
 subst e
 simp at h
theorem zLz (k:Nat) (h:k<18) (h':k<(ByteArray.mk #[43,45,42,47,60,62,61,33,38,124,94,126,63,58,64,37,36,46]).size) :
  (ByteArray.mk #[43,45,42,47,60,62,61,33,38,124,94,126,63,58,64,37,36,46])[k]'h'=sgL.getD k 0:=by
 have e:∀ i:Fin 18,(ByteArray.mk #[43,45,42,47,60,62,61,33,38,124,94,126,63,58,64,37,36,46])[i.val]'i.isLt=sgL.getD i.val 0:=by decide
 exact e ⟨k,h⟩
structure OpR where
 s:JZ
 k:Int
 l:Int
 sd:Int
variable {o:OpR} {xs:List OpR}
def OpR.ok (o:OpR):Bool:=okB o.s o.k o.l o.sd
def OpR.zero:OpR:=⟨⟨#[]⟩,0,0,0⟩
def atO (xs:List OpR) (i:Nat):OpR:=xs.getD i OpR.zero
def zBp (w:JY) (b h:Nat) (xs:List OpR) (i:Nat):Prop:=
 w.cell? ⟨b,h+i*4,none⟩=some (.string (atO xs i).s)/\w.cell? ⟨b,h+i*4+1,none⟩=some (.int .i64 (atO xs i).k) /\
  w.cell? ⟨b,h+i*4+2,none⟩=some (.int .i64 (atO xs i).l)/\w.cell? ⟨b,h+i*4+3,none⟩=some (.int .i64 (atO xs i).sd)
def Ops (w:JY) (b h:Nat) (xs:List OpR):Prop:=∀ i,i<xs.length->zBp w b h xs i
def Zg (xs:List OpR):Prop:=∀ i,i<xs.length->(atO xs i).s.size<=maxLen
theorem zBp.below {B:Nat} (h:zBp w b off xs i) (hb:Below B w w') (hB:b<B):zBp w' b off xs i:=by
 obtain ⟨h0,h1,h2,h3⟩:=h
 exact ⟨(hb.cell (p:=⟨b,_,none⟩) hB).trans h0,(hb.cell (p:=⟨b,_,none⟩) hB).trans h1,(hb.cell (p:=⟨b,_,none⟩) hB).trans h2,(hb.cell (p:=⟨b,_,none⟩) hB).trans h3⟩
theorem Ops.below {w w':JY} {b H:Nat} {xs:List OpR} {B:Nat} (h:Ops w b H xs) (hb:Below B w w') (hB:b<B):Ops w' b H xs:=
 fun i hi=>(h i hi).below hb hB
def zB1 (xs:List OpR) (k:Nat):Prop:=∀ j,j<k->(atO xs j).ok=true
theorem zHx {k:Nat} (h:zB1 xs k) (hk:(atO xs k).ok=true):zB1 xs (k+1):=by
 intro j hj
 by_cases e:j=k
 ·subst e; exact hk
 ·exact h j (by omega)
def bt (s:JZ) (i:Nat):UInt8:=s.data[i]?.getD 0
theorem ZP (h:i<s.size):s[i]=bt s i:=by
 have h':i<s.data.size:=h
 show s.data[i]=_
 unfold bt
 rw [Array.getElem?_eq_getElem h']
 rfl
def cls (c:UInt8):Nat:=
 if c.toNat=32\/c.toNat=9\/c.toNat=10 then 1
 else if 48<=c.toNat/\c.toNat<=57 then 2
 else if (65<=c.toNat/\c.toNat<=90)\/(97<=c.toNat/\c.toNat<=122)\/c.toNat=95 then 3
 else if c.toNat=40 then 4
 else if c.toNat=41 then 5
 else if sgB c=true then 6
 else 0
theorem zIl (c:UInt8):sgB c=decide (cls c=6):=by
 obtain ⟨v⟩:=c
 revert v
 decide +kernel
theorem zMh (c:UInt8):(cls c=1)↔(c.toNat=32\/c.toNat=9\/c.toNat=10):=by
 obtain ⟨v⟩:=c
 revert v
 decide +kernel
theorem zCj (c:UInt8):(cls c=2)↔(48<=c.toNat/\c.toNat<=57):=by
 obtain ⟨v⟩:=c
 revert v
 decide +kernel
theorem zPR (c:UInt8):(cls c=3)↔((65<=c.toNat/\c.toNat<=90)\/(97<=c.toNat/\c.toNat<=122)\/c.toNat=95):=by
 obtain ⟨v⟩:=c
 revert v
 decide +kernel
theorem zEW (c:UInt8):(cls c=4)↔c=40:=by
 obtain ⟨v⟩:=c
 revert v
 decide +kernel
theorem zDg (c:UInt8):(cls c=5)↔c=41:=by
 obtain ⟨v⟩:=c
 revert v
 decide +kernel
theorem zQ0 (c:UInt8):cls c<7:=by
 unfold cls
 split
 ·omega
 ·split
  ·omega
  ·split
   ·omega
   ·split
    ·omega
    ·split
     ·omega
     ·split <;> omega
def zD9 (t:JZ):Prop:=1<=t.size/\∀ j,j<t.size->cls (bt t j)=2
def zA2 (t:JZ):Prop:=1<=t.size/\∀ j,j<t.size->(cls (bt t j)=3\/(j≠0/\cls (bt t j)=2))
def zPS (t:JZ):Bool:=decide (1<=t.size)&&(List.range t.size).all fun j=>cls (bt t j)==2
def zNO (t:JZ):Bool:=decide (1<=t.size)&&(List.range t.size).all fun j=>cls (bt t j)==3||(j != 0&&cls (bt t j)==2)
theorem Zj (t:JZ):zPS t=true↔zD9 t:=by
 simp [zPS,zD9,List.all_eq_true]
theorem Zq (t:JZ):zNO t=true↔zA2 t:=by
 simp [zNO,zA2,List.all_eq_true]
theorem zCH (t:JZ) (a:Array UInt8):t.data=a↔t=⟨a⟩:=⟨fun h=>by cases t; simp_all,fun h=>by rw [h]⟩
def nxF (c:UInt8) (s:JZ):Nat->Nat->Nat
 | 0,i=>i
 | n+1,i=>if i<s.size/\bt s i≠c then nxF c s n (i+1) else i
def nx (c:UInt8) (s:JZ) (i:Nat):Nat:=nxF c s (s.size-i) i
theorem zJY (c:UInt8) (s:JZ):∀ (n i:Nat),s.size-i<=n->i<=s.size->i<=nxF c s n i/\nxF c s n i<=s.size/\(∀ k,i<=k->k<nxF c s n i->bt s k≠c)/\(nxF c s n i<s.size->bt s (nxF c s n i)=c)
 | 0,i,hn,hi=>by
  simp only [nxF]
  exact ⟨yh _,hi,fun k h1 h2=>by omega,fun h=>by omega⟩
 | n+1,i,hn,hi=>by
  simp only [nxF]
  by_cases h:i<s.size/\bt s i≠c
  ·rw [yO h]
   obtain ⟨h1,h2,h3,h4⟩:=zJY c s n (i+1) (by omega) (by omega)
   refine ⟨by omega,h2,fun k k1 k2=>?_,h4⟩
   by_cases e:k=i
   ·subst e; exact h.2
   ·exact h3 k (by omega) k2
  ·rw [yN h]
   refine ⟨yh _,hi,fun k h1 h2=>by omega,fun hl=>?_⟩
   by_cases e:bt s i=c
   ·exact e
   ·exact yP ⟨hl,e⟩ h
theorem zAP (c:UInt8) (s:JZ) (i:Nat) (hi:i<=s.size):i<=nx c s i/\nx c s i<=s.size/\(∀ k,i<=k->k<nx c s i->bt s k≠c)/\(nx c s i<s.size->bt s (nx c s i)=c):=
 zJY c s _ i (yh _) hi
theorem zK0 {c:UInt8} {j:Nat} (hi:i<=s.size) (h1:i<=j) (h2:j<=s.size) (h3:∀ k,i<=k->k<j->bt s k≠c) (h4:j<s.size->bt s j=c):nx c s i=j:=by
 obtain ⟨g1,g2,g3,g4⟩:=zAP c s i hi
 rcases Nat.lt_trichotomy (nx c s i) j with h | h | h
 ·exact yP (g4 (by omega)) (h3 _ g1 h)
 ·exact h
 ·exact yP (h4 (by omega)) (g3 _ h1 h)
def pcF (c:UInt8) (s:JZ):Nat->Nat->List (Nat×Nat)
 | 0,_=>[]
 | n+1,i=>(i,nx c s i)::(if nx c s i<s.size then pcF c s n (nx c s i+1) else [])
def pcs (c:UInt8) (s:JZ) (i:Nat):List (Nat×Nat):=pcF c s (s.size-i+1) i
theorem zJZ (c:UInt8) (s:JZ):∀ (n m i:Nat),i<=s.size->s.size-i+1<=n->s.size-i+1<=m->pcF c s n i=pcF c s m i
 | 0,_,i,hi,hn,_=>by omega
 | _+1,0,i,hi,_,hm=>by omega
 | n+1,m+1,i,hi,hn,hm=>by
  simp only [pcF]
  congr 1
  have h:=zAP c s i hi
  by_cases hl:nx c s i<s.size
  ·rw [yO hl,yO hl]
   exact zJZ c s n m _ (by omega) (by omega) (by omega)
  ·rw [yN hl,yN hl]
theorem zBa (c:UInt8) (s:JZ) (i:Nat) (hi:i<=s.size):pcs c s i=(i,nx c s i)::(if nx c s i<s.size then pcs c s (nx c s i+1) else []):=by
 have h:=zAP c s i hi
 conv=>lhs; unfold pcs
 simp only [pcF]
 congr 1
 by_cases hl:nx c s i<s.size
 ·rw [yO hl,yO hl]
  exact zJZ c s _ _ _ (by omega) (by omega) (by omega)
 ·rw [yN hl,yN hl]
def wds (l:JZ):List ByteArray:=((pcs 32 l 0).filter (fun p=>decide (p.1<p.2))).map (fun p=>l.extract p.1 p.2)
def zBq (l:JZ) (i:Nat):List ByteArray:=((pcs 32 l i).filter (fun p=>decide (p.1<p.2))).map (fun p=>l.extract p.1 p.2)
theorem zNP (l:JZ):wds l=zBq l 0:=rfl
theorem zCk (l:JZ) (i:Nat) (hi:i<=l.size):zBq l i=(if i<nx 32 l i then [l.extract i (nx 32 l i)] else [])++(if nx 32 l i<l.size then zBq l (nx 32 l i+1) else []):=by
 unfold zBq
 rw [zBa 32 l i hi]
 by_cases h1:i<nx 32 l i
 ·rw [yO h1,List.filter_cons_of_pos (by simpa using h1)]
  by_cases h2:nx 32 l i<l.size
  ·rw [yO h2,yO h2]; rfl
  ·rw [yN h2,yN h2]; rfl
 ·rw [yN h1,List.filter_cons_of_neg (by simpa using h1)]
  by_cases h2:nx 32 l i<l.size
  ·rw [yO h2,yO h2]; rfl
  ·rw [yN h2,yN h2]; rfl
def bB (l:List UInt8):ByteArray:=⟨l.toArray⟩
def Zp:ByteArray:=⟨#[98,101,103,105,110]⟩
def zHk:ByteArray:=⟨#[117,115,101]⟩
def zAB:ByteArray:=⟨#[112,114,101,102,105,120]⟩
def zAx:ByteArray:=⟨#[105,110,102,105,120]⟩
def Zk:ByteArray:=⟨#[112,111,115,116,102,105,120]⟩
def zDB:ByteArray:=⟨#[108,101,102,116]⟩
def zB2:ByteArray:=⟨#[114,105,103,104,116]⟩
def zDC:ByteArray:=⟨#[110,111,110,101]⟩
def zNQ (w:JZ):Prop:=1<=w.size/\w.size<=6/\∀ i,i<w.size->48<=(bt w i).toNat/\(bt w i).toNat<=57
def Zy (w:JZ):Nat->Nat
 | 0=>0
 | k+1=>Zy w k*10+((bt w k).toNat-48)
def Zh (w:JZ):Int:=if w=zDB then 1 else if w=zB2 then 2 else if w=zDC then 3 else 0
theorem zGR (w:JZ) (h:∀ i,i<w.size->48<=(bt w i).toNat/\(bt w i).toNat<=57):∀ k,k<=w.size->Zy w k<10 ^ k
 | 0,_=>by simp [Zy]
 | k+1,hk=>by
  have:=zGR w h k (by omega)
  have:=h k (by omega)
  simp only [Zy,Nat.pow_succ]
  omega
def OpW (ws:List JZ) (o:OpR):Prop:=
 ∃ k t l,zNQ l/\((ws=[k,t,l]/\((k=zAB/\o=⟨t,1,(Zy l l.size:Int),0⟩)\/(k=Zk/\o=⟨t,3,(Zy l l.size:Int),0⟩))) \/
  ∃ sd,ws=[k,t,l,sd]/\k=zAx/\Zh sd≠0/\o=⟨t,2,(Zy l l.size:Int),Zh sd⟩)
theorem OpW.one {o':OpR} (h:OpW ws o) (h':OpW ws o'):o=o':=by
 obtain ⟨k,t,l,hl,h⟩:=h
 obtain ⟨k',t',l',q,h'⟩:=h'
 rcases h with ⟨e,h⟩ | ⟨sd,e,hk,hs,rfl⟩
 ·rcases h' with ⟨e',h'⟩ | ⟨sd',e',H,K,rfl⟩
  ·rw [e] at e'
   simp only [List.cons.injEq,and_true] at e'
   obtain ⟨rfl,rfl,rfl⟩:=e'
   rcases h with ⟨h1,rfl⟩ | ⟨h1,rfl⟩ <;> rcases h' with ⟨h2,rfl⟩ | ⟨h2,rfl⟩
   ·rfl
   ·rw [h1] at h2; exact yP h2 (by decide)
   ·rw [h1] at h2; exact yP h2 (by decide)
   ·rfl
  ·rw [e] at e'; simp at e'
 ·rcases h' with ⟨e',h'⟩ | ⟨sd',e',H,K,rfl⟩
  ·rw [e] at e'; simp at e'
  ·rw [e] at e'
   simp only [List.cons.injEq,and_true] at e'
   obtain ⟨rfl,rfl,rfl,rfl⟩:=e'
   rfl
def zAL (ws:List JZ) (us:List JZ) (os:List OpR) (us':List JZ) (os':List OpR):Prop:=
 (ws=[]/\us'=us/\os'=os)\/(∃ x,ws=[zHk,x]/\us'=us++[x]/\os'=os)\/(∃ o,OpW ws o/\us'=us/\os'=os++[o])
theorem OpW.len (h:OpW ws o):ws.length=3\/ws.length=4:=by
 obtain ⟨k,t,l,hl,⟨rfl,_⟩ | ⟨sd,rfl,_⟩⟩:=h
 ·exact yQ rfl
 ·exact yR rfl
theorem zAL.one {ws us K k:List JZ} {os os1 os2:List OpR} (h:zAL ws us os K os1) (h':zAL ws us os k os2):K=k/\os1=os2:=by
 rcases h with ⟨e,rfl,rfl⟩ | ⟨x,e,rfl,rfl⟩ | ⟨o,ho,rfl,rfl⟩
 ·rcases h' with ⟨_,rfl,rfl⟩ | ⟨x',e',_⟩ | ⟨o',H,_⟩
  ·exact ⟨rfl,rfl⟩
  ·rw [e] at e'; simp at e'
  ·have:=H.len; rw [e] at this; simp at this
 ·rcases h' with ⟨e',_⟩ | ⟨x',e',rfl,rfl⟩ | ⟨o',H,_⟩
  ·rw [e] at e'; simp at e'
  ·rw [e] at e'
   simp only [List.cons.injEq,and_true,true_and] at e'
   subst e'
   exact ⟨rfl,rfl⟩
  ·have:=H.len; rw [e] at this; simp at this
 ·rcases h' with ⟨e',_⟩ | ⟨x',e',_⟩ | ⟨o',H,rfl,rfl⟩
  ·have:=ho.len; rw [e'] at this; simp at this
  ·have:=ho.len; rw [e'] at this; simp at this
  ·rw [ho.one H]; exact ⟨rfl,rfl⟩
def zA3 (s:JZ) (z:Nat):ByteArray:=if z<s.size then s.extract (z+1) s.size else ByteArray.empty
def UnF (s:JZ):List (Nat×Nat)->Nat->List ByteArray->List OpR->List ByteArray->List OpR->ByteArray->Int->Int->Prop
 | [],_,_,_,u,o,b,c,l=>u=[]/\o=[]/\b=ByteArray.empty/\c=3/\l=0
 | p::r,n,us,os,u,o,b,c,l=>
  (wds (s.extract p.1 p.2)=[Zp]/\u=us/\o=os/\b=zA3 s p.2/\c=0/\l=0) \/
  (wds (s.extract p.1 p.2)≠[Zp]/\((∃ us' os',zAL (wds (s.extract p.1 p.2)) us os us' os'/\UnF s r (n+1) us' os' u o b c l) \/
   ((∀ us' os',¬ zAL (wds (s.extract p.1 p.2)) us os us' os')/\u=[]/\o=[]/\b=ByteArray.empty/\c=2/\l=(n:Int))))
theorem UnF.one {s:JZ}:∀ (ls:List (Nat×Nat)) (n:Nat) (us:List JZ) (os:List OpR) {u u':List JZ} {o o':List OpR} {b b':JZ} {c c' l l':Int},UnF s ls n us os u o b c l->UnF s ls n us os u' o' b' c' l'->u=u'/\o=o'/\b=b'/\c=c'/\l=l'
 | [],n,us,os,_,_,_,_,_,_,_,_,_,_,h,h'=>by
  obtain ⟨rfl,rfl,rfl,rfl,rfl⟩:=h
  obtain ⟨rfl,rfl,rfl,rfl,rfl⟩:=h'
  exact ⟨rfl,rfl,rfl,rfl,rfl⟩
 | p::r,n,us,os,_,_,_,_,_,_,_,_,_,_,h,h'=>by
  rcases h with ⟨e,rfl,rfl,rfl,rfl,rfl⟩ | ⟨e,h⟩
  ·rcases h' with ⟨_,rfl,rfl,rfl,rfl,rfl⟩ | ⟨e',_⟩
   ·exact ⟨rfl,rfl,rfl,rfl,rfl⟩
   ·exact yP e e'
  ·rcases h' with ⟨e',_⟩ | ⟨_,h'⟩
   ·exact yP e' e
   ·rcases h with ⟨k,os1,h1,h⟩ | ⟨h1,rfl,rfl,rfl,rfl,rfl⟩
    ·rcases h' with ⟨H,os2,h2,h'⟩ | ⟨h2,_⟩
     ·obtain ⟨rfl,rfl⟩:=h1.one h2
      exact UnF.one r (n+1) k os1 h h'
     ·exact yP h1 (h2 _ _)
    ·rcases h' with ⟨H,os2,h2,h'⟩ | ⟨h2,rfl,rfl,rfl,rfl,rfl⟩
     ·exact yP h2 (h1 _ _)
     ·exact ⟨rfl,rfl,rfl,rfl,rfl⟩
def zy (s:JZ) (u:List JZ) (o:List OpR) (b:JZ) (c l:Int):Prop:=
 (20000<s.size/\u=[]/\o=[]/\b=ByteArray.empty/\c=1/\l=0)\/(s.size<=20000/\UnF s (pcs 10 s 0) 1 [] [] u o b c l)
theorem zy.one {s:JZ} {u u':List JZ} {o o':List OpR} {b b':JZ} {c c' l l':Int} (h:zy s u o b c l) (h':zy s u' o' b' c' l'):u=u'/\o=o'/\b=b'/\c=c'/\l=l':=by
 rcases h with ⟨a,rfl,rfl,rfl,rfl,rfl⟩ | ⟨a,h⟩
 ·rcases h' with ⟨_,rfl,rfl,rfl,rfl,rfl⟩ | ⟨a',_⟩
  ·exact ⟨rfl,rfl,rfl,rfl,rfl⟩
  ·omega
 ·rcases h' with ⟨a',_⟩ | ⟨_,h'⟩
  ·omega
  ·exact UnF.one _ _ _ _ h h'
theorem zIm {j:Nat} (h:j<s.size):s.data.toList[j]?=some (bt s j):=by
 have h':j<s.data.size:=h
 unfold bt
 rw [Array.getElem?_toList,Array.getElem?_eq_getElem h']
 rfl
theorem zIn (s:JZ) (c:UInt8) (j:Nat):Lib.occAt s.data.toList [c] j=decide (j<s.size/\bt s j=c):=by
 unfold Lib.occAt
 by_cases h:j<s.size
 ·have hl:j<s.data.toList.length:=h
  have hb:=zIm h
  rw [yn hl] at hb
  injection hb with hb
  rw [List.drop_eq_getElem_cons hl,hb]
  rw [Bool.eq_iff_iff]
  simp [List.isPrefixOf,h]
  exact ⟨fun e=>e.symm,fun e=>e.symm⟩
 ·have hl:s.data.toList.length<=j:=Nat.le_of_not_lt h
  rw [List.drop_eq_nil_of_le hl]
  simp [List.isPrefixOf,h]
theorem zJa (s:JZ) (c:UInt8):(nx c s 0<s.size->Lib.indexB s ⟨#[c]⟩=(nx c s 0:Int))/\(¬ nx c s 0<s.size->Lib.indexB s ⟨#[c]⟩ = -1):=by
 obtain ⟨h1,h2,h3,h4⟩:=zAP c s 0 (yj _)
 constructor
 ·intro h
  refine Lib.index_first (s:=s.data.toList) (sub:=[c]) h2 ?_ (fun j hj=>?_)
  ·rw [zIn]; simpa using ⟨h,h4 h⟩
  ·rw [zIn]; simp only [yT]
   exact fun e=>h3 j (yj _) hj e.2
 ·intro h
  refine Lib.index_none (s:=s.data.toList) (sub:=[c]) (fun j hj=>?_)
  rw [zIn]; simp only [yT]
  exact fun e=>h3 j (yj _) (by omega) e.2
theorem Zs (s:JZ) (a b:Nat):(s.extract a b).size=min b s.size-a:=by
 simp [yw]
theorem zNR (s:JZ) (a b j:Nat) (h:j<min b s.size-a):bt (s.extract a b) j=bt s (a+j):=by
 have h1:j<(s.extract a b).size:=by rw [Zs]; exact h
 rw [<- ZP h1,<- ZP (s:=s) (i:=a+j) (by omega)]
 simp [ByteArray.getElem_extract]
theorem zJb (c:UInt8) (s:JZ) (a:Nat) (ha:a<=s.size):nx c s a=a+nx c (s.extract a s.size) 0:=by
 obtain ⟨h1,h2,h3,h4⟩:=zAP c (s.extract a s.size) 0 (yj _)
 rw [Zs,Nat.min_self] at h2 h4
 refine zK0 ha (by omega) (by omega) (fun k k1 k2=>?_) (fun h=>?_)
 ·have:=h3 (k-a) (yj _) (by omega)
  rw [zNR s a s.size (k-a) (by rw [Nat.min_self]; omega)] at this
  rwa [show a+(k-a)=k by omega] at this
 ·have:=h4 (by omega)
  rwa [zNR s a s.size _ (by rw [Nat.min_self]; omega)] at this
theorem zGB (s:JZ) (a k l:Nat) (h:a+l<=s.size):(s.extract a s.size).extract k l=s.extract (a+k) (a+l):=by
 rw [ByteArray.extract_extract]
 congr 1
 omega
theorem zJc (s:JZ):s.extract 0 s.size=s:=by simp
theorem zHy (c:UInt8) (s:JZ):∀ (n a:Nat),s.size-a<n->a<=s.size->Lib.splitB ⟨#[c]⟩ 0 (Lib.countB (s.extract a s.size) ⟨#[c]⟩) (s.extract a s.size)=(pcs c s a).map (fun p=>s.extract p.1 p.2)
 | 0,a,hn,ha=>by omega
 | n+1,a,hn,ha=>by
  have k:(s.extract a s.size).size=s.size-a:=by rw [Zs,Nat.min_self]
  obtain ⟨i1,i2⟩:=zJa (s.extract a s.size) c
  have hx:=zJb c s a ha
  obtain ⟨g1,g2,g3,g4⟩:=zAP c s a ha
  rw [zBa c s a ha]
  by_cases h:nx c s a<s.size
  ·have e:=i1 (by omega)
   have H:(⟨#[c]⟩:JZ).size=1:=rfl
   have e1:(s.extract a s.size).extract 0 (nx c (s.extract a s.size) 0)=s.extract a (nx c s a):=by
    rw [zGB s a 0 _ (by omega),hx,Nat.add_zero]
   have e2:(s.extract a s.size).extract (nx c (s.extract a s.size) 0+1) (s.size-a)=s.extract (nx c s a+1) s.size:=by
    rw [zGB s a _ _ (by omega),show a+(nx c (s.extract a s.size) 0+1)=nx c s a+1 by omega,show a+(s.size-a)=s.size by omega]
   have e3:=zHy c s n (nx c s a+1) (by omega) (by omega)
   rw [yO h,Lib.countB_hit _ _ _ (by rw [H]; exact yh _) e,Nat.add_comm,Lib.splitB_hit _ _ _ _ _ e,List.map_cons,H,k,e2,e3,Nat.add_zero,e1]
  ·have e:=i2 (by omega)
   rw [yN h,Lib.countB_miss _ _ e,Lib.splitB_zero]
   simp only [List.map_cons,List.map_nil]
   rw [show nx c s a=s.size by omega]
theorem zK1 (c:UInt8) (s:JZ):Lib.splitB ⟨#[c]⟩ 0 (Lib.countB s ⟨#[c]⟩) s=(pcs c s 0).map (fun p=>s.extract p.1 p.2):=by
 have:=zHy c s (s.size+1) 0 (by omega) (yj _)
 rwa [zJc] at this
def zGS (ps:List JZ):List ByteArray:=ps.filter (fun b=>decide (0<b.size))
theorem zJd (s:JZ):∀ (n a:Nat),s.size-a<n->a<=s.size->zGS ((pcs 32 s a).map (fun p=>s.extract p.1 p.2))=zBq s a
 | 0,a,hn,ha=>by omega
 | n+1,a,hn,ha=>by
  obtain ⟨g1,g2,g3,g4⟩:=zAP 32 s a ha
  rw [zCk s a ha,zBa 32 s a ha,List.map_cons]
  have k:(s.extract a (nx 32 s a)).size=nx 32 s a-a:=by rw [Zs]; omega
  have H:zGS ((if nx 32 s a<s.size then pcs 32 s (nx 32 s a+1) else []).map (fun p=>s.extract p.1 p.2))=(if nx 32 s a<s.size then zBq s (nx 32 s a+1) else []):=by
   by_cases h:nx 32 s a<s.size
   ·rw [yO h,yO h]
    exact zJd s n _ (by omega) (by omega)
   ·rw [yN h,yN h]; rfl
  rw [<- H]
  unfold zGS
  by_cases h:a<nx 32 s a
  ·rw [yO h,List.filter_cons_of_pos (by simp [k]; omega)]; rfl
  ·rw [yN h,List.filter_cons_of_neg (by simp [k]; omega)]; rfl
theorem zK2 (s:JZ):zGS (Lib.splitB ⟨#[32]⟩ 0 (Lib.countB s ⟨#[32]⟩) s)=wds s:=by
 rw [zK1,zJd s (s.size+1) 0 (by omega) (yj _)]
 rfl
theorem zMi (ps:List JZ) (k:Nat) (p:JZ) (h:ps[k]?=some p):zGS (ps.take (k+1))=zGS (ps.take k)++(if 0<p.size then [p] else []):=by
 rw [List.take_add_one,h]
 unfold zGS
 rw [List.filter_append]
 congr 1
 by_cases hp:0<p.size
 ·simp [hp]
 ·simp [hp]
theorem zQ1 (s:JZ) (a:Nat) (ha:a<=s.size):(⟨(Lib.cut (s.extract a s.size).data.toList [10]).1.toArray⟩:JZ)=s.extract a (nx 10 s a)/\(⟨(Lib.cut (s.extract a s.size).data.toList [10]).2.1.toArray⟩:JZ)=zA3 s (nx 10 s a)/\(Lib.cut (s.extract a s.size).data.toList [10]).2.2=decide (nx 10 s a<s.size):=by
 have k:(s.extract a s.size).size=s.size-a:=by rw [Zs,Nat.min_self]
 obtain ⟨i1,i2⟩:=zJa (s.extract a s.size) 10
 have hx:=zJb 10 s a ha
 obtain ⟨g1,g2,g3,g4⟩:=zAP 10 s a ha
 by_cases h:nx 10 s a<s.size
 ·obtain ⟨e1,e2,e3⟩:=Lib.cutB_hit (s.extract a s.size) ⟨#[10]⟩ _ (i1 (by omega))
  refine ⟨e1.trans ?_,e2.trans ?_,e3.trans (by simp [h])⟩
  ·rw [zGB s a 0 _ (by omega),hx,Nat.add_zero]
  ·unfold zA3
   have H:(⟨#[10]⟩:JZ).size=1:=rfl
   rw [yO h,k,H,zGB s a _ _ (by omega),show a+(nx 10 (s.extract a s.size) 0+1)=nx 10 s a+1 by omega,show a+(s.size-a)=s.size by omega]
 ·obtain ⟨e1,e2,e3⟩:=Lib.cutB_miss (s.extract a s.size) ⟨#[10]⟩ (i2 (by omega))
  refine ⟨e1.trans ?_,e2.trans ?_,e3.trans (by simp [h])⟩
  ·rw [show nx 10 s a=s.size by omega]
  ·unfold zA3; rw [yN h]
theorem zDD (a b c:JZ):a++b++c=a++(b++c):=by
 apply ByteArray.ext
 simp [ByteArray.data_append,Array.append_assoc]
theorem za (a b:JZ):(a++b).size=a.size+b.size:=by simp
def one (c:UInt8):ByteArray:=⟨#[c]⟩
theorem zB3 (c:UInt8):(one c).size=1:=rfl
def NoB (c:UInt8) (l:JZ):Prop:=∀ i,i<l.size->bt l i≠c
def Wrd (x:JZ):Prop:=1<=x.size/\NoB 32 x/\NoB 10 x
def zBG:List ByteArray->ByteArray
 | []=>ByteArray.empty
 | [x]=>x
 | x::y::r=>x++(one 32++zBG (y::r))
theorem zL0 (c:UInt8) (s:JZ):∀ (n a:Nat),a<=s.size->∀ p∈pcF c s n a,p.1<=p.2/\p.2<=s.size/\∀ k,p.1<=k->k<p.2->bt s k≠c
 | 0,a,_,p,hp=>by simp [pcF] at hp
 | n+1,a,ha,p,hp=>by
  obtain ⟨g1,g2,g3,_⟩:=zAP c s a ha
  simp only [pcF,List.mem_cons] at hp
  rcases hp with rfl | hp
  ·exact ⟨g1,g2,g3⟩
  ·by_cases h:nx c s a<s.size
   ·rw [yO h] at hp
    exact zL0 c s n _ (by omega) p hp
   ·rw [yN h] at hp; cases hp
def OpT (o:OpR):Prop:=Wrd o.s/\(∃ n:Nat,o.l=(n:Int)/\n<1000000)/\((o.k=1/\o.sd=0)\/(o.k=3/\o.sd=0)\/(o.k=2/\(o.sd=1\/o.sd=2\/o.sd=3)))
def zBr:Nat->Nat->ByteArray
 | 0,_=>ByteArray.empty
 | f+1,n=>if n<10 then one (UInt8.ofNat (48+n)) else zBr f (n/10)++one (UInt8.ofNat (48+n%10))
def sdW (sd:Int):ByteArray:=if sd=1 then zDB else if sd=2 then zB2 else zDC
def dW (o:OpR):List ByteArray:=
 if o.k=1 then [zAB,o.s,zBr 7 o.l.toNat] else if o.k=3 then [Zk,o.s,zBr 7 o.l.toNat] else [zAx,o.s,zBr 7 o.l.toNat,sdW o.sd]
theorem zQ2 {x:JZ} (h:1<=x.size) (h':∀ i,i<x.size->33<=(bt x i).toNat):Wrd x:=
 ⟨h,fun i hi e=>by have:=h' i hi; rw [e] at this; exact yP this (by decide),fun i hi e=>by have:=h' i hi; rw [e] at this; exact yP this (by decide)⟩
theorem zPT {l:List UInt8} (h:l≠[]) (h':∀ c∈l,33<=c.toNat):Wrd (bB l):=zQ2 (by
  show 1<=l.toArray.size
  cases l with
  | nil=>exact yP rfl h
  | cons a r=>simp) fun i hi=>by
 have H:i<l.length:=by simpa [bB,ByteArray.size] using hi
 have:bt (bB l) i=l[i]:=by simp [bt,bB,H]
 rw [this]
 exact h' _ (List.getElem_mem H)
def atB (ws:List JZ) (i:Nat):ByteArray:=ws.getD i ByteArray.empty
def zDE (i:Nat):ByteArray:=one (UInt8.ofNat (109+i%8))++(⟨#[95,49]⟩:JZ).extract 0 (i/8%3)
theorem zGT (i:Nat):(zDE i).size<=3:=by
 unfold zDE
 have:(⟨#[95,49]⟩:JZ).size=2:=rfl
 rw [za,zB3,yw]
 omega
def usT (pre:JZ) (us:List JZ) (o:JZ):Nat->ByteArray
 | 0=>o
 | j+1=>usT pre us o j++pre++atB us j++⟨#[10]⟩
theorem zGU {pre:JZ} {us:List JZ} {o:JZ} {M:Nat} (hp:pre.size<=5) (hu:∀ j,(atB us j).size<=M):∀ j,(usT pre us o j).size<=o.size+(M+6)*j
 | 0=>yh _
 | j+1=>by
  have h1:=zGU hp hu (o:=o) j
  have h2:=hu j
  have:(⟨#[10]⟩:JZ).size=1:=rfl
  simp only [usT,Nat.mul_add,Nat.mul_one]
  rw [za,za,za]
  omega
def zHl (k:Nat):ByteArray:=(⟨#[117,115,101,32,32]⟩:JZ).extract 0 (4+k/8%2)
def zF1:ByteArray:=⟨#[117,115,101,32]⟩
theorem zHz (k:Nat):(zHl k).size<=5:=by
 unfold zHl
 have:(⟨#[117,115,101,32,32]⟩:JZ).size=5:=rfl
 rw [yw]
 omega
def zH0 (k:Nat) (o:OpR):ByteArray:=if k%8=6 then (⟨#[32,32]⟩:JZ)++zBG (dW o)++⟨#[32]⟩ else zBG (dW o)
def hoT (k:Nat) (us:List JZ) (os:List OpR):Nat->ByteArray
 | 0=>if k%8=7 then ⟨#[32,10]⟩ else ⟨#[]⟩
 | i+1=>(if i=k%3 then usT (zHl k) us (hoT k us os i) us.length else hoT k us os i)++zH0 k (atO os i)++⟨#[10]⟩
def zH1 (k:Nat) (us:List JZ) (os:List OpR):ByteArray:=
 (if os.length<=k%3 then usT zF1 us (hoT k us os os.length) us.length else hoT k us os os.length)++⟨#[98,101,103,105,110,10]⟩
theorem zNS (n:Nat):(zBr 7 n).size<=7:=by
 have:∀ (f n:Nat),(zBr f n).size<=f:=by
  intro f
  induction f with
  | zero=>intro n; simp [zBr]
  | succ f ih=>
   intro n
   simp only [zBr]
   split
   ·rw [zB3]; omega
   ·rw [za,zB3]; have:=ih (n/10); omega
 exact this 7 n
theorem zNT (sd:Int):(sdW sd).size<=5:=by
 unfold sdW
 repeat' split
 all_goals decide
theorem zDh (h:o.s.size<=16):(zBG (dW o)).size<=50:=by
 have h1:=zNS o.l.toNat
 have h2:=zNT o.sd
 have a1:zAB.size=6:=rfl
 have a2:Zk.size=7:=rfl
 have a3:zAx.size=5:=rfl
 unfold dW
 repeat' split
 all_goals
  simp only [zBG,za,zB3]
  omega
theorem zK3 {k:Nat} (h:o.s.size<=16):(zH0 k o).size<=53:=by
 have:=zDh h
 have a1:(⟨#[32,32]⟩:JZ).size=2:=rfl
 have a2:(⟨#[32]⟩:JZ).size=1:=rfl
 unfold zH0
 split
 ·rw [za,za]; omega
 ·omega
theorem zJe {k:Nat} {us:List JZ} {os:List OpR} (hu:∀ j,(atB us j).size<=100) (h:us.length<=100) (ho:∀ i,(atO os i).s.size<=16):∀ i,(hoT k us os i).size<=2+10700*i
 | 0=>by
  simp only [hoT]
  split
  ·exact yh _
  ·exact yj _
 | i+1=>by
  have h1:=zJe hu h ho (k:=k) i
  have h2:=zK3 (k:=k) (ho i)
  have h3:=zGU (zHz k) hu (o:=hoT k us os i) us.length
  have:(⟨#[10]⟩:JZ).size=1:=rfl
  simp only [hoT]
  rw [za,za]
  split <;> omega
def HdI (s:JZ) (o b:OpR) (ls:List (Nat×Nat)):Nat->ByteArray->Prop
 | 0,t=>t=⟨#[]⟩
 | i+1,t=>∃ t0,HdI s o b ls i t0 /\
   (
    (OpW (wds (s.extract (ls.getD i (0,0)).1 (ls.getD i (0,0)).2)) o/\t=t0++zBG (dW b)++⟨#[10]⟩) \/
    (¬ OpW (wds (s.extract (ls.getD i (0,0)).1 (ls.getD i (0,0)).2)) o/\t=t0++s.extract (ls.getD i (0,0)).1 (ls.getD i (0,0)).2++⟨#[10]⟩))
theorem HdI.one {s:JZ} {o b:OpR} {ls:List (Nat×Nat)}:∀ {i:Nat} {t t':JZ},HdI s o b ls i t->HdI s o b ls i t'->t=t'
 | 0,_,_,h,h'=>h.trans h'.symm
 | i+1,_,_,h,h'=>by
  obtain ⟨t0,h0,h⟩:=h
  obtain ⟨t1,h1,h'⟩:=h'
  obtain rfl:=h0.one h1
  rcases h with ⟨a,rfl⟩ | ⟨a,rfl⟩ <;> rcases h' with ⟨a',rfl⟩ | ⟨a',rfl⟩
  ·rfl
  ·exact yP a a'
  ·exact yP a' a
  ·rfl
def bgN (s:JZ):List (Nat×Nat)->Nat->Nat
 | [],_=>0
 | p::r,n=>if wds (s.extract p.1 p.2)=[Zp] then n+1 else bgN s r (n+1)
def zIo (s:JZ) (o b:OpR) (t:JZ):Prop:=HdI s o b (pcs 10 s 0) (bgN s (pcs 10 s 0) 0) t
theorem zIo.one {s:JZ} {o b:OpR} {t t':JZ} (h:zIo s o b t) (h':zIo s o b t'):t=t':=by
 unfold zIo at h h'
 exact HdI.one h h'
def zAM (w:JY) (g:Nat) (xs:List OpR) (k:Nat):Prop:=
 g<w.heap.size/\w.there g 0 (xs.length*4)/\∀ i,i<k->zBp w g 0 xs i
theorem zAM.below {w w':JY} {g k:Nat} {xs:List OpR} {B:Nat} (h:zAM w g xs k) (hb:Below B w w') (hB:g<B):zAM w' g xs k:=by
 obtain ⟨h1,h2,h3⟩:=h
 refine ⟨yi h1 hb.size,fun j hj=>?_,fun i hi=>(h3 i hi).below hb hB⟩
 have:=h2 j hj
 exact ⟨by rw [hb.cell (p:=⟨g,_,none⟩) hB]; exact this.1,by rw [hb.frozen (p:=⟨g,_,none⟩) hB]; exact this.2⟩
theorem zBp.setCell {w:JY} {b H i:Nat} {xs:List OpR} (h:zBp w b H xs i) (p:Addr) (v:Value) (hp:p.block≠b):zBp (w.setCell p v) b H xs i:=by
 obtain ⟨h0,h1,h2,h3⟩:=h
 have e:∀ o,(w.setCell p v).cell? ⟨b,o,none⟩=w.cell? ⟨b,o,none⟩:=fun o=>yg _ _ _ _ (fun e=>hp (by rw [e]))
 exact ⟨(e _).trans h0,(e _).trans h1,(e _).trans h2,(e _).trans h3⟩
theorem zAM.setCell {w:JY} {g k:Nat} {xs:List OpR} (h:zAM w g xs k) (p:Addr) (v:Value) (hp:p.block≠g):zAM (w.setCell p v) g xs k:=by
 obtain ⟨h1,h2,h3⟩:=h
 refine ⟨by simpa [World.setCell] using h1,fun j hj=>⟨?_,?_⟩,fun i hi=>(h3 i hi).setCell p v hp⟩
 ·rw [yg _ _ _ _ (fun e=>hp (by rw [e]))]; exact (h2 j hj).1
 ·rw [yq]; exact (h2 j hj).2
theorem zAM.ops (h:zAM w g xs xs.length):Ops w g 0 xs:=fun i hi=>h.2.2 i hi
theorem zAT {t:JZ} (h:s.toList=t.toList):s=t:=by
 rw [yC,yC] at h
 obtain ⟨⟨a⟩⟩:=s
 obtain ⟨⟨b⟩⟩:=t
 simp at h
 rw [h]
structure zG (w w':JY) (g:Nat):Prop where
 os:w'.os=w.os
 tape:w'.tape=w.tape
 output:w'.output=w.output
 size:w.heap.size<=w'.heap.size
 block:∀ i,i<w.heap.size->i≠g->w'.heap[i]?=w.heap[i]?
theorem zG.refl (w:JY) (g:Nat):zG w w g:=⟨rfl,rfl,rfl,yh _,fun _ _ _=>rfl⟩
theorem zG.trans {w w1 w2:JY} {g:Nat} (h:zG w w1 g) (h':zG w1 w2 g):zG w w2 g:=
 ⟨h'.os.trans h.os,h'.tape.trans h.tape,h'.output.trans h.output,yr h.size h'.size,fun i hi a=>(h'.block i (yi hi h.size) a).trans (h.block i hi a)⟩
theorem zG.of_below (h:Below w.heap.size w w'):zG w w' g:=⟨h.os,h.tape,h.output,h.size,fun i hi _=>h.block i hi⟩
theorem zG.cell {w w':JY} {g:Nat} (h:zG w w' g) {b:Nat} (hb:b<w.heap.size) (h1:b≠g) (o:Nat):w'.cell? ⟨b,o,none⟩=w.cell? ⟨b,o,none⟩:=
 yp (w:=w) (h.block b hb h1)
theorem zG.frozen {w w':JY} {g:Nat} (h:zG w w' g) {b:Nat} (hb:b<w.heap.size) (h1:b≠g) (o:Nat):w'.frozen? ⟨b,o,none⟩=w.frozen? ⟨b,o,none⟩:=
 yA (w:=w) (h.block b hb h1)
theorem zG.below {B:Nat} (h:zG w w' g) (hB:B<=w.heap.size) (h1:B<=g):Below B w w':=
 ⟨h.os,h.tape,h.output,h.size,fun i hi=>h.block i (by omega) (by omega)⟩
theorem zBH {g:Nat}:∀ (vs:List Value) (o:Nat) (w:JY),zG w (w.setCells g o vs) g
 | [],_,w=>zG.refl w g
 | v::r,o,w=>(show zG w (w.setCell ⟨g,o,none⟩ v) g from ⟨rfl,rfl,rfl,by simp [World.setCell],fun _ _ hi=>yZ _ _ _ _ hi⟩).trans (zBH r (o+1) _)
theorem zG.ops (h:zG w w' g) (ho:Ops w b off xs) (hb:b<w.heap.size) (H:b≠g):Ops w' b off xs:=fun i hi=>by
 obtain ⟨a0,a1,a2,a3⟩:=ho i hi
 have e:=h.cell hb H
 exact ⟨(e _).trans a0,(e _).trans a1,(e _).trans a2,(e _).trans a3⟩
theorem zG.filled {k:Nat} (h:zG w w' g) (ho:zAM w b xs k) (H:b≠g):zAM w' b xs k:=by
 obtain ⟨h1,h2,h3⟩:=ho
 have e:=h.cell h1 H
 have f:=h.frozen h1 H
 refine ⟨yi h1 h.size,fun j hj=>⟨by rw [e]; exact (h2 j hj).1,by rw [f]; exact (h2 j hj).2⟩,fun i hi=>?_⟩
 obtain ⟨a0,a1,a2,a3⟩:=h3 i hi
 exact ⟨(e _).trans a0,(e _).trans a1,(e _).trans a2,(e _).trans a3⟩
theorem zr (h:zG w w' g):w.grownBy w' (some g):=⟨h.os,h.tape,h.output,h.size,fun i hi e=>h.block i hi (fun x=>e (by rw [x]))⟩
def nxt (bs:List UInt8) (p:Nat):Nat:=(bs.getD p 0).toNat
def adv (bs:List UInt8) (p:Nat):Nat:=if p<bs.length then p+1 else p
theorem zK4 (bs:List UInt8) (p:Nat):nxt bs p<256:=UInt8.toNat_lt _
theorem zE8 (h:p<=bs.length):adv bs p<=bs.length:=by unfold adv; split <;> omega
structure RdS (w:JY) (rp:Nat) (a:Option Addr) (cap:Nat) (bs:List UInt8) (p:Nat):Prop where
 c0:w.cell? ⟨rp,0,none⟩=some (.slice a bs.length cap)
 c1:w.cell? ⟨rp,1,none⟩=some (.int .i64 (p:Int))
 fz:w.frozen? ⟨rp,1,none⟩=false
 le:p<=bs.length
 bts:bs.length=0\/∃ b off,a=some ⟨b,off,none⟩/\b<rp/\∀ i,i<bs.length->w.cell? ⟨b,off+i,none⟩=some (.int .u8 ((bs.getD i 0).toNat:Int))
theorem RdS.lt (h:RdS w rp a cap bs p):rp<w.heap.size:=block_lt_of_cell h.c0
theorem RdS.kept (h:RdS w rp a cap bs p) (hb:∀ i,i<=rp->w'.heap[i]?=w.heap[i]?):RdS w' rp a cap bs p:=by
 have e:=fun o=>yp (w:=w) (w':=w') (a:=⟨rp,o,none⟩) (hb rp (yh _))
 refine ⟨(e _).trans h.c0,(e _).trans h.c1,(yA (w:=w) (w':=w') (a:=⟨rp,1,none⟩) (hb rp (yh _))).trans h.fz,h.le,?_⟩
 rcases h.bts with h0 | ⟨b,H,ha,k,hc⟩
 ·exact yQ h0
 ·exact yR ⟨b,H,ha,k,fun i hi=>(yp (w:=w) (w':=w') (a:=⟨b,H+i,none⟩) (hb b (Nat.le_of_lt k))).trans (hc i hi)⟩
theorem RdS.below (h:RdS w rp a cap bs p) (hb:Below w.heap.size w w'):RdS w' rp a cap bs p:=
 h.kept (fun i hi=>hb.block i (by have:=h.lt; omega))
theorem RdS.move (h:RdS w rp a cap bs p) (hp:p<bs.length) (n:Int) (hn:n=((p+1:Nat):Int)):RdS (w.setCell ⟨rp,1,none⟩ (.int .i64 n)) rp a cap bs (p+1):=by
 subst hn
 refine ⟨(yg _ _ _ _ (by simp)).trans h.c0,yo _ _ _ h.c1,(yq _ _ _ _).trans h.fz,by omega,?_⟩
 rcases h.bts with h0 | ⟨b,H,ha,k,hc⟩
 ·exact yQ h0
 ·exact yR ⟨b,H,ha,k,fun i hi=>(yg _ _ _ _ (fun e=>by simp at e; first | done | omega)).trans (hc i hi)⟩
theorem Z7 (w:JY) (n g:Nat):zG w (w.drewN n) g:=⟨rfl,rfl,rfl,yh _,fun _ _ _=>rfl⟩
theorem zA4 (w:JY) (p o:Nat) (v:Value):zG w (w.setCell ⟨p,o,none⟩ v) p:=zBH [v] o w
theorem RdS.drewN (h:RdS w rp a cap bs p) (n:Nat):RdS (w.drewN n) rp a cap bs p:=h.kept (fun _ _=>rfl)
theorem zNU (rp cap p:Nat) (a:Option Addr) (bs:List UInt8) (w:JY) (h:RdS w rp a cap bs p) (hl:bs.length<=1200) :
  Calls Tryz.prog 21 #[.pointer (some ⟨rp,0,none⟩)] w fun e w'=>e = .returned (.int .i64 (nxt bs p:Int))/\Hid (RdS w' rp a cap bs (adv bs p))/\zG w w' rp:=by
 have H:=zB h
 obtain ⟨c0,c1,fz,le,bts⟩:=h
 by_cases hp:p<bs.length
 ·have k:(p:Int)<(bs.length:Int):=by omega
  rcases bts with h0 | ⟨b,K,rfl,q,hc⟩
  ·omega
  have b0:=hc p hp
  have HA:=zB (show adv bs p=p+1 by simp [adv,hp])
  have HN:=zB (show nxt bs p=(bs.getD p 0).toNat from rfl)
  clear hc
  go_enter Tryz.func21,Tryz.ntmps21
  go_wp2_with fail
  go_quiet (fail)
  go_wp2_with fail
  go_quiet (fail)
  go_wp2_with fail
  go_ret
  rw [zA HA]
  refine ⟨zJ ?_,zB (((zA H).drewN _).move hp _ (by omega)),(Z7 w _ _).trans (zA4 _ rp 1 _)⟩
  have h8:nxt bs p<256:=zK4 bs p
  have h9:nxt bs p=bs[p].toNat:=by simp [nxt,hp]
  rw [h9] at h8 ⊢
  unfold wrap64
  omega
 ·have k:¬ (p:Int)<(bs.length:Int):=by omega
  have HA:=zB (show adv bs p=p by simp [adv,hp])
  have HN:=zB (show nxt bs p=0 by simp [nxt,hp])
  go_enter Tryz.func21,Tryz.ntmps21
  go_wp2_with fail
  go_quiet (fail)
  go_wp2_with fail
  go_ret
  rw [zA HA,zA HN]
  exact ⟨rfl,zB ((zA H).drewN _),Z7 w _ _⟩
theorem zAj (rp cap p:Nat) (a:Option Addr) (bs:List UInt8) (w:JY) (h:RdS w rp a cap bs p) (hl:bs.length<=1200) :
  Calls Tryz.prog 21 #[.pointer (some ⟨rp,0,none⟩)] w fun e w'=>(∃ k:Nat,e = .returned (.int .i64 (k:Int))/\k<256/\Hid (k=nxt bs p))/\Hid (RdS w' rp a cap bs (adv bs p))/\Hid (zG w w' rp):=by
 refine (zNU rp cap p a bs w h hl).mono ?_
 rintro e w' ⟨rfl,h1,h2⟩
 exact ⟨⟨nxt bs p,rfl,zK4 bs p,zB rfl⟩,h1,zB h2⟩
theorem zCX (rp cap p:Nat) (a:Option Addr) (bs:List UInt8) (w:JY) (h:RdS w rp a cap bs p) (hl:bs.length<=1200) :
  Calls Tryz.prog 89 #[.pointer (some ⟨rp,0,none⟩)] w fun e w'=>e = .returned (.int .i64 ((bs.length-p:Nat):Int))/\Hid (RdS w' rp a cap bs p)/\Below w.heap.size w w':=by
 have H:=zB h
 obtain ⟨c0,c1,fz,le,bts⟩:=h
 clear bts
 go_enter Tryz.func89,Tryz.ntmps89
 go_wp2_with fail
 go_quiet (fail)
 go_wp2_with fail
 go_ret
 exact ⟨zJ (by omega),zB ((zA H).drewN _),⟨rfl,rfl,rfl,yh _,fun _ _=>rfl⟩⟩
def zGV (l:List UInt8):List UInt8:=l.take 1200
def zJf (w:JY) (a:Option Addr) (l:List UInt8):Prop:=l.length=0\/∃ b off,a=some ⟨b,off,none⟩/\b<w.heap.size/\∀ i,i<l.length->w.cell? ⟨b,off+i,none⟩=some (.int .u8 ((l.getD i 0).toNat:Int))
theorem zK5 (a:Option Addr) (cap:Nat) (l:List UInt8) (w:JY) (hl:l.length<=1048576) (Q:l.length<=cap) (h:zJf w a l) :
  Calls Tryz.prog 10 #[.slice a l.length cap] w fun e w'=>(∃ rp cap',e = .returned (.pointer (some ⟨rp,0,none⟩))/\w.heap.size<=rp/\Hid (RdS w' rp a cap' (zGV l) 0))/\Below w.heap.size w w':=by
 have H:=zB h
 clear h
 by_cases X:1200<l.length
 ·have q:(1200:Int)<(l.length:Int):=by omega
  rcases zA H with h0 | ⟨b,k,rfl,hb,hc⟩
  ·omega
  have HC:=zB hc
  clear hc
  have x:(1200:Int)<=(cap:Int):=by omega
  go_enter Tryz.func10,Tryz.ntmps10
  go_wp2_with fail
  go_ret
  have hr:RdS (w.alloc (.cells #[.slice (some ⟨b,k,none⟩) 1200 cap,.int .i64 0] 66)) w.heap.size (some ⟨b,k,none⟩) cap (zGV l) 0:=by
   have K:(zGV l).length=1200:=by simp [zGV]; omega
   refine ⟨by rw [K]; simp [go_sem],by simp [go_sem],by simp [go_sem],yj _,yR ⟨b,k,rfl,hb,fun i hi=>?_⟩⟩
   rw [K] at hi
   rw [(zC w _).cell (p:=⟨b,k+i,none⟩) hb,(zA HC) i (by omega)]
   simp [zGV,hi,List.getElem?_take]
  refine ⟨?_,zC _ _⟩
  first
   | exact ⟨w.heap.size,cap,rfl,yh _,zB hr⟩
   | exact ⟨w.heap.size,rfl,yh _,cap,zB hr⟩
 ·have q:¬ (1200:Int)<(l.length:Int):=by omega
  have HE:=zB (show zGV l=l from List.take_of_length_le (by omega))
  go_enter Tryz.func10,Tryz.ntmps10
  go_wp2_with fail
  go_ret
  have hr:RdS (w.alloc (.cells #[.slice a l.length cap,.int .i64 0] 66)) w.heap.size a cap (zGV l) 0:=by
   rw [zA HE]
   refine ⟨by simp [go_sem],by simp [go_sem],by simp [go_sem],yj _,?_⟩
   rcases zA H with h0 | ⟨b,k,rfl,hb,hc⟩
   ·exact yQ h0
   ·exact yR ⟨b,k,rfl,hb,fun i hi=>((zC w _).cell (p:=⟨b,k+i,none⟩) hb).trans (hc i hi)⟩
  refine ⟨?_,zC _ _⟩
  first
   | exact ⟨w.heap.size,cap,rfl,yh _,zB hr⟩
   | exact ⟨w.heap.size,rfl,yh _,cap,zB hr⟩
def zMj:Value->Nat
 | .slice _ n _=>n
 | _=>0
theorem zNV (l:List UInt8):(zGV l).length<=1200:=by unfold zGV; simp; omega
theorem zH (h:Below w.heap.size w w') (row:Option Nat):w.grownBy w' row:=⟨h.os,h.tape,h.output,h.size,fun i hi _=>h.block i hi⟩
theorem zh {w2:JY} {row:Option Nat} (h:Below w.heap.size w w1) (h2:w1.grownBy w2 row):w.grownBy w2 row:=
 ⟨h2.os.trans h.os,h2.tape.trans h.tape,h2.output.trans h.output,yr h.size h2.size,fun i hi hr=>(h2.block i (yi hi h.size) hr).trans (h.block i hi)⟩
theorem zQ {w2:JY} {row row':Option Nat} (h:w.grownBy w1 row) (h2:w1.grownBy w2 row') (hr:row'=row\/∃ k,row'=some k/\w.heap.size<=k):w.grownBy w2 row:=
 ⟨h2.os.trans h.os,h2.tape.trans h.tape,h2.output.trans h.output,yr h.size h2.size,fun i hi H=>(h2.block i (yi hi h.size) (fun e=>by
  rcases hr with rfl | ⟨k,rfl,hk⟩
  ·exact H e
  ·injection e with e; omega)).trans (h.block i hi H)⟩
theorem zE {row:Option Nat} (h:w.grownBy w' row) (hb:b<w.heap.size) (H:row≠some b) (o:Nat):w'.cell? ⟨b,o,none⟩=w.cell? ⟨b,o,none⟩:=
 yp (w:=w) (h.block b hb (fun e=>H e.symm))
theorem zAU {row row':Option Nat} (h:w.grownBy w' row) (hr:row'=row\/∃ k,row'=some k/\w.heap.size<=k) (r:Option Nat) (H:r=row'\/∃ k,r=some k/\w'.heap.size<=k):r=row\/∃ k,r=some k/\w.heap.size<=k:=by
 have:=h.size
 rcases H with rfl | ⟨k,rfl,hk⟩
 ·exact hr
 ·exact yR ⟨k,rfl,by omega⟩
theorem zN {t:TypeId} {z:Value} {s:Nat} (h:(Tryz.prog.info? t).map (fun i=>(i.zero,i.size,i.bytes))=some (some z,s,b)):∃ i,Tryz.prog.info? t=some i/\i.zero=some z/\i.size=s/\i.bytes=b:=by
 obtain ⟨i,hi,hz⟩:=Option.map_eq_some_iff.1 h
 simp only [Prod.mk.injEq] at hz
 exact ⟨i,hi,hz.1,hz.2.1,hz.2.2⟩
structure zX where
 k:Int
 g:JZ
 t:ByteArray
def zX.zero:zX:=⟨0,⟨#[]⟩,⟨#[]⟩⟩
def atT (xs:List zX) (i:Nat):zX:=xs.getD i zX.zero
def zE9 (w:JY) (b h:Nat) (xs:List zX) (i:Nat):Prop:=
 w.cell? ⟨b,h+i*3,none⟩=some (.int .i64 (atT xs i).k)/\w.cell? ⟨b,h+i*3+1,none⟩=some (.string (atT xs i).g)/\w.cell? ⟨b,h+i*3+2,none⟩=some (.string (atT xs i).t)
def zFA (w:JY) (b h:Nat) (xs:List zX):Prop:=∀ i,i<xs.length->zE9 w b h xs i
theorem zE9.below {xs:List zX} {B:Nat} (h:zE9 w b off xs i) (hb:Below B w w') (hB:b<B):zE9 w' b off xs i:=by
 obtain ⟨h0,h1,h2⟩:=h
 exact ⟨(hb.cell (p:=⟨b,_,none⟩) hB).trans h0,(hb.cell (p:=⟨b,_,none⟩) hB).trans h1,(hb.cell (p:=⟨b,_,none⟩) hB).trans h2⟩
theorem zFA.below {w w':JY} {b H:Nat} {xs:List zX} {B:Nat} (h:zFA w b H xs) (hb:Below B w w') (hB:b<B):zFA w' b H xs:=
 fun i hi=>(h i hi).below hb hB
def zPU (o:zX):Nat:=o.g.size+o.t.size
def Z2 (xs:List zX):Nat->Nat
 | 0=>0
 | k+1=>Z2 xs k+zPU (atT xs k)
def zL1 (w:JY) (g:Nat) (xs:List zX) (k:Nat):Prop:=
 g<w.heap.size/\w.there g 0 (xs.length*3)/\∀ i,i<k->zE9 w g 0 xs i
theorem zRq:(Tryz.prog.info? 150).map (fun i=>(i.zero,i.size,i.bytes))=some (some (.agg #[.int .i64 0,.string ⟨#[]⟩,.string ⟨#[]⟩]),3,40):=by kernel_rfl
end Go.Proofs.YtgbkgkdpdfdokaaGreatDoor
