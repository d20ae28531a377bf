import Derived.Deep.RegionHeld3
import Derived.Test.YtgiemobdmbijiaaGreatDoorN00
import Derived.Test.YtgiemobdmbijiaaGreatDoorN01
import Derived.Test.YtgiemobdmbijiaaGreatDoorN15
import Derived.Test.YtgiemobdmbijiaaGreatDoorN16
import Derived.Test.YtgiemobdmbijiaaGreatDoorN20
import Derived.Test.YtgiemobdmbijiaaGreatDoorN26
import Derived.Test.YtgiemobdmbijiaaGreatDoorN27
import Derived.Test.YtgiemobdmbijiaaGreatDoorN29
namespace Go.Proofs.YtgiemobdmbijiaaGreatDoor
set_option linter.unusedSimpArgs false
set_option linter.unusedVariables false
set_option maxHeartbeats 16000000
set_option maxRecDepth 100000
open Go.RowKit
def MsZ (n t:Nat) (ms:List zI):Prop:=∀ i,(atM ms i).n.size <= n /\ (atM ms i).t.size <= t
theorem MsZ.nil (n t:Nat):MsZ n t []:=fun i=>⟨Nat.zero_le _,Nat.zero_le _⟩
theorem MsZ.snoc {n t:Nat} {ms:List zI} {m:zI} (h:MsZ n t ms) (h1:m.n.size <= n) (h2:m.t.size <= t):MsZ n t (ms ++ [m]):=fun i=>by
 rw [zN1]
 split
 ·exact h i
 ·split
  ·exact ⟨h1,h2⟩
  ·exact ⟨Nat.zero_le _,Nat.zero_le _⟩
theorem MsZ.set {n t:Nat} {ms:List zI} {m:zI} {i:Nat} (h:MsZ n t ms) (hi:i < ms.length) (h1:m.n.size <= n) (h2:m.t.size <= t):MsZ n t (ms.set i m):=fun j=>by
 rw [zKv hi]
 split
 ·exact ⟨h1,h2⟩
 ·exact h j
theorem MsZ.mono {n t n' t':Nat} {ms:List zI} (h:MsZ n t ms) (h1:n <= n') (h2:t <= t'):MsZ n' t' ms:=fun i=>⟨Nat.le_trans (h i).1 h1,Nat.le_trans (h i).2 h2⟩
theorem MsZ.sized {n t:Nat} {ms:List zI} (h:MsZ n t ms) (h1:n <= 1000000000000000000) (h2:t <= 1000000000000000000):zHu ms:=fun i _=>by
 have:=h i
 unfold maxLen
 omega
structure PrS (w wr:World) (rp cap:Nat) (a:Option Addr) (bs:List UInt8) (A ga ca:Nat) (xa:List OpR) (g c:Nat) (ms:List zI) (q:Nat):Prop where
 row:ZG wr w.heap.size (.slice (some ⟨g,0,none⟩) ms.length c) ms
 rd:RdS wr rp a cap bs q
 kp:zF w wr rp
 al:wr.cell? ⟨A,0,none⟩ = some (.slice (some ⟨ga,0,none⟩) xa.length ca)
 tb:zDf wr ga xa
 gA:g ≠ A
 gg:g ≠ ga
 hA:w.heap.size <= A
 hg:w.heap.size <= ga
 rpl:rp < w.heap.size
theorem PrS.below {w wr wr':World} {rp cap:Nat} {a:Option Addr} {bs:List UInt8} {A ga ca:Nat} {xa:List OpR} {g c:Nat} {ms:List zI} {q:Nat} (h:PrS w wr rp cap a bs A ga ca xa g c ms q) (hb:Below wr.heap.size wr wr'):PrS w wr' rp cap a bs A ga ca xa g c ms q:=
 ⟨h.row.below hb,h.rd.below hb,h.kp.trans (zF.of_below hb),(hb.cell (p:=⟨A,0,none⟩) (block_lt_of_cell h.al)).trans h.al,h.tb.below hb h.tb.1,h.gA,h.gg,h.hA,h.hg,h.rpl⟩
theorem PrS.read {w wr wr':World} {rp cap:Nat} {a:Option Addr} {bs:List UInt8} {A ga ca:Nat} {xa:List OpR} {g c:Nat} {ms:List zI} {q q':Nat} (h:PrS w wr rp cap a bs A ga ca xa g c ms q) (hk:zF wr wr' rp) (hr:RdS wr' rp a cap bs q'):PrS w wr' rp cap a bs A ga ca xa g c ms q':=by
 have h1:=h.rpl
 have h2:=h.hA
 have h3:=h.hg
 have h4:=(h.row.lt g rfl).1
 exact ⟨h.row.grown (ZE hk) (fun k hk e=>by simp [Value.ownBlock] at hk; injection e with e; omega),hr,h.kp.trans hk,(hk.cell (b:=A) (block_lt_of_cell h.al) (by omega) 0).trans h.al,hk.tabO h.tb (by omega),h.gA,h.gg,h.hA,h.hg,h.rpl⟩
theorem PrS.turn {w wr wr':World} {rp cap:Nat} {a:Option Addr} {bs:List UInt8} {A ga ca:Nat} {xa:List OpR} {g c:Nat} {ms:List zI} {q:Nat} (h:PrS w wr rp cap a bs A ga ca xa g c ms q) {b:Nat} (hk:wr.grownBy wr' (some b)) (hb:w.heap.size <= b) (h1:b ≠ g) (h2:b ≠ A) (h3:b ≠ ga):PrS w wr' rp cap a bs A ga ca xa g c ms q:=by
 have hrp:=h.rpl
 have e:∀ {x:Nat},x < wr.heap.size -> x ≠ b -> wr'.heap[x]? = wr.heap[x]?:=fun hx hn=>hk.block _ hx (fun e=>hn (by injection e with e))
 have e2:∀ {x o:Nat},x < wr.heap.size -> x ≠ b -> wr'.cell? ⟨x,o,none⟩ = wr.cell? ⟨x,o,none⟩:=fun hx hn=>World.cell?_of_block (w:=wr) (e hx hn)
 refine ⟨h.row.grown hk (fun k hk e=>by simp [Value.ownBlock] at hk; injection e with e; omega),h.rd.kept (fun i hi=>e (by have:=h.rd.lt; omega) (by omega)),⟨hk.os.trans h.kp.os,hk.tape.trans h.kp.tape,hk.output.trans h.kp.output,Nat.le_trans h.kp.size hk.size,fun i hi a=>(e (Nat.lt_of_lt_of_le hi h.kp.size) (by omega)).trans (h.kp.block i hi a)⟩,(e2 (block_lt_of_cell h.al) (Ne.symm h2)).trans h.al,⟨Nat.lt_of_lt_of_le h.tb.1 hk.size,fun i hi=>?_⟩,h.gA,h.gg,h.hA,h.hg,h.rpl⟩
 obtain ⟨c0,c1,c2,c3⟩:=h.tb.2 i hi
 exact ⟨(e2 h.tb.1 (Ne.symm h3)).trans c0,(e2 h.tb.1 (Ne.symm h3)).trans c1,(e2 h.tb.1 (Ne.symm h3)).trans c2,(e2 h.tb.1 (Ne.symm h3)).trans c3⟩
theorem PrS.app {w W w6:World} {rp cap:Nat} {a:Option Addr} {bs:List UInt8} {A ga ca:Nat} {xa:List OpR} {g c:Nat} {ms:List zI} {q:Nat} {m:zI} {v6:Value} (h:PrS w W rp cap a bs A ga ca xa g c ms q)
  (hown:w6.ownsRow w.heap.size 39 2 v6 (ms.length + 1) (zU ms ++ zU [m])) (hgr:W.grownBy w6 (some g)) (hat:v6.ownBlock = some g \/ ∃ k,v6.ownBlock = some k /\ W.heap.size <= k) :
  ∃ g6 c6 ms6,ms6 = ms ++ [m] /\ v6 = .slice (some ⟨g6,0,none⟩) ms6.length c6 /\ PrS w w6 rp cap a bs A ga ca xa g6 c6 ms6 q:=by
 have hr:ZG w6 w.heap.size v6 (ms ++ [m]):=by
  unfold ZG
  rw [zBE,List.length_append]
  exact hown
 obtain ⟨g6,c6,rfl⟩:=hr.has (by simp)
 have hrp:=h.rpl
 have hA:=h.hA
 have hg:=h.hg
 have hgb:=(h.row.lt g rfl).1
 have e:∀ {x:Nat},x < W.heap.size -> x ≠ g -> w6.heap[x]? = W.heap[x]?:=fun hx hn=>hgr.block _ hx (fun e=>hn (by injection e with e))
 have e2:∀ {x o:Nat},x < W.heap.size -> x ≠ g -> w6.cell? ⟨x,o,none⟩ = W.cell? ⟨x,o,none⟩:=fun hx hn=>World.cell?_of_block (w:=W) (e hx hn)
 have hlA:A < W.heap.size:=block_lt_of_cell h.al
 have hlg:ga < W.heap.size:=h.tb.1
 have hg6:g6 ≠ A /\ g6 ≠ ga:=by
  rcases hat with e | ⟨k,e,hk⟩
  ·have:g6 = g:=by simpa [Value.ownBlock] using e
   rw [this]; exact ⟨h.gA,h.gg⟩
  ·have:g6 = k:=by simpa [Value.ownBlock] using e
   omega
 refine ⟨g6,c6,ms ++ [m],rfl,rfl,hr,h.rd.kept (fun i hi=>e (by have:=h.rd.lt; omega) (by omega)),⟨hgr.os.trans h.kp.os,hgr.tape.trans h.kp.tape,hgr.output.trans h.kp.output,Nat.le_trans h.kp.size hgr.size,fun i hi a=>(e (Nat.lt_of_lt_of_le hi h.kp.size) (by omega)).trans (h.kp.block i hi a)⟩,(e2 hlA (Ne.symm h.gA)).trans h.al,⟨Nat.lt_of_lt_of_le hlg hgr.size,fun i hi=>?_⟩,hg6.1,hg6.2,h.hA,h.hg,h.rpl⟩
 obtain ⟨c0,c1,c2,c3⟩:=h.tb.2 i hi
 exact ⟨(e2 hlg (Ne.symm h.gg)).trans c0,(e2 hlg (Ne.symm h.gg)).trans c1,(e2 hlg (Ne.symm h.gg)).trans c2,(e2 hlg (Ne.symm h.gg)).trans c3⟩
theorem zMl {xs:List OpR} (h:zZ xs 0):xs.length <= 500 /\ zDR xs xs.length:=by
 rcases h with ⟨h,_⟩ | ⟨h1,⟨h,_⟩ | ⟨h2,_⟩⟩
 ·cases h
 ·cases h
 ·exact ⟨h1,h2⟩
theorem za.atE {w:World} {B g n c:Nat} {us:List ByteArray} (h:za w B (.slice (some ⟨g,0,none⟩) n c) us) (i:Nat) (hi:i < us.length):w.cell? ⟨g,i,none⟩ = some (.string (Go.Proofs.YtgiemobdmbijiaaGreatDoor.atB us i)):=by
 have:=h.cells i (Go.Proofs.YtgiemobdmbijiaaGreatDoor.atB us i) (by unfold Go.Proofs.YtgiemobdmbijiaaGreatDoor.atB; rw [List.getD_eq_getElem?_getD,List.getElem?_eq_getElem hi]; rfl)
 simpa using this
structure RnS (w wr:World) (rp cap:Nat) (a:Option Addr) (bs:List UInt8) (A ga ca:Nat) (xa:List OpR) (g c:Nat) (ms:List zI) (q L Sb:Nat) (sv:Value):Prop where
 pr:PrS w wr rp cap a bs A ga ca xa g c ms q
 lg:g < L
 lA:A < L
 la:ga < L
 lw:w.heap.size <= L
 lS:L <= Sb
 sc:wr.cell? ⟨Sb,0,none⟩ = some sv
 sf:wr.frozen? ⟨Sb,0,none⟩ = false
theorem RnS.below {w wr wr':World} {rp cap:Nat} {a:Option Addr} {bs:List UInt8} {A ga ca:Nat} {xa:List OpR} {g c:Nat} {ms:List zI} {q L Sb:Nat} {sv:Value} (h:RnS w wr rp cap a bs A ga ca xa g c ms q L Sb sv) (hb:Below wr.heap.size wr wr'):RnS w wr' rp cap a bs A ga ca xa g c ms q L Sb sv:=
 ⟨h.pr.below hb,h.lg,h.lA,h.la,h.lw,h.lS,(hb.cell (p:=⟨Sb,0,none⟩) (block_lt_of_cell h.sc)).trans h.sc,(hb.frozen (p:=⟨Sb,0,none⟩) (block_lt_of_cell h.sc)).trans h.sf⟩
theorem RnS.read {w wr wr':World} {rp cap:Nat} {a:Option Addr} {bs:List UInt8} {A ga ca:Nat} {xa:List OpR} {g c:Nat} {ms:List zI} {q q' L Sb:Nat} {sv:Value} (h:RnS w wr rp cap a bs A ga ca xa g c ms q L Sb sv) (hk:zF wr wr' rp) (hr:RdS wr' rp a cap bs q'):RnS w wr' rp cap a bs A ga ca xa g c ms q' L Sb sv:=by
 have h1:=h.pr.rpl
 have h2:=h.lw
 have h3:=h.lS
 exact ⟨h.pr.read hk hr,h.lg,h.lA,h.la,h.lw,h.lS,(hk.cell (b:=Sb) (block_lt_of_cell h.sc) (by omega) 0).trans h.sc,(hk.frozen (b:=Sb) (block_lt_of_cell h.sc) (by omega) 0).trans h.sf⟩
theorem RnS.grow {w wr wr':World} {rp cap:Nat} {a:Option Addr} {bs:List UInt8} {A ga ca:Nat} {xa:List OpR} {g c:Nat} {ms:List zI} {q L Sb:Nat} {sv:Value} (h:RnS w wr rp cap a bs A ga ca xa g c ms q L Sb sv) {b:Nat} (hk:wr.grownBy wr' (some b)) (hb:L <= b) (hn:b ≠ Sb):RnS w wr' rp cap a bs A ga ca xa g c ms q L Sb sv:=by
 have h1:=h.lg
 have h2:=h.lA
 have h3:=h.la
 have h4:=h.lw
 have e:=hk.block Sb (block_lt_of_cell h.sc) (fun x=>hn (by injection x with x; exact x.symm))
 exact ⟨h.pr.turn hk (by omega) (by omega) (by omega) (by omega),h.lg,h.lA,h.la,h.lw,h.lS,(World.cell?_of_block (w:=wr) (a:=⟨Sb,0,none⟩) e).trans h.sc,(World.frozen?_of_block (w:=wr) (a:=⟨Sb,0,none⟩) e).trans h.sf⟩
theorem RnS.put {w wr:World} {rp cap:Nat} {a:Option Addr} {bs:List UInt8} {A ga ca:Nat} {xa:List OpR} {g c:Nat} {ms:List zI} {q L Sb:Nat} {sv:Value} (h:RnS w wr rp cap a bs A ga ca xa g c ms q L Sb sv) (sv':Value):RnS w (wr.setCell ⟨Sb,0,none⟩ sv') rp cap a bs A ga ca xa g c ms q L Sb sv':=by
 have h1:=h.lg
 have h2:=h.lA
 have h3:=h.la
 have h4:=h.lw
 have h5:=h.lS
 exact ⟨h.pr.turn (zm wr Sb 0 sv') (by omega) (by omega) (by omega) (by omega),h.lg,h.lA,h.la,h.lw,h.lS,World.cell?_setCell_same _ _ _ h.sc,(World.frozen?_setCell _ _ _ _).trans h.sf⟩
structure MdB (wr:World) (M:Nat) (n t:ByteArray):Prop where
 c0:wr.cell? ⟨M,0,none⟩ = some (.string n)
 c1:wr.cell? ⟨M,1,none⟩ = some (.string t)
 f1:wr.frozen? ⟨M,1,none⟩ = false
theorem MdB.lt {wr:World} {M:Nat} {n t:ByteArray} (h:MdB wr M n t):M < wr.heap.size:=block_lt_of_cell h.c0
theorem MdB.same {wr wr':World} {M:Nat} {n t:ByteArray} (h:MdB wr M n t) (e:wr'.heap[M]? = wr.heap[M]?):MdB wr' M n t:=
 ⟨(World.cell?_of_block (w:=wr) (a:=⟨M,0,none⟩) e).trans h.c0,(World.cell?_of_block (w:=wr) (a:=⟨M,1,none⟩) e).trans h.c1,(World.frozen?_of_block (w:=wr) (a:=⟨M,1,none⟩) e).trans h.f1⟩
theorem MdB.below {wr wr':World} {M:Nat} {n t:ByteArray} (h:MdB wr M n t) (hb:Below wr.heap.size wr wr'):MdB wr' M n t:=h.same (hb.block M h.lt)
theorem MdB.kept {wr wr':World} {M rp:Nat} {n t:ByteArray} (h:MdB wr M n t) (hk:zF wr wr' rp) (hn:M ≠ rp):MdB wr' M n t:=h.same (hk.block M h.lt hn)
theorem MdB.other {wr:World} {M b o:Nat} {v:Value} {n t:ByteArray} (h:MdB wr M n t) (hn:b ≠ M):MdB (wr.setCell ⟨b,o,none⟩ v) M n t:=h.same ((zm wr b o v).block M h.lt (fun e=>hn (by injection e with e; exact e.symm)))
theorem MdB.put {wr:World} {M:Nat} {n t:ByteArray} (h:MdB wr M n t) (t':ByteArray):MdB (wr.setCell ⟨M,1,none⟩ (.string t')) M n t':=
 ⟨(World.cell?_setCell_other _ _ _ _ (by simp)).trans h.c0,World.cell?_setCell_same _ _ _ h.c1,(World.frozen?_setCell _ _ _ _).trans h.f1⟩
theorem MdB.new (wr:World) (n t:ByteArray):MdB (wr.alloc (.cells #[.string n,.string t] 39)) wr.heap.size n t:=⟨by simp [go_sem],by simp [go_sem],by simp [go_sem]⟩
theorem zGJ.low {w:World} {B B':Nat} {v:Value} {out:List (List OpR)} (h:zGJ w B v out) (hb:B' <= B):zGJ w B' v out:=by
 obtain ⟨g,c,rfl,h⟩:=h
 refine ⟨g,c,rfl,h.imp id fun h=>⟨Nat.le_trans hb h.1,h.2.1,fun i hi=>?_⟩⟩
 obtain ⟨t,h1,h2,h3⟩:=h.2.2 i hi
 exact ⟨t,h1,h2,fun q e=>Nat.le_trans hb (h3 q e)⟩
theorem zN7 (k:Nat):Wrd (txN k):=by
 have h:k % 12 < 12:=Nat.mod_lt _ (by decide)
 have h1:∀ j:Fin 12,(txL.getD j.val ⟨#[]⟩).data.toList ≠ [] /\ ∀ c ∈ (txL.getD j.val ⟨#[]⟩).data.toList,33 <= c.toNat:=by decide
 obtain ⟨a,b⟩:=h1 ⟨k % 12,h⟩
 have:=zBn a b
 have e:bB (txL.getD (k % 12) ⟨#[]⟩).data.toList = txL.getD (k % 12) ⟨#[]⟩:=by simp [bB]
 simp only [e] at this
 exact this
theorem zKB (k v:Nat) (tidy:Bool):0 <= Zj k v tidy /\ Zj k v tidy < 1000000:=by
 have hs:0 <= srt (zq k) (zl k) /\ srt (zq k) (zl k) <= 10:=by
  unfold srt zq zl
  repeat' split
  all_goals omega
 unfold Zj
 repeat' split
 all_goals omega
theorem zKC (k v:Nat) (tidy:Bool):OpT (zAa k v tidy):=by
 obtain ⟨h1,h2⟩:=zKB k v tidy
 refine ⟨zN7 v,⟨(Zj k v tidy).toNat,by show Zj k v tidy = _; omega,by omega⟩,?_⟩
 show (zq k = 1 /\ zl k = 0) \/ (zq k = 3 /\ zl k = 0) \/ (zq k = 2 /\ (zl k = 1 \/ zl k = 2 \/ zl k = 3))
 unfold zq zl
 by_cases a:k % 8 < 2
 ·rw [if_pos a,if_pos a]; exact Or.inl ⟨rfl,rfl⟩
 ·by_cases b:k % 8 = 2
  ·rw [if_neg a,if_pos b,if_neg a,if_pos b]; exact Or.inr (Or.inl ⟨rfl,rfl⟩)
  ·rw [if_neg a,if_neg b,if_neg a,if_neg b]
   refine Or.inr (Or.inr ⟨rfl,?_⟩)
   omega
theorem zKD (k v:Nat) (tidy:Bool):(zAa k v tidy).s.size <= 16:=by
 have:=zFh v
 show (txN v).size <= 16
 omega
theorem zDv.opT {bs:List UInt8} {p0:Nat}:∀ {k:Nat} {xs:List OpR} {p:Nat},zDv bs p0 k xs p -> ∀ o ∈ xs,OpT o /\ o.s.size <= 16
 | 0,xs,p,h=>by
  obtain ⟨rfl,_⟩:=h
  exact fun o ho=>by cases ho
 | k + 1,xs,p,h=>by
  obtain ⟨ys,q,ht,_,hc⟩:=h
  have h2:=ht.opT
  rcases hc with ⟨_,rfl⟩ | ⟨_,rfl⟩
  ·intro o ho
   rcases List.mem_append.1 ho with ho | ho
   ·exact h2 o ho
   ·rw [List.mem_singleton.1 ho]; exact ⟨zKC _ _ _,zKD _ _ _⟩
  ·exact h2
theorem zGK {k n i:Nat} {xa:List OpR}:∀ {j:Nat},j <= xa.length -> ∀ o ∈ zDd k n i xa j,o ∈ xa
 | 0,_,o,h=>by cases h
 | j + 1,hj,o,h=>by
  simp only [zDd] at h
  split at h
  ·rcases List.mem_append.1 h with h | h
   ·exact zGK (by omega) o h
   ·rw [List.mem_singleton.1 h]
    unfold atO
    rw [List.getD_eq_getElem?_getD,List.getElem?_eq_getElem (by omega)]
    exact List.getElem_mem _
  ·exact zGK (by omega) o h
theorem zJB {k n i:Nat} {xa:List OpR}:∀ j,(zDd k n i xa j).length <= j
 | 0=>Nat.le_refl _
 | j + 1=>by
  have:=zJB (k:=k) (n:=n) (i:=i) (xa:=xa) j
  simp only [zDd]
  split
  ·simp; omega
  ·omega
theorem zN8 {bs:List UInt8} {n i p:Nat} {xa:List OpR} (h:∀ o ∈ xa,OpT o /\ o.s.size <= 16) (hl:xa.length <= 10):(zFE bs n i xa p).1.length <= 11 /\ ∀ o ∈ (zFE bs n i xa p).1,OpT o /\ o.s.size <= 16:=by
 have h1:=zJB (k:=nxt bs p) (n:=n) (i:=i) (xa:=xa) xa.length
 have h2:∀ o ∈ zDd (nxt bs p) n i xa xa.length,OpT o /\ o.s.size <= 16:=fun o ho=>h o (zGK (Nat.le_refl _) o ho)
 unfold zFE
 split
 ·refine ⟨by simp; omega,fun o ho=>?_⟩
  rcases List.mem_append.1 ho with ho | ho
  ·exact h2 o ho
  ·rw [List.mem_singleton.1 ho]; exact ⟨zKC _ _ _,zKD _ _ _⟩
 ·exact ⟨by show (zDd _ _ _ _ _).length <= 11; omega,h2⟩
theorem zJC {k z:Nat} {ms:List zI} (h:∀ i,(atM ms i).n.size <= z):∀ j,(zC0 k ms j).length <= j /\ ∀ x ∈ zC0 k ms j,x.size <= z
 | 0=>⟨Nat.le_refl _,fun x hx=>by cases hx⟩
 | j + 1=>by
  obtain ⟨h1,h2⟩:=zJC (k:=k) h j
  simp only [zC0]
  split
  ·refine ⟨by simp; omega,fun x hx=>?_⟩
   rcases List.mem_append.1 hx with hx | hx
   ·exact h2 x hx
   ·rw [List.mem_singleton.1 hx]; exact h j
  ·exact ⟨by omega,h2⟩
theorem zH0 {us:List ByteArray} {z:Nat} (h:∀ x ∈ us,x.size <= z) (j:Nat):(atB us j).size <= z:=by
 unfold atB
 rw [List.getD_eq_getElem?_getD]
 by_cases hj:j < us.length
 ·rw [List.getElem?_eq_getElem hj]; exact h _ (List.getElem_mem hj)
 ·rw [List.getElem?_eq_none (by omega)]; exact Nat.zero_le _
theorem zPB {xs:List OpR} {z:Nat} (h:∀ o ∈ xs,o.s.size <= z) (j:Nat):(atO xs j).s.size <= z:=by
 unfold atO
 rw [List.getD_eq_getElem?_getD]
 by_cases hj:j < xs.length
 ·rw [List.getElem?_eq_getElem hj]; exact h _ (List.getElem_mem hj)
 ·rw [List.getElem?_eq_none (by omega)]; exact Nat.zero_le _
theorem zMm (xs:List OpR):∃ c,zZ xs c:=by
 by_cases h1:500 < xs.length
 ·exact ⟨1,Or.inl ⟨rfl,h1⟩⟩
 have h1':xs.length <= 500:=by omega
 by_cases h2:zDR xs xs.length
 ·by_cases h3:Pr 3 xs
  ·exact ⟨3,Or.inr ⟨h1',Or.inr ⟨h2,Or.inl ⟨rfl,h3⟩⟩⟩⟩
  ·by_cases h4:Pr 4 xs
   ·exact ⟨4,Or.inr ⟨h1',Or.inr ⟨h2,Or.inr ⟨h3,Or.inl ⟨rfl,h4⟩⟩⟩⟩⟩
   ·exact ⟨0,Or.inr ⟨h1',Or.inr ⟨h2,Or.inr ⟨h3,Or.inr ⟨rfl,h4⟩⟩⟩⟩⟩
 ·exact ⟨2,Or.inr ⟨h1',Or.inl ⟨rfl,h2⟩⟩⟩
theorem zPC {S:Nat -> List OpR} {i:Nat} (h:¬ B6 S i):zZ (S i) 0:=by
 obtain ⟨c,hc⟩:=zMm (S i)
 by_cases e:c = 0
 ·rw [<- e]; exact hc
 ·exact absurd ⟨c,hc,e⟩ h
theorem zAW.valid {ms:List zI} {out:List (List OpR)} {who:Int} (h:zAW ms out 0 who):∀ i,i < ms.length -> zZ (zDJ out i) 0:=by
 rcases h with ⟨_,_,h,_⟩ | ⟨hn,⟨_,_,_,_,_,h,_⟩ | ⟨h2,h⟩⟩
 ·cases h
 ·cases h
 rcases h with ⟨_,_,_,_,_,h,_⟩ | ⟨_,h⟩
 ·cases h
 obtain ⟨U,_,h⟩:=h
 rcases h with ⟨_,_,_,_,_,h,_⟩ | ⟨_,h⟩
 ·cases h
 rcases h with ⟨_,_,_,_,_,h,_⟩ | ⟨_,h⟩
 ·cases h
 obtain ⟨S,_,h⟩:=h
 rcases h with ⟨_,_,_,_,_,h,_⟩ | ⟨hs,h⟩
 ·cases h
 obtain ⟨rfl,_⟩:=h
 intro i hi
 rw [zI6 hi]
 exact zPC (hs i hi)
theorem zMn {xs:List OpR} (h:zDR xs xs.length):(∀ i,(atO xs i).s.size <= 16) /\ ∀ j,j < xs.length -> 0 <= (atO xs j).k /\ (atO xs j).k <= 9:=by
 have hk:∀ o:OpR,o.ok = true -> o.s.size <= 16 /\ 0 <= o.k /\ o.k <= 9:=fun o ho=>by
  unfold OpR.ok okB zFW zGl at ho
  simp only [Bool.and_eq_true,Bool.or_eq_true,decide_eq_true_eq,beq_iff_eq] at ho
  obtain ⟨⟨⟨⟨⟨_,_⟩,h1⟩,_⟩,_⟩,h2⟩:=ho
  refine ⟨h1,?_⟩
  rcases h2 with ⟨h2,_⟩ | ⟨h2 | h2,_⟩ <;> omega
 refine ⟨fun i=>?_,fun j hj=>(hk _ (h j hj)).2⟩
 by_cases hi:i < xs.length
 ·exact (hk _ (h i hi)).1
 ·have:atO xs i = OpR.zero:=by unfold atO; simp [List.getD,List.getElem?_eq_none (Nat.le_of_not_lt hi)]
  rw [this]; show 0 <= 16; omega
theorem zMo {ws:List ByteArray}:¬ OpW ws OpR.zero:=by
 rintro ⟨k,t,l,_,⟨_,⟨_,h⟩ | ⟨_,h⟩⟩ | ⟨sd,_,_,_,h⟩⟩
 ·have:(0:Int) = 1:=congrArg OpR.k h; exact absurd this (by decide)
 ·have:(0:Int) = 3:=congrArg OpR.k h; exact absurd this (by decide)
 ·have:(0:Int) = 2:=congrArg OpR.k h; exact absurd this (by decide)
theorem zHN {bs:List UInt8} {ws:List ByteArray} {q:Nat} (hw:∀ s ∈ ws,s.size <= 16) (hl:ws.length <= 4000):(zI7 bs ws q).size <= 72010:=by
 have h16:=zH0 hw
 have:∀ i,(Z6 bs ws q i).1.size <= 2 + 18 * i:=by
  intro i
  induction i with
  | zero=>have:=zBW (nxt bs q); simp only [Z6]; omega
  | succ i ih=>
   have h2:=zG5 ws i (nxt bs (Z6 bs ws q i).2)
   have h3:=h16 i
   show ((Z6 bs ws q i).1 ++ zCs ws i (nxt bs (Z6 bs ws q i).2) ++ atB ws i).size <= _
   rw [zK,zK]
   omega
 have h1:=this ws.length
 have h2:=zBW (nxt bs (Z6 bs ws q ws.length).2)
 unfold zI7
 rw [zK]
 omega
theorem zKx (bs:List UInt8) (ws:List ByteArray) (q:Nat) (h:q <= bs.length):∀ i,(Z6 bs ws q i).2 <= bs.length
 | 0=>zEN h
 | i + 1=>zEN (zKx bs ws q h i)
theorem zPh (W:World) (c:Int):(convert 22 9 (.slice (some ⟨W.heap.size,0,none⟩) 1 1)).run Tryz.prog (W.alloc (.cells #[.int .u8 c] 5)) = .ok (.string ⟨#[UInt8.ofNat c.toNat]⟩) (W.alloc (.cells #[.int .u8 c] 5)):=by
 rw [run_convert_bytes_string _ 22 9 5 _ _ _ Tryz.underlying22 Tryz.underlying5 Tryz.underlying9]
 have hl:(loadCells ⟨W.heap.size,0,none⟩ 1).run Tryz.prog (W.alloc (.cells #[.int .u8 c] 5)) = .ok ([c].map (Value.int .u8)).toArray (W.alloc (.cells #[.int .u8 c] 5)):=
  run_loadCells_list (P:=Tryz.prog) _ ⟨W.heap.size,0,none⟩ [.int .u8 c] (fun j v hv=>by
   match j,hv with
   | 0,hv=>simp at hv; subst hv; simp [Addr.add,go_sem])
 rw [run_bytesToString _ ⟨W.heap.size,0,none⟩ 1 1 [c] hl]
 rfl
theorem zFT:∀ (f n:Nat),(Ze f n).size <= f
 | 0,n=>by simp [Ze]
 | f + 1,n=>by
  simp only [Ze]
  split
  ·rw [zk]; omega
  ·rw [zK,zk]; have:=zFT f (n / 10); omega
theorem zHO (n:Nat) (w:World) (h:n < 10) :
  Calls Tryz.prog 28 #[.int .i64 (n:Int)] w fun e w'=>e = .returned (.string (one (UInt8.ofNat (48 + n)))) /\ Below w.heap.size w w':=by
 have hI:(n:Int) < 10:=by omega
 have hcv:=fun W c=>zPh W c
 go_enter Tryz.func28,Tryz.ntmps28
 go_wp2
 go_ret
 exact ⟨rfl,zC _ _⟩
theorem zEm:∀ (f n:Nat) (w:World),n < 10 ^ f -> 1 <= f -> f <= 20 -> n < 100000000 ->
  Calls Tryz.prog 28 #[.int .i64 (n:Int)] w fun e w'=>e = .returned (.string (Ze f n)) /\ Below w.heap.size w w'
 | 0,n,w,_,h,_,_=>by omega
 | f + 1,n,w,hf,_,h20,h8=>by
  by_cases h:n < 10
  ·have e:Ze (f + 1) n = one (UInt8.ofNat (48 + n)):=by simp only [Ze,if_pos h]
   rw [e]
   exact zHO n w h
  ·have hI:¬ (n:Int) < 10:=by omega
   have hp:(10:Nat) ^ (f + 1) = 10 ^ f * 10:=Nat.pow_succ ..
   have hf1:1 <= f:=by
    rcases Nat.eq_zero_or_pos f with rfl | x
    ·simp at hf; omega
    ·exact x
   have e:Ze (f + 1) n = Ze f (n / 10) ++ one (UInt8.ofNat (48 + n % 10)):=by simp only [Ze,if_neg h]
   rw [e]
   have HA:=zB (fun W=>zEm f (n / 10) W (by omega) hf1 (by omega) (by omega))
   have HB:=zB (fun W=>zHO (n % 10) W (Nat.mod_lt _ (by decide)))
   have hsz:=zFT f (n / 10)
   have hs1:=zk (UInt8.ofNat (48 + n % 10))
   obtain ⟨D,hD⟩:∃ D,D = Ze f (n / 10):=⟨_,rfl⟩
   obtain ⟨O,hO⟩:∃ O,O = one (UInt8.ofNat (48 + n % 10)):=⟨_,rfl⟩
   rw [<- hD] at HA hsz ⊢
   rw [<- hO] at HB hs1 ⊢
   have e10:((n / 10:Nat):Int) = (n:Int) / 10:=by omega
   have e11:((n % 10:Nat):Int) = (n:Int) % 10:=by omega
   rw [e10] at HA
   rw [e11] at HB
   clear hf hp e hD hO e10 e11
   go_enter Tryz.func28,Tryz.ntmps28
   go_wp2_with fail
   (with_reducible refine ((zA HA) w).mono ?_)
   rintro e w1 ⟨rfl,hb1⟩
   have HB1:=zB hb1
   clear hb1 HA
   go_wp2_with fail
   (with_reducible refine ((zA HB) w1).mono ?_)
   rintro e w2 ⟨rfl,hb2⟩
   have HB2:=zB ((zA HB1).trans (hb2.mono (zA HB1).size))
   clear hb2 HB
   go_wp2_with fail
   go_ret
   exact ⟨rfl,zA HB2⟩
def zPi:ByteArray:=⟨#[112,114,101,102,105,120,32]⟩
def zOe:ByteArray:=⟨#[112,111,115,116,102,105,120,32]⟩
def zPj:ByteArray:=⟨#[105,110,102,105,120,32]⟩
theorem zPD {o:OpR} (h:o.k = 1):ze (dW o) = zPi ++ (o.s ++ one 32 ++ Ze 7 o.l.toNat):=by
 unfold dW
 rw [if_pos h]
 simp only [ze]
 have e:zPi = Zi ++ one 32:=by apply ByteArray.ext; rfl
 rw [e,ZV,ZV]
theorem zN9 {o:OpR} (h:o.k = 3):ze (dW o) = zOe ++ (o.s ++ one 32 ++ Ze 7 o.l.toNat):=by
 unfold dW
 rw [if_neg (by omega),if_pos h]
 simp only [ze]
 have e:zOe = ZN ++ one 32:=by apply ByteArray.ext; rfl
 rw [e,ZV,ZV]
theorem zPE {o:OpR} (h:o.k = 2):ze (dW o) = zPj ++ (o.s ++ one 32 ++ Ze 7 o.l.toNat) ++ (one 32 ++ sdW o.sd):=by
 unfold dW
 rw [if_neg (by omega),if_neg (by omega)]
 simp only [ze]
 have e:zPj = Z7 ++ one 32:=by apply ByteArray.ext; rfl
 rw [e]
 simp only [ZV]
theorem zCU (o:OpR) (w:World) (h:OpT o) (hs:o.s.size <= 1048576) :
  Calls Tryz.prog 19 #[.agg #[.string o.s,.int .i64 o.k,.int .i64 o.l,.int .i64 o.sd]] w fun e w'=>e = .returned (.string (ze (dW o))) /\ Below w.heap.size w w':=by
 obtain ⟨h1,⟨n,hn,hn6⟩,h3⟩:=h
 have hd:=zPD (o:=o)
 have hd3:=zN9 (o:=o)
 have hd2:=zPE (o:=o)
 obtain ⟨J,hJ⟩:∃ J,J = ze (dW o):=⟨_,rfl⟩
 rw [<- hJ] at hd hd3 hd2 ⊢
 obtain ⟨s,k,l,sd⟩:=o
 simp only at hn h3 hs hd hd3 hd2 ⊢
 subst hn
 have e:((n:Nat):Int).toNat = n:=rfl
 rw [e] at hd hd3 hd2
 have HA:=zB (fun W=>zEm 7 n W (by omega) (by decide) (by decide) (by omega))
 have hsz:=zFT 7 n
 obtain ⟨D,hD⟩:∃ D,D = Ze 7 n:=⟨_,rfl⟩
 rw [<- hD] at HA hsz hd hd3 hd2
 clear hJ hD e h1
 have HX:=zB ((zA HA) (w.alloc (.cells #[.string s,.int .i64 k,.int .i64 (n:Int),.int .i64 sd] 46)).drew)
 have q1:s.size + (⟨#[32]⟩:ByteArray).size <= 9223372036854775807:=by show s.size + 1 <= _; omega
 have q2:(s ++ ⟨#[32]⟩:ByteArray).size + D.size <= 9223372036854775807:=by rw [zK]; show s.size + 1 + D.size <= _; omega
 have r1:=fun W:World=>run_string_add_sum (P:=Tryz.prog) (w:=W) s ⟨#[32]⟩ q1
 have r2:=fun W:World=>run_string_add_sum (P:=Tryz.prog) (w:=W) (s ++ ⟨#[32]⟩) D q2
 have l0:w.heap.size < (w.alloc (.cells #[.string s,.int .i64 k,.int .i64 (n:Int),.int .i64 sd] 46)).drew.heap.size:=by simp
 have HC:=zB (show (w.alloc (.cells #[.string s,.int .i64 k,.int .i64 (n:Int),.int .i64 sd] 46)).drew.cell? ⟨w.heap.size,0,none⟩ = some (.string s) /\ (w.alloc (.cells #[.string s,.int .i64 k,.int .i64 (n:Int),.int .i64 sd] 46)).drew.cell? ⟨w.heap.size,1,none⟩ = some (.int .i64 k) /\ (w.alloc (.cells #[.string s,.int .i64 k,.int .i64 (n:Int),.int .i64 sd] 46)).drew.cell? ⟨w.heap.size,2,none⟩ = some (.int .i64 (n:Int)) /\ (w.alloc (.cells #[.string s,.int .i64 k,.int .i64 (n:Int),.int .i64 sd] 46)).drew.cell? ⟨w.heap.size,3,none⟩ = some (.int .i64 sd) from ⟨by simp [go_sem],by simp [go_sem],by simp [go_sem],by simp [go_sem]⟩)
 clear HA
 go_enter Tryz.func19,Tryz.ntmps19
 go_wp2_with fail
 go_region_held3 (fun W=>W.cell? ⟨w.heap.size,0,none⟩ = some (.string s) /\ W.cell? ⟨w.heap.size,2,none⟩ = some (.int .i64 (n:Int))) (go_keep) (first | (go_at_call 28; (with_reducible refine (zA HX).mono ?_); rintro e w1 ⟨rfl,hb1⟩; have j0:=(hb1.cell (p:=⟨w.heap.size,0,none⟩) l0).trans (zA HC).1; have j1:=(hb1.cell (p:=⟨w.heap.size,1,none⟩) l0).trans (zA HC).2.1; have j2:=(hb1.cell (p:=⟨w.heap.size,2,none⟩) l0).trans (zA HC).2.2.1; have j3:=(hb1.cell (p:=⟨w.heap.size,3,none⟩) l0).trans (zA HC).2.2.2; have HB1:=zB (show Below w.heap.size w w1 from (zC _ _).drew.trans (hb1.mono (by simp))); clear hb1))
 all_goals
  rcases h3 with ⟨rfl,rfl⟩ | ⟨rfl,rfl⟩ | ⟨rfl,h3⟩
  ·have e:=hd rfl
   clear hd hd2 hd3
   go_wp2_with fail
   go_ret
   exact ⟨by rw [e]; rfl,zA HB1⟩
  ·have e:=hd3 rfl
   clear hd hd2 hd3
   go_wp2_with fail
   go_ret
   exact ⟨by rw [e]; rfl,zA HB1⟩
  ·have e:=hd2 rfl
   clear hd hd2 hd3
   rcases h3 with rfl | rfl | rfl
   all_goals
    go_wp2_with fail
    go_ret
    exact ⟨by rw [e]; first | rfl | (apply congrArg; apply congrArg; apply ByteArray.ext; simp [ByteArray.data_append,sdW,one,zCd,zBZ,zCe]; done),zA HB1⟩
theorem zEF:∀ (a b:List ByteArray) (r:ByteArray),lnT (a ++ b) r = lnT a ByteArray.empty ++ lnT b r
 | [],b,r=>by
  show lnT b r = ByteArray.empty ++ lnT b r
  apply ByteArray.ext; simp [ByteArray.data_append]
 | x :: a,b,r=>by
  simp only [List.cons_append,lnT]
  rw [zEF a b r,ZV,ZV]
theorem zPF (b:ByteArray):ByteArray.empty ++ b = b:=by apply ByteArray.ext; simp [ByteArray.data_append]
theorem zH1 (b:ByteArray):b ++ ByteArray.empty = b:=by apply ByteArray.ext; simp [ByteArray.data_append]
theorem zMp (us:List ByteArray) (o:ByteArray):∀ j,j <= us.length -> usT zCb us o j = o ++ lnT ((us.take j).map (fun x=>ze [zEM,x])) ByteArray.empty
 | 0,_=>by simp only [usT,List.take_zero,List.map_nil,lnT]; rw [zH1]
 | j + 1,h=>by
  have ih:=zMp us o j (by omega)
  have e:us.take (j + 1) = us.take j ++ [atB us j]:=by
   rw [List.take_succ_eq_append_getElem (by omega)]
   simp [atB,List.getD_eq_getElem?_getD,show j < us.length by omega]
  simp only [usT]
  rw [ih,e,List.map_append,zEF]
  simp only [List.map_cons,List.map_nil,lnT,ze]
  have e1:zCb = zEM ++ one 32:=by apply ByteArray.ext; rfl
  have e2:(⟨#[10]⟩:ByteArray) = one 10:=rfl
  rw [e1,e2,zH1]
  simp only [ZV]
def dcT (os:List OpR) (o:ByteArray):Nat -> ByteArray
 | 0=>o
 | i + 1=>dcT os o i ++ ze (dW (atO os i)) ++ ⟨#[10]⟩
theorem zMq (os:List OpR) (o:ByteArray):∀ j,j <= os.length -> dcT os o j = o ++ lnT ((os.take j).map (fun x=>ze (dW x))) ByteArray.empty
 | 0,_=>by simp only [dcT,List.take_zero,List.map_nil,lnT]; rw [zH1]
 | j + 1,h=>by
  have ih:=zMq os o j (by omega)
  have e:os.take (j + 1) = os.take j ++ [atO os j]:=by
   rw [List.take_succ_eq_append_getElem (by omega)]
   simp [atO,List.getD_eq_getElem?_getD,show j < os.length by omega]
  simp only [dcT]
  rw [ih,e,List.map_append,zEF]
  simp only [List.map_cons,List.map_nil,lnT]
  have e2:(⟨#[10]⟩:ByteArray) = one 10:=rfl
  rw [e2,zH1]
  simp only [ZV]
theorem zLS (us:List ByteArray) (os:List OpR) (b:ByteArray):dcT os (usT zCb us ⟨#[]⟩ us.length) os.length ++ ⟨#[98,101,103,105,110,10]⟩ ++ b = zDk us os b:=by
 rw [zMq os _ _ (Nat.le_refl _),zMp us _ _ (Nat.le_refl _),List.take_length,List.take_length]
 unfold zDk hdW
 rw [List.map_append,List.map_map,List.map_map,List.append_assoc,zEF,zEF]
 have e1:(⟨#[]⟩:ByteArray) = ByteArray.empty:=rfl
 have e2:(⟨#[98,101,103,105,110,10]⟩:ByteArray) = zh ++ one 10:=by apply ByteArray.ext; rfl
 rw [e1,zPF,e2]
 simp only [lnT,ZV]
 rfl
theorem zPG (W:World) (c:Int):(convert 22 9 (.slice (some ⟨W.heap.size,0,none⟩) 1 1)).run Tryz.prog (W.alloc (.cells #[.int .u8 c] 5)).drew = .ok (.string ⟨#[UInt8.ofNat c.toNat]⟩) (W.alloc (.cells #[.int .u8 c] 5)).drew:=by
 rw [run_convert_bytes_string _ 22 9 5 _ _ _ Tryz.underlying22 Tryz.underlying5 Tryz.underlying9]
 have hl:(loadCells ⟨W.heap.size,0,none⟩ 1).run Tryz.prog (W.alloc (.cells #[.int .u8 c] 5)).drew = .ok ([c].map (Value.int .u8)).toArray (W.alloc (.cells #[.int .u8 c] 5)).drew:=
  run_loadCells_list (P:=Tryz.prog) _ ⟨W.heap.size,0,none⟩ [.int .u8 c] (fun j v hv=>by
   match j,hv with
   | 0,hv=>simp at hv; subst hv; simp [Addr.add,go_sem])
 rw [run_bytesToString _ ⟨W.heap.size,0,none⟩ 1 1 [c] hl]
 rfl
theorem zGL (i:Nat) (w:World) (hi:i < 1000000) :
  Calls Tryz.prog 31 #[.int .i64 (i:Int)] w fun e w'=>e = .returned (.string (zCf i)) /\ Below w.heap.size w w':=by
 obtain ⟨r,hr,hr8⟩:∃ r:Nat,r = i % 8 /\ r < 8:=⟨_,rfl,Nat.mod_lt _ (by decide)⟩
 obtain ⟨c,hc,hcE⟩:∃ c:Nat,c = 109 + r /\ c < 256:=⟨_,rfl,by omega⟩
 obtain ⟨d,hd,hdE⟩:∃ d:Nat,d = i / 8 /\ d < 1000000:=⟨_,rfl,by omega⟩
 obtain ⟨m,hm,hmE⟩:∃ m:Nat,m = d % 3 /\ m <= 2:=⟨_,rfl,by omega⟩
 have t1:(i:Int).tmod 8 = (r:Int):=by rw [Int.tmod_eq_emod_of_nonneg (by omega),hr]; omega
 have t2:IntKind.i64.wrap (109 + (r:Int)) = (c:Int):=by rw [Go.IntWalk.i64_in _ (by omega),hc]; omega
 have t3:IntKind.u8.wrap (c:Int) = (c:Int):=Go.IntWalk.u8_in _ (by omega)
 have t4:IntKind.i64.wrap ((i:Int) / 8) = (d:Int):=by rw [Go.IntWalk.i64_in _ (by omega),hd]; omega
 have t5:(d:Int).tmod 3 = (m:Int):=by rw [Int.tmod_eq_emod_of_nonneg (by omega),hm]; omega
 have i1:(0:Int) <= (m:Int):=by omega
 have i2:(m:Int) <= 2:=by omega
 have i3:(m:Int) <= ((⟨#[95,49]⟩:ByteArray).size:Int):=i2
 have HN:=zB (show zCf i = one (UInt8.ofNat c) ++ (⟨#[95,49]⟩:ByteArray).extract 0 m by rw [hc,hr,hm,hd]; rfl)
 have hcv:=zPG w c
 clear hc hm hr hd
 go_enter Tryz.func31,Tryz.ntmps31
 go_wp2_with fail
 go_region
 go_wp2_with fail
 go_ret
 refine ⟨?_,(zC _ _).drew⟩
 rw [zA HN]
 rfl
end Go.Proofs.YtgiemobdmbijiaaGreatDoor
