import Derived.Test.YtokabkhnidlcnacGreatDoorM42
namespace Go.Proofs.YtokabkhnidlcnacGreatDoor
set_option linter.unusedSimpArgs false
set_option linter.unusedVariables false
set_option maxHeartbeats 16000000
set_option maxRecDepth 100000
open Go.RowKit Go.Maps
structure zAz (ms:List zJ) (ks:List ByteArray):Prop where
 ln:ks.length = ms.length
 at':∀ i,i < ms.length -> ks[i]? = some (atM ms i).n
 nd:ks.Nodup
 sz:∀ x ∈ ks,x.size <= maxLen
theorem zPQ {ks:List ByteArray} (h:ks.Nodup):∀ {i:Nat} {t:ByteArray},ks[i]? = some t -> zDv ks t = some i:=by
 induction ks with
 | nil=>intro i t h; simp at h
 | cons x r ih=>
  intro i t hi
  rw [List.nodup_cons] at h
  cases i with
  | zero=>
   simp at hi
   unfold zDv
   rw [if_pos hi]
  | succ i=>
   have hi':r[i]? = some t:=by simpa using hi
   have hx:x ≠ t:=fun e=>h.1 (by rw [e]; exact List.mem_of_getElem? hi')
   unfold zDv
   rw [if_neg hx,ih h.2 hi']
   rfl
theorem zAz.idx {ms:List zJ} {ks:List ByteArray} (h:zAz ms ks) {i:Nat} (hi:i < ms.length):zDv ks (atM ms i).n = some i:=zPQ h.nd (h.at' i hi)
theorem zAz.mem {ms:List zJ} {ks:List ByteArray} (h:zAz ms ks) {u:ByteArray} (hu:u ∈ ks):∃ i,i < ms.length /\ (atM ms i).n = u:=by
 obtain ⟨i,hi,e⟩:=List.getElem_of_mem hu
 have hl:=h.ln
 have:=h.at' i (by omega)
 rw [List.getElem?_eq_getElem hi,e] at this
 injection this with this
 exact ⟨i,by omega,this.symm⟩
theorem zAz.inj {ms:List zJ} {ks:List ByteArray} (h:zAz ms ks) {i j:Nat} (hi:i < ms.length) (hj:j < ms.length) (e:(atM ms i).n = (atM ms j).n):i = j:=by
 have h1:=h.idx hi
 rw [e,h.idx hj] at h1
 injection h1 with h1
 exact h1.symm
structure Rch (ms:List zJ) (U:List UnR) (k:Nat) (rs:List ByteArray) (j:Nat):Prop where
 nd:rs.Nodup
 reach:∀ u ∈ rs,∃ i,i < ms.length /\ (atM ms i).n = u /\ TC (Edg ms U) k i
 first:∀ u ∈ (atU U k).us,u ∈ rs
 done:∀ q u i,q < j -> rs[q]? = some u -> i < ms.length -> (atM ms i).n = u -> ∀ x ∈ (atU U i).us,x ∈ rs
theorem Rch.start {ms:List zJ} {U:List UnR} {k:Nat} {ks:List ByteArray} (hN:zAz ms ks) (hk:k < ms.length) (hu:∀ i,i < ms.length -> ∀ u ∈ (atU U i).us,u ∈ ks):Rch ms U k ((atU U k).us.foldl Z9 []) 0:=
 ⟨zFs _ _ (by simp),fun u h=>by
  rcases (zAK _ _).1 h with h | h
  ·cases h
  ·obtain ⟨i,hi,e⟩:=hN.mem (hu k hk u h)
   exact ⟨i,hi,e,TC.one ⟨hk,hi,by rw [e]; exact h⟩⟩,fun u h=>(zAK _ _).2 (Or.inr h),fun q u i hq=>by omega⟩
theorem Rch.step {ms:List zJ} {U:List UnR} {k:Nat} {ks rs:List ByteArray} {j i:Nat} (hN:zAz ms ks) (hu:∀ i,i < ms.length -> ∀ u ∈ (atU U i).us,u ∈ ks) (h:Rch ms U k rs j) (hi:i < ms.length) (hj:rs[j]? = some (atM ms i).n):Rch ms U k ((atU U i).us.foldl Z9 rs) (j + 1):=by
 have hjl:j < rs.length:=(List.getElem?_eq_some_iff.1 hj).1
 have hpre:∀ q x,q < rs.length -> ((atU U i).us.foldl Z9 rs)[q]? = some x -> rs[q]? = some x:=by
  have:∀ (l acc:List ByteArray) q x,q < acc.length -> (l.foldl Z9 acc)[q]? = some x -> acc[q]? = some x:=by
   intro l
   induction l with
   | nil=>intro acc q x _ h; exact h
   | cons a r ih=>
    intro acc q x hq h
    have hle:acc.length <= (Z9 acc a).length:=by
     by_cases e:a ∈ acc
     ·rw [zA9 e]; exact Nat.le_refl _
     ·rw [zA5 e]; simp
    have h1:=ih (Z9 acc a) q x (by omega) h
    by_cases e:a ∈ acc
    ·rw [zA9 e] at h1; exact h1
    ·rw [zA5 e,List.getElem?_append_left hq] at h1; exact h1
  exact this _ _
 obtain ⟨i0,hi0,e0,ht⟩:=h.reach _ (List.mem_of_getElem? hj)
 have e1:=hN.inj hi0 hi e0
 subst e1
 refine ⟨zFs _ _ h.nd,fun u hm=>?_,fun u hm=>(zAK _ _).2 (Or.inl (h.first u hm)),fun q u i' hq hx hi' e x hxm=>?_⟩
 ·rcases (zAK _ _).1 hm with hm | hm
  ·exact h.reach u hm
  ·obtain ⟨m,hm1,e⟩:=hN.mem (hu _ hi u hm)
   exact ⟨m,hm1,e,ht.trans (TC.one ⟨hi,hm1,by rw [e]; exact hm⟩)⟩
 ·have hx':=hpre q u (by omega) hx
  by_cases e2:q = j
  ·subst e2
   rw [hj] at hx'
   injection hx' with hx'
   have:=hN.inj hi hi' (hx'.trans e.symm)
   subst this
   exact (zAK _ _).2 (Or.inr hxm)
  ·exact (zAK _ _).2 (Or.inl (h.done q u i' (by omega) hx' hi' e x hxm))
theorem Rch.len {ms:List zJ} {U:List UnR} {k:Nat} {ks rs:List ByteArray} {j:Nat} (hN:zAz ms ks) (h:Rch ms U k rs j):rs.length <= ms.length:=by
 rw [<- hN.ln]
 exact zAR rs ks h.nd (fun u hu=>by
  obtain ⟨i,hi,e,_⟩:=h.reach u hu
  rw [<- e]
  exact List.mem_of_getElem? (hN.at' i hi))
theorem Rch.fin {ms:List zJ} {U:List UnR} {k:Nat} {ks rs:List ByteArray} {j:Nat} (hN:zAz ms ks) (h:Rch ms U k rs j) (hj:rs.length <= j) (hk:k < ms.length):(atM ms k).n ∈ rs ↔ TC (Edg ms U) k k:=by
 constructor
 ·intro hm
  obtain ⟨i,hi,e,ht⟩:=h.reach _ hm
  have:=hN.inj hi hk e
  subst this
  exact ht
 ·rintro ⟨q,hp⟩
  refine TC.closed (P:=fun i=>(atM ms i).n ∈ rs) (fun a b ha hab=>?_) hp (fun m hm=>h.first _ hm.2.2)
  obtain ⟨q,hq,e⟩:=List.getElem_of_mem ha
  exact h.done q _ a (by omega) (by rw [List.getElem?_eq_getElem hq,e]) hab.1 rfl _ hab.2.2
theorem zKn (x y z:Value) (w:World):(Instr.field 64 (.agg #[x,y,z]) 0).run Tryz.prog w = .ok x w:=by kernel_rfl
theorem zNy (acc:List ByteArray) (u:ByteArray):acc.length <= (Z9 acc u).length:=by
 by_cases e:u ∈ acc
 ·rw [zA9 e]; exact Nat.le_refl _
 ·rw [zA5 e]; simp
theorem zJ0:∀ (us acc:List ByteArray),acc.length <= (us.foldl Z9 acc).length
 | [],acc=>Nat.le_refl _
 | u :: r,acc=>Nat.le_trans (zNy acc u) (zJ0 r (Z9 acc u))
theorem zKo (rs us:List ByteArray) {j:Nat} (h:j + 1 <= rs.length):j + 1 <= (us.foldl Z9 rs).length:=Nat.le_trans h (zJ0 us rs)
theorem zIh (P B C:Nat) (am:Option Addr) (cm:Nat) (ms:List zJ) (v1:Value) (vs:List UvR) (U:List UnR) (kv:Value) (pv:Option Nat) (ks:List ByteArray) (k:Nat) (w:World) (h:PgC w B C P am cm ms.length v1 vs U) (hM:zBz w am ms) (hk:k < ms.length) (hS:zBN w P 2 C kv pv ks) (hC:C <= w.heap.size) (hn:ms.length <= 100) (hN:zAz ms ks) (hu:∀ i,i < ms.length -> ∀ u ∈ (atU U i).us,u ∈ ks) (hul:∀ i,i < ms.length -> (atU U i).us.length <= 20001) :
  Calls Tryz.prog 93 #[.pointer (some ⟨P,0,none⟩),.int .i64 (k:Int)] w fun e w'=>zB0 e (¬ TC (Edg ms U) k k) /\ Below w.heap.size w w':=by
 obtain ⟨g,c,rfl,q0,q1,q2⟩:=h.at hk
 have hkv:k < vs.length:=by have:=h.ln; omega
 have hkI:(k:Int) < (vs.length:Int):=by omega
 have hPl:=h.lt
 have d0:=h.c0
 have d1:=h.c1
 have hgl:g < w.heap.size:=World.block_lt_of_cell? _ _ q0
 have hkm:(k:Int) < (ms.length:Int):=by omega
 obtain ⟨⟨hst,_,hbb⟩,hvl,_⟩:=h.uns.2 k hkv
 obtain ⟨au,cu,hvu,_⟩:=id hst
 have HX0:=zB (show Calls Tryz.prog 143 #[.pointer (some ⟨w.heap.size,0,none⟩),(atV vs k).vu] (w.alloc (.cells #[.slice none 0 0,.map none] 72)) fun e w'=>e = .returned (.tuple #[]) /\ ZR (w.alloc (.cells #[.slice none 0 0,.map none] 72)) w.heap.size 0 w.heap.size (.slice none 0 0) none ((atU U k).us.foldl Z9 []) w' from
  zDK w.heap.size 0 w.heap.size _ none [] (atV vs k).vu (atU U k).us _ (zBN.new w _ _) (fun x hx=>hN.sz x (hu k hk x hx)) (by have:=hul k hk; simp; omega) (by simp) (hst.below (zC _ _)) (fun g e=>⟨by have:=hvl g e; omega,by simp [Value.ownBlock],by simp⟩))
 rw [hvu] at HX0 q0
 have HR0:=zB (Rch.start hN hk hu)
 have HN:=zB hN
 have HU:=zB hu
 have HUL:=zB hul
 have HM:=zB hM
 have HPG:=zB h
 have HSS:=zB hS
 clear h hM hS hN hu hul hst hvl hbb hvu q1 q2
 go_enter Tryz.func93,Tryz.ntmps93
 go_wp2_with (first | (go_at_call 143; (with_reducible refine (zA HX0).mono ?_); rintro e w1 ⟨rfl,kv0,pv0,hs1,he1,hk1,hp1⟩; have HS1:=zB hs1; have hb1:Below w.heap.size w w1:=((zC _ _).trans (he1.below (B:=w.heap.size) (by simp) (Nat.le_refl _) (fun g e=>by simp [Value.ownBlock] at e) (fun g e=>by simp at e))); clear hs1 he1 hk1 hp1 HX0))
 go_loopw [6] (fun i wr=>∃ (j:Nat) (rs:List ByteArray) (kv':Value) (pv':Option Nat),i = .int .i64 (j:Int) /\ j <= rs.length /\ Hid (zBN wr w.heap.size 0 w.heap.size kv' pv' rs) /\ Hid (Rch ms U k rs j) /\ Below w.heap.size w wr) (fun i _=>ms.length - (intOf i).toNat)
 case atStart=>exact ⟨0,_,_,_,rfl,Nat.zero_le _,HS1,HR0,hb1⟩
 case round=>
  clear HS1 HR0 hb1
  obtain ⟨j,rs,kv',pv',rfl,hj,HSR,HRR,hbel⟩:=hrel
  obtain ⟨ar,cr,rfl⟩:∃ a c,kv' = .slice a rs.length c:=zM (zA HSR).row
  have r0:=(zA HSR).c0
  have hzr:=hbel.size
  have hrl:=(zA HRR).len (zA HN)
  by_cases hlt:j < rs.length
  ·have hltI:(j:Int) < (rs.length:Int):=by omega
   obtain ⟨p,hp⟩:∃ p,rs[j]? = some p:=⟨_,List.getElem?_eq_getElem hlt⟩
   obtain ⟨i,hi,hpi,_⟩:=(zA HRR).reach p (List.mem_of_getElem? hp)
   obtain ⟨gk,ck,hge,hgk,hgc⟩:=(zA HSR).row.strs.lt (by omega)
   obtain ⟨rfl,rfl⟩:ar = some ⟨gk,0,none⟩ /\ cr = ck:=by injection hge with x _ y; exact ⟨x,y⟩
   have hc:=hgc j p hp
   have hPw:=(zA HPG).below hC hbel
   have hSw:=(zA HSS).below hbel
   have hiv:i < vs.length:=by have:=hPw.ln; omega
   have HU1:=zB (zGu P B C am cm ms.length _ vs U kv pv ks p i wr hPw hi hSw ((zA HN).sz p (by rw [<- hpi]; exact List.mem_of_getElem? ((zA HN).at' i hi))) (by rw [<- hpi]; exact (zA HN).idx hi))
   obtain ⟨⟨hst,hot,hbb⟩,hvl,_⟩:=hPw.uns.2 i hiv
   clear hbb
   have HSTEP:=zB ((zA HRR).step (zA HN) (zA HU) hi (by rw [hp,hpi]))
   have HADD:=zB (fun (w1:World) (hb:Below wr.heap.size wr w1)=>zDK w.heap.size 0 w.heap.size _ pv' rs (atV vs i).vu (atU U i).us w1 ((zA HSR).below hb) (fun x hx=>(zA HN).sz x ((zA HU) i hi x hx)) (by have:=(zA HUL) i hi; omega) (by have:=hb.size; omega) (hst.below hb) (fun g e=>⟨by have:=hvl g e; omega,fun e2=>by have:=hvl g e; have:=((zA HSR).row.lt g e2).1; omega,fun e2=>by have:=hvl g e; have:=((zA HSR).plt g e2).1; omega⟩))
   obtain ⟨a5,c5,hvu,_⟩:=hst
   obtain ⟨a6,c6,hvo,_⟩:=hot
   rw [hvu] at HU1 HADD
   rw [hvo] at HU1
   have HLO:=zB (And.intro (fun g e=>((zA HSR).row.lt g e).1) (fun g e=>((zA HSR).plt g e).1))
   clear hge hp hpi hgc hPw hSw hvl hvu hvo
   go_wp2_with (first | (go_at_call 103; (with_reducible refine (zA HU1).mono ?_); rintro e w2 ⟨rfl,hb2⟩; have HB2:=zB hb2; have HA2:=zB ((zA HADD) w2 hb2); clear hb2 HU1 HADD))
   rw [zKn]
   go_wp2_with (first | (go_at_call 143; (with_reducible refine (zA HA2).mono ?_); rintro e w3 ⟨rfl,kv3,pv3,hs3,he3,hk3,hp3⟩; have HS3:=zB hs3; have hb3:Below w.heap.size w w3:=((hbel.trans ((zA HB2).mono (by omega))).trans (he3.below (B:=w.heap.size) (by have:=(zA HB2).size; omega) (Nat.le_refl _) (zA HLO).1 (zA HLO).2)); clear hs3 he3 hk3 hp3 HA2))
   exact ⟨⟨j + 1,_,_,_,by go_num,by have:=(zA HSTEP).nd; exact zKo rs _ (by omega),HS3,HSTEP,hb3⟩,by simp [intOf]; omega⟩
  ·have HFIN:=zB ((zA HRR).fin (zA HN) (by omega) hk)
   have hltI:¬ (j:Int) < (rs.length:Int):=by omega
   have HHAS:=zB (zGr w.heap.size 0 w.heap.size _ pv' rs (atM ms k).n wr (zA HSR) ((zA HN).sz _ (List.mem_of_getElem? ((zA HN).at' k hk))))
   obtain ⟨bA,off,rfl,hops,hbl⟩:∃ b off,am = some ⟨b,off,none⟩ /\ zIt w b off ms /\ b < w.heap.size:=by
    rcases zA HM with h | h
    ·omega
    ·exact h
   obtain ⟨m0,m1⟩:=hops k hk
   have e0:=(hbel.cell (p:=⟨bA,off + k * 2,none⟩) hbl).trans m0
   have f0:=(hbel.cell (p:=⟨P,0,none⟩) hPl).trans d0
   clear m0 m1 hops
   go_wp2_with (first | (go_at_call 142; (with_reducible refine (zA HHAS).mono ?_); rintro e w2 ⟨⟨v,rfl,hv⟩,hx⟩; obtain rfl:=hx.symm; have HV:=zB hv; clear hv hx))
   go_ret
   refine ⟨⟨!v,rfl,?_⟩,hbel⟩
   have hv:=zA HV
   have hf:=zA HFIN
   unfold zC1 at hv ⊢
   cases v <;> simp_all
theorem zGv {nm:ByteArray -> Nat} {T T':Nat -> List OpR}:∀ (us:List ByteArray) (acc:List OpR),(∀ u ∈ us,T (nm u) = T' (nm u)) -> zBy nm T acc us = zBy nm T' acc us
 | [],_,_=>rfl
 | u :: r,acc,h=>by
  simp only [zBy]
  rw [h u (by simp),zGv r _ (fun x hx=>h x (by simp [hx]))]
theorem zJ1 {nm:ByteArray -> Nat} {T:Nat -> List OpR} {x:OpR}:∀ (us:List ByteArray) (acc:List OpR),x ∈ zBy nm T acc us -> x ∈ acc \/ ∃ u ∈ us,x ∈ T (nm u)
 | [],_,h=>Or.inl h
 | u :: r,acc,h=>by
  simp only [zBy] at h
  split at h
  ·exact Or.inl h
  ·rcases zJ1 r _ h with h | ⟨u',h1,h2⟩
   ·rcases (ZM _ _).1 h with h | h
    ·exact Or.inl h
    ·exact Or.inr ⟨u,by simp,h⟩
   ·exact Or.inr ⟨u',by simp [h1],h2⟩
def BrE (n:Nat) (nm:ByteArray -> Nat) (U:List UnR) (T:Nat -> List OpR):Prop:=∀ i,i < n -> T i = zBy nm T (zO [] (atU U i).os) (atU U i).us
def RkE (n:Nat) (nm:ByteArray -> Nat) (U:List UnR) (rk:Nat -> Nat):Prop:=(∀ i,i < n -> ∀ u ∈ (atU U i).us,nm u < n /\ rk (nm u) < rk i) /\ ∀ i,i < n -> rk i < n
def brN (nm:ByteArray -> Nat) (U:List UnR):Nat -> Nat -> List OpR
 | 0,_=>[]
 | r + 1,i=>zBy nm (brN nm U r) (zO [] (atU U i).os) (atU U i).us
theorem zJ2 {n:Nat} {nm:ByteArray -> Nat} {U:List UnR} {rk:Nat -> Nat} (h:RkE n nm U rk):∀ r i,i < n -> rk i < r -> brN nm U r i = brN nm U (r + 1) i
 | 0,i,_,hr=>by omega
 | r + 1,i,hi,hr=>by
  show zBy nm (brN nm U r) _ _ = zBy nm (brN nm U (r + 1)) _ _
  refine zGv _ _ (fun u hu=>?_)
  obtain ⟨h1,h2⟩:=h.1 i hi u hu
  exact zJ2 h r (nm u) h1 (by omega)
theorem zQj {n:Nat} {nm:ByteArray -> Nat} {U:List UnR} {rk:Nat -> Nat} (h:RkE n nm U rk):∃ T,BrE n nm U T:=
 ⟨brN nm U n,fun i hi=>zJ2 h n i hi (h.2 i hi)⟩
theorem BrE.nd {n:Nat} {nm:ByteArray -> Nat} {U:List UnR} {T:Nat -> List OpR} (h:BrE n nm U T) {i:Nat} (hi:i < n):(T i).Nodup:=by
 rw [h i hi]
 exact zK8 _ _ _ _ (Z1 _ _ (by simp))
theorem BrE.sub {n:Nat} {nm:ByteArray -> Nat} {U:List UnR} {T:Nat -> List OpR} {rk:Nat -> Nat} (h:BrE n nm U T) (hr:RkE n nm U rk) (hU:n <= U.length):∀ r i,i < n -> rk i < r -> ∀ o ∈ T i,o ∈ ZE U
 | 0,i,_,hr'=>by omega
 | r + 1,i,hi,hr'=>fun o ho=>by
  rw [h i hi] at ho
  rcases zJ1 _ _ ho with ho | ⟨u,hu,ho⟩
  ·rcases (ZM _ _).1 ho with ho | ho
   ·cases ho
   ·exact List.mem_flatMap.2 ⟨_,zD4 (by omega),ho⟩
  ·obtain ⟨h1,h2⟩:=hr.1 i hi u hu
   exact BrE.sub h hr hU r (nm u) h1 (by omega) o ho
theorem BrE.near {n:Nat} {nm:ByteArray -> Nat} {U U':List UnR} {S T:Nat -> List OpR} {rk:Nat -> Nat} (h:BrE n nm U' T) (hr:RkE n nm U' rk) (hS:∀ i,i < n -> S i = Zb nm S (zO [] (atU U i).os) (atU U i).us) (hU:∀ i,i < n -> (atU U' i).os = (atU U i).os /\ (atU U' i).us = dst (atU U i).us):∀ r i,i < n -> rk i < r -> zMh (S i) (T i)
 | 0,i,_,hr'=>by omega
 | r + 1,i,hi,hr'=>by
  have e1:S i = Zb nm S (zO [] (atU U' i).os) (atU U' i).us:=by
   rw [(hU i hi).1,(hU i hi).2,zKA]
   exact hS i hi
  rw [e1,h i hi]
  refine zHL _ _ _ (fun u hu=>?_) ⟨fun _=>rfl,fun x=>x⟩
  obtain ⟨h1,h2⟩:=hr.1 i hi u hu
  refine ⟨BrE.near h hr hS hU r (nm u) h1 (by omega),?_,h.nd h1⟩
  rw [hS _ h1]
  exact zC4 _ _ _ _ (Z1 _ _ (by simp))
structure ScM (w:World) (C bs:Nat) (ms:List zJ) (T:Nat -> List OpR) (G:ByteArray -> Option Value):Prop where
 mp:∃ (m:Nat) (M:List Nat),ZQ w bs m G /\ m <= M.length /\ M.Nodup /\ ∀ j ∈ M,j < ms.length /\ (G (atM ms j).n).isSome = true
 at':∀ j,j < ms.length -> ∀ x,G (atM ms j).n = some x -> ∃ v,x = .agg #[v] /\ zAN w C v (T j) /\ ∀ g,v.ownBlock = some g -> C <= g /\ g < w.heap.size
 apt:∀ i j,i < ms.length -> j < ms.length -> i ≠ j -> ∀ v v',G (atM ms i).n = some (.agg #[v]) -> G (atM ms j).n = some (.agg #[v']) -> ∀ g,v.ownBlock = some g -> v'.ownBlock ≠ some g
theorem ZQ.same {w w':World} {b n:Nat} {G:ByteArray -> Option Value} (h:ZQ w b n G) (hs:w'.heap[b]? = w.heap[b]?):ZQ w' b n G:=by
 obtain ⟨D,⟨es,clock,hb,F,h1,h2⟩,h⟩:=h
 exact ⟨D,⟨es,clock,hs.trans hb,F,h1,h2⟩,h⟩
def Dj (ms:List zJ) (G:ByteArray -> Option Value) (b:Nat) (kv:Value) (pv:Option Nat):Prop:=∀ j,j < ms.length -> ∀ v,G (atM ms j).n = some (.agg #[v]) -> Apt v b kv pv
theorem ScM.eff {w w':World} {C bs b o:Nat} {ms:List zJ} {T:Nat -> List OpR} {G:ByteArray -> Option Value} {kv:Value} {pv:Option Nat} (h:ScM w C bs ms T G) (hd:Dj ms G b kv pv) (he:Eff w w' b o kv pv) (hbs:bs < w.heap.size) (h1:bs ≠ b) (h2:kv.ownBlock ≠ some bs) (h3:pv ≠ some bs):ScM w' C bs ms T G:=by
 refine ⟨?_,fun j hj x hx=>?_,h.apt⟩
 ·obtain ⟨m,M,hm,hM⟩:=h.mp
  exact ⟨m,M,hm.same (he.blk bs hbs h1 h2 h3),hM⟩
 ·obtain ⟨v,rfl,hv,hb⟩:=h.at' j hj x hx
  have ha:=hd j hj v hx
  have hz:=he.size
  exact ⟨v,rfl,zBJ hv (fun g e=>he.blk g (hb g e).2 (ha g e).1 (ha g e).2.1 (ha g e).2.2),fun g e=>⟨(hb g e).1,by have:=(hb g e).2; omega⟩⟩
theorem ScM.below {w w':World} {C bs:Nat} {ms:List zJ} {T:Nat -> List OpR} {G:ByteArray -> Option Value} (h:ScM w C bs ms T G) (hb:Below w.heap.size w w'):ScM w' C bs ms T G:=by
 refine ⟨?_,fun j hj x hx=>?_,h.apt⟩
 ·obtain ⟨m,M,hm,hM⟩:=h.mp
  exact ⟨m,M,hm.same (hb.block bs hm.lt),hM⟩
 ·obtain ⟨v,rfl,hv,hg⟩:=h.at' j hj x hx
  exact ⟨v,rfl,hv.below hb,fun g e=>⟨(hg g e).1,by have:=(hg g e).2; have:=hb.size; omega⟩⟩
theorem ScM.lt {w:World} {C bs:Nat} {ms:List zJ} {T:Nat -> List OpR} {G:ByteArray -> Option Value} (h:ScM w C bs ms T G):bs < w.heap.size:=by
 obtain ⟨m,M,hm,_⟩:=h.mp
 exact hm.lt
theorem ScM.cnt {w:World} {C bs:Nat} {ms:List zJ} {T:Nat -> List OpR} {G:ByteArray -> Option Value} (h:ScM w C bs ms T G):∃ m,ZQ w bs m G /\ m <= ms.length:=by
 obtain ⟨m,M,hm,h1,h2,h3⟩:=h.mp
 have:=zAR M (List.range ms.length) h2 (fun j hj=>List.mem_range.2 (h3 j hj).1)
 rw [List.length_range] at this
 exact ⟨m,hm,by omega⟩
theorem ScM.put {w w3:World} {C bs i:Nat} {ms:List zJ} {ks:List ByteArray} {T:Nat -> List OpR} {G:ByteArray -> Option Value} {v:Value} (hN:zAz ms ks) (h:ScM w C bs ms T G) (hi:i < ms.length) (hg:G (atM ms i).n = none) (hC:bs < C) (hv:zAN w C v (T i)) (hd:∀ j,j < ms.length -> ∀ v',G (atM ms j).n = some (.agg #[v']) -> ∀ g,v.ownBlock = some g -> v'.ownBlock ≠ some g) (hvb:∀ g,v.ownBlock = some g -> C <= g /\ g < w.heap.size) (hk:zI w w3 bs)
  (hm:∀ m,ZQ w bs m G -> m <= ms.length -> ZQ w3 bs (m + 1) (fun t'=>if t'.data = (atM ms i).n.data then some (.agg #[v]) else G t')) :
  ScM w3 C bs ms T (fun t'=>if t'.data = (atM ms i).n.data then some (.agg #[v]) else G t'):=by
 have dat:∀ {a b:ByteArray},a.data = b.data -> a = b:=fun {a b} e=>by cases a; cases b; simp at e; rw [e]
 have hz:=hk.size
 have same:∀ g,C <= g /\ g < w.heap.size -> w3.heap[g]? = w.heap[g]?:=fun g hg=>hk.block g hg.2 (by omega)
 refine ⟨?_,fun j hj x hx=>?_,fun a b ha hb hab x y hx hy g e=>?_⟩
 ·obtain ⟨m,M,hm0,h1,h2,h3⟩:=h.mp
  have hle:=zAR M (List.range ms.length) h2 (fun j hj=>List.mem_range.2 (h3 j hj).1)
  rw [List.length_range] at hle
  refine ⟨m + 1,i :: M,hm m hm0 (by omega),by simp; omega,?_,fun j hj=>?_⟩
  ·rw [List.nodup_cons]
   exact ⟨fun hmem=>(by have:=(h3 i hmem).2; rw [hg] at this; simp at this),h2⟩
  ·rcases List.mem_cons.1 hj with rfl | hj
   ·exact ⟨hi,by simp⟩
   ·refine ⟨(h3 j hj).1,?_⟩
    show (if _ then _ else _:Option Value).isSome = true
    split
    ·rfl
    ·exact (h3 j hj).2
 ·have hx':(if (atM ms j).n.data = (atM ms i).n.data then some (.agg #[v]) else G (atM ms j).n) = some x:=hx
  by_cases e:(atM ms j).n.data = (atM ms i).n.data
  ·rw [if_pos e] at hx'
   have hij:=hN.inj hj hi (dat e)
   subst hij
   injection hx' with hx'
   exact ⟨v,hx'.symm,zBJ hv (fun g e=>same g (hvb g e)),fun g e=>⟨(hvb g e).1,by have:=(hvb g e).2; omega⟩⟩
  ·rw [if_neg e] at hx'
   obtain ⟨v',rfl,hv',hb'⟩:=h.at' j hj x hx'
   exact ⟨v',rfl,zBJ hv' (fun g e=>same g (hb' g e)),fun g e=>⟨(hb' g e).1,by have:=(hb' g e).2; omega⟩⟩
 ·have hx':(if (atM ms a).n.data = (atM ms i).n.data then some (.agg #[v]) else G (atM ms a).n) = some (.agg #[x]):=hx
  have hy':(if (atM ms b).n.data = (atM ms i).n.data then some (.agg #[v]) else G (atM ms b).n) = some (.agg #[y]):=hy
  by_cases e1:(atM ms a).n.data = (atM ms i).n.data
  ·have i1:=hN.inj ha hi (dat e1)
   by_cases e2:(atM ms b).n.data = (atM ms i).n.data
   ·exact absurd (i1.trans (hN.inj hb hi (dat e2)).symm) hab
   ·rw [if_pos e1] at hx'
    rw [if_neg e2] at hy'
    have ex:v = x:=by simpa using hx'
    subst ex
    exact hd b hb y hy' g e
  ·rw [if_neg e1] at hx'
   by_cases e2:(atM ms b).n.data = (atM ms i).n.data
   ·rw [if_pos e2] at hy'
    have ey:v = y:=by simpa using hy'
    subst ey
    exact fun e3=>hd a ha x hx' g e3 e
   ·rw [if_neg e2] at hy'
    exact h.apt a b ha hb hab x y hx' hy' g e
end Go.Proofs.YtokabkhnidlcnacGreatDoor
