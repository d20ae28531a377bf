import Derived.Laws.MakeOwn
import Derived.BigQuiet
import Derived.Test.YtgiemobdmbijiaaGreatDoorN01
import Derived.Test.YtgiemobdmbijiaaGreatDoorN07
import Derived.Test.YtgiemobdmbijiaaGreatDoorN14
import Derived.Test.YtgiemobdmbijiaaGreatDoorN15
namespace Go.Proofs.YtgiemobdmbijiaaGreatDoor
set_option linter.unusedSimpArgs false
set_option linter.unusedVariables false
set_option maxHeartbeats 16000000
set_option maxRecDepth 100000
open Go.RowKit
def zAd (w:World) (B:Nat) (v:Value) (os:List OpR):Prop:=w.ownsRow B 46 4 v os.length (zX os)
theorem zAd.grown {w w':World} {B:Nat} {u:Value} {us:List OpR} {row:Option Nat} (h:zAd w B u us) (hg:w.grownBy w' row) (hne:∀ k,u.ownBlock = some k -> row ≠ some k):zAd w' B u us:=
 World.ownsRow.kept h hg (by
  cases e:u.ownBlock with
  | none=>exact Or.inl rfl
  | some k=>exact Or.inr (fun x=>hne k e x.symm))
theorem zAd.below {w w':World} {B:Nat} {u:Value} {us:List OpR} (h:zAd w B u us) (hb:Below w.heap.size w w'):zAd w' B u us:=
 h.grown (row:=none) (zO hb none) (fun k _ e=>by cases e)
theorem zAd.lt {w:World} {B:Nat} {u:Value} {us:List OpR} (h:zAd w B u us):∀ g,u.ownBlock = some g -> B <= g /\ g < w.heap.size:=fun g hg=>World.ownsRow.lt h g hg
structure UnM (w:World) (B U:Nat) (vu vo:Value) (us:List ByteArray) (os:List OpR) (b:ByteArray):Prop where
 c0:w.cell? ⟨U,0,none⟩ = some vu
 c1:w.cell? ⟨U,1,none⟩ = some vo
 c2:w.cell? ⟨U,2,none⟩ = some (.string b)
 fz:∀ o,w.frozen? ⟨U,o,none⟩ = false
 hB:B <= U
 ru:za w B vu us
 ro:zAd w B vo os
 nu:vu.ownBlock ≠ some U
 no:vo.ownBlock ≠ some U
 ne:∀ g,vu.ownBlock = some g -> vo.ownBlock ≠ some g
theorem UnM.lt {w:World} {B U:Nat} {vu vo:Value} {us:List ByteArray} {os:List OpR} {b:ByteArray} (h:UnM w B U vu vo us os b):U < w.heap.size:=World.block_lt_of_cell? _ _ h.c0
theorem UnM.below {w w':World} {B U:Nat} {vu vo:Value} {us:List ByteArray} {os:List OpR} {b:ByteArray} (h:UnM w B U vu vo us os b) (hb:Below w.heap.size w w'):UnM w' B U vu vo us os b:=
 ⟨(hb.cell (p:=⟨U,0,none⟩) h.lt).trans h.c0,(hb.cell (p:=⟨U,1,none⟩) h.lt).trans h.c1,(hb.cell (p:=⟨U,2,none⟩) h.lt).trans h.c2,fun o=>(hb.frozen (p:=⟨U,o,none⟩) h.lt).trans (h.fz o),h.hB,h.ru.below hb,h.ro.below hb,h.nu,h.no,h.ne⟩
theorem zD8 {w w':World} {row:Option Nat} (h:w.grownBy w' row) {b:Nat} (hb:b < w.heap.size) (hne:row ≠ some b) (o:Nat):w'.frozen? ⟨b,o,none⟩ = w.frozen? ⟨b,o,none⟩:=
 World.frozen?_of_block (w:=w) (h.block b hb (fun e=>hne e.symm))
theorem zm (W:World) (p o:Nat) (V:Value):W.grownBy (W.setCell ⟨p,o,none⟩ V) (some p):=
 ⟨rfl,rfl,rfl,by simp [World.setCell],fun i _ hi=>Below.heap_setCell _ _ _ _ (fun e=>hi (by rw [e]))⟩
theorem UnM.keep {w w1 w4:World} {B U:Nat} {vu vo v:Value} {us:List ByteArray} {os:List OpR} {b:ByteArray} (h:UnM w B U vu vo us os b) (hb:Below w.heap.size w w1) (hv:v = vu \/ v = vo) (hg:w1.grownBy w4 v.ownBlock):(∀ o,w4.cell? ⟨U,o,none⟩ = w.cell? ⟨U,o,none⟩) /\ (∀ o,w4.frozen? ⟨U,o,none⟩ = false):=by
 have hl:=h.lt
 have hne:v.ownBlock ≠ some U:=by
  rcases hv with rfl | rfl
  ·exact h.nu
  ·exact h.no
 have hl1:U < w1.heap.size:=Nat.lt_of_lt_of_le hl hb.size
 exact ⟨fun o=>(zE hg hl1 hne o).trans (hb.cell (p:=⟨U,o,none⟩) hl),fun o=>(zD8 hg hl1 hne o).trans ((hb.frozen (p:=⟨U,o,none⟩) hl).trans (h.fz o))⟩
theorem zMO {v4 v:Value} {U H:Nat} (hat:v4.ownBlock = v.ownBlock \/ ∃ k,v4.ownBlock = some k /\ H <= k) (hv:v.ownBlock ≠ some U) (hU:U < H):v4.ownBlock ≠ some U:=fun e=>by
 rcases hat with hat | ⟨k,hk,hk2⟩
 ·exact hv (hat.symm.trans e)
 ·rw [hk] at e; injection e with e; omega
theorem UnM.putU {w w1 w4:World} {B U:Nat} {vu vo v4:Value} {us us':List ByteArray} {os:List OpR} {b:ByteArray} (h:UnM w B U vu vo us os b) (hb:Below w.heap.size w w1) (hg:w1.grownBy w4 vu.ownBlock) (hr:za w4 B v4 us') (hat:v4.ownBlock = vu.ownBlock \/ ∃ k,v4.ownBlock = some k /\ w1.heap.size <= k) :
  UnM (w4.setCell ⟨U,0,none⟩ v4) B U v4 vo us' os b /\ Below B w (w4.setCell ⟨U,0,none⟩ v4):=by
 obtain ⟨kc,kf⟩:=h.keep hb (Or.inl rfl) hg
 have hl:=h.lt
 have hz:=hb.size
 have hBU:=h.hB
 have hru:=fun k e=>(h.ru.lt k e)
 have hro:=fun k e=>(h.ro.lt k e)
 have h4:=zMO hat h.nu (by omega)
 have hro4:zAd w4 B vo os:=(h.ro.below hb).grown hg (fun k e1 e2=>h.ne k e2 e1)
 have hb4:Below B w w4:=(hb.mono (by omega)).grown hg (by omega) (fun k e=>(hru k e).1)
 refine ⟨⟨World.cell?_setCell_same _ _ _ ((kc 0).trans h.c0),(World.cell?_setCell_other _ _ _ _ (by simp)).trans ((kc 1).trans h.c1),(World.cell?_setCell_other _ _ _ _ (by simp)).trans ((kc 2).trans h.c2),fun o=>(World.frozen?_setCell _ _ _ _).trans (kf o),hBU,hr.grown (zm _ U 0 _) (fun k e x=>h4 (e.trans x.symm)),hro4.grown (zm _ U 0 _) (fun k e x=>h.no (e.trans x.symm)),h4,h.no,fun g e e2=>?_⟩,hb4.setCell (p:=⟨U,0,none⟩) hBU _⟩
 rcases hat with hat | ⟨k,hk,hk2⟩
 ·exact h.ne g (hat.symm.trans e) e2
 ·rw [hk] at e; injection e with e; have:=(hro g e2).2; omega
theorem UnM.putO {w w1 w4:World} {B U:Nat} {vu vo v4:Value} {us:List ByteArray} {os os':List OpR} {b:ByteArray} (h:UnM w B U vu vo us os b) (hb:Below w.heap.size w w1) (hg:w1.grownBy w4 vo.ownBlock) (hr:zAd w4 B v4 os') (hat:v4.ownBlock = vo.ownBlock \/ ∃ k,v4.ownBlock = some k /\ w1.heap.size <= k) :
  UnM (w4.setCell ⟨U,1,none⟩ v4) B U vu v4 us os' b /\ Below B w (w4.setCell ⟨U,1,none⟩ v4):=by
 obtain ⟨kc,kf⟩:=h.keep hb (Or.inr rfl) hg
 have hl:=h.lt
 have hz:=hb.size
 have hBU:=h.hB
 have hru:=fun k e=>(h.ru.lt k e)
 have hro:=fun k e=>(h.ro.lt k e)
 have h4:=zMO hat h.no (by omega)
 have hru4:za w4 B vu us:=(h.ru.below hb).grown hg (fun k e1 e2=>h.ne k e1 e2)
 have hb4:Below B w w4:=(hb.mono (by omega)).grown hg (by omega) (fun k e=>(hro k e).1)
 refine ⟨⟨(World.cell?_setCell_other _ _ _ _ (by simp)).trans ((kc 0).trans h.c0),World.cell?_setCell_same _ _ _ ((kc 1).trans h.c1),(World.cell?_setCell_other _ _ _ _ (by simp)).trans ((kc 2).trans h.c2),fun o=>(World.frozen?_setCell _ _ _ _).trans (kf o),hBU,hru4.grown (zm _ U 1 _) (fun k e x=>h.nu (e.trans x.symm)),hr.grown (zm _ U 1 _) (fun k e x=>h4 (e.trans x.symm)),h.nu,h4,fun g e e2=>?_⟩,hb4.setCell (p:=⟨U,1,none⟩) hBU _⟩
 rcases hat with hat | ⟨k,hk,hk2⟩
 ·exact h.ne g e (hat.symm.trans e2)
 ·rw [hk] at e2; injection e2 with e2; have:=(hru g e).2; omega
def zJv (w:World) (ws:List ByteArray) (e:Ending) (w':World):Prop:=
 ∃ (o:OpR) (v:Bool),e = .returned (.tuple #[.agg #[.string o.s,.int .i64 o.k,.int .i64 o.l,.int .i64 o.sd],.bool v]) /\ ((v = true /\ OpW ws o) \/ (v = false /\ ∀ o',¬ OpW ws o')) /\ Below w.heap.size w w'
theorem zKt (F:FuncId) (v:Value) (ws:List ByteArray) (w:World) (hs:zz w v ws) (hz:∀ x ∈ ws,x.size <= maxLen)
  (few:∀ (a:Option Addr) (c n:Nat) (w:World),n < 3 -> Calls Tryz.prog F #[.slice a n c] w fun e w'=>(∃ o:OpR,e = .returned (.tuple #[.agg #[.string o.s,.int .i64 o.k,.int .i64 o.l,.int .i64 o.sd],.bool false])) /\ Below w.heap.size w w')
  (core:∀ (g c n:Nat) (k t l sd:ByteArray) (w:World),3 <= n -> l.size <= maxLen -> w.cell? ⟨g,0,none⟩ = some (.string k) -> w.cell? ⟨g,1,none⟩ = some (.string t) -> w.cell? ⟨g,2,none⟩ = some (.string l) -> (4 <= n -> w.cell? ⟨g,3,none⟩ = some (.string sd)) -> Calls Tryz.prog F #[.slice (some ⟨g,0,none⟩) n c] w (zHv w n k t l sd)) :
  Calls Tryz.prog F #[v] w (zJv w ws):=by
 by_cases h3:ws.length < 3
 ·obtain ⟨a,c,rfl,_⟩:=hs
  refine (few a c ws.length w h3).mono ?_
  rintro e w' ⟨⟨o,rfl⟩,hb⟩
  exact ⟨o,false,rfl,Or.inr ⟨rfl,fun o' ho=>by have:=ho.len; omega⟩,hb⟩
 ·obtain ⟨g,c,rfl,hg,hc⟩:=hs.lt (by omega)
  obtain ⟨k,t,l,r,rfl⟩:=zIy (by omega:3 <= ws.length)
  obtain ⟨sd,hsd⟩:∃ sd,r = [] \/ ∃ r',r = sd :: r':=by
   cases r with
   | nil=>exact ⟨ByteArray.empty,Or.inl rfl⟩
   | cons x r'=>exact ⟨x,Or.inr ⟨r',rfl⟩⟩
  have hlen:(k :: t :: l :: r).length = r.length + 3:=rfl
  obtain ⟨a1,a2⟩:=zMN (k:=k) (t:=t) (l:=l) hsd
  rw [hlen]
  refine (core g c (r.length + 3) k t l sd w (by omega) (hz l (by simp)) (hc 0 k rfl) (hc 1 t rfl) (hc 2 l rfl) (fun h4=>hc 3 sd ?_)).mono ?_
  ·rcases hsd with rfl | ⟨r',rfl⟩
   ·simp at h4
   ·rfl
  ·rintro e w' ⟨o,v,rfl,h,hb⟩
   refine ⟨o,v,rfl,?_,hb⟩
   rcases h with ⟨rfl,h⟩ | ⟨rfl,h⟩
   ·exact Or.inl ⟨rfl,a1 o h⟩
   ·exact Or.inr ⟨rfl,a2 h⟩
def zBl (w:World) (b n:Nat) (f:Nat -> Bool):Prop:=b < w.heap.size /\ ∀ j,j < n -> w.cell? ⟨b,j,none⟩ = some (.bool (f j)) /\ w.frozen? ⟨b,j,none⟩ = false
theorem zBl.congr {w:World} {b n:Nat} {f g:Nat -> Bool} (h:zBl w b n f) (he:∀ j,j < n -> f j = g j):zBl w b n g:=⟨h.1,fun j hj=>by rw [<- he j hj]; exact h.2 j hj⟩
theorem zBl.grown {w w':World} {b n:Nat} {f:Nat -> Bool} {row:Option Nat} (h:zBl w b n f) (hg:w.grownBy w' row) (hne:row ≠ some b):zBl w' b n f:=
 ⟨Nat.lt_of_lt_of_le h.1 hg.size,fun j hj=>⟨(zE hg h.1 hne j).trans (h.2 j hj).1,(zD8 hg h.1 hne j).trans (h.2 j hj).2⟩⟩
theorem zBl.below {w w':World} {b n:Nat} {f:Nat -> Bool} (h:zBl w b n f) (hb:Below w.heap.size w w'):zBl w' b n f:=h.grown (row:=none) (zO hb none) (by simp)
theorem zBl.set {w:World} {b n k:Nat} {f:Nat -> Bool} (h:zBl w b n f) (hk:k < n) (v:Bool):zBl (w.setCell ⟨b,k,none⟩ (.bool v)) b n (fun j=>if j = k then v else f j):=by
 refine ⟨by simpa [World.setCell] using h.1,fun j hj=>⟨?_,(World.frozen?_setCell _ _ _ _).trans (h.2 j hj).2⟩⟩
 by_cases e:j = k
 ·subst e
  simp only [if_true]
  exact World.cell?_setCell_same _ _ _ (h.2 j hj).1
 ·simp only [e,if_false]
  rw [World.cell?_setCell_other _ _ _ _ (by simp; first | done | omega)]
  exact (h.2 j hj).1
theorem zHE (w:World) (n:Nat):zBl (w.alloc (.cells (madeCells #[.bool false] n) 4)) w.heap.size n (fun _=>false):=by
 refine ⟨by simp,fun j hj=>?_⟩
 have hs:(madeCells #[.bool false] n).size = n:=by rw [size_madeCells]; first | done | simp
 have h:=World.rangeAt_of_block (w:=w.alloc (.cells (madeCells #[.bool false] n) 4)) (b:=w.heap.size) (heap_alloc_new w _) 0 n
 have h1:=h j (.bool false) (by
  simp only [madeCells]
  simp [hj,Nat.mod_one])
 exact ⟨by simpa using h1,by simp [go_sem]⟩
def atR (rs:List Nat) (i:Nat):Nat:=rs.getD i 0
def zAh (n:Nat) (rs:List Nat):List Value:=rs.map fun r=>.slice (some ⟨r,0,none⟩) n n
theorem zGB (n:Nat) (a b:List Nat):zAh n (a ++ b) = zAh n a ++ zAh n b:=by simp [zAh]
theorem zLN {n:Nat} {rs:List Nat} {i:Nat} (h:i < rs.length):(zAh n rs)[i]? = some (.slice (some ⟨atR rs i,0,none⟩) n n):=by
 simp [zAh,atR,List.getD_eq_getElem?_getD,List.getElem?_eq_getElem h]
theorem zI0 (n:Nat) (rs:List Nat):∀ u ∈ zAh n rs,u.oneCell' = true:=by
 intro u hu
 simp only [zAh,List.mem_map] at hu
 obtain ⟨r,_,rfl⟩:=hu
 rfl
theorem zO0:(Tryz.prog.info? 91).map (fun i=>(i.zero,i.size,i.bytes)) = some (some (.slice none 0 0),1,24):=by kernel_rfl
theorem zJw (w:World) (v:Value):∀ j u,([v]:List Value)[j]? = some u -> (w.alloc (.cells #[v] 91)).cell? ((⟨w.heap.size,0,none⟩:Addr).add j) = some u:=by
 intro j u hj
 rw [Addr.add_mid]
 have:=World.rangeAt_of_block (w:=w.alloc (.cells #[v] 91)) (b:=w.heap.size) (heap_alloc_new w _) 0 1
 exact this j u (by simpa using hj)
def zCc (w:World) (B n:Nat) (v:Value) (rs:List Nat):Prop:=w.ownsRow B 91 1 v rs.length (zAh n rs)
theorem zCc.grown {w w':World} {B n:Nat} {u:Value} {rs:List Nat} {row:Option Nat} (h:zCc w B n u rs) (hg:w.grownBy w' row) (hne:∀ k,u.ownBlock = some k -> row ≠ some k):zCc w' B n u rs:=
 World.ownsRow.kept h hg (by
  cases e:u.ownBlock with
  | none=>exact Or.inl rfl
  | some k=>exact Or.inr (fun x=>hne k e x.symm))
theorem zCc.below {w w':World} {B n:Nat} {u:Value} {rs:List Nat} (h:zCc w B n u rs) (hb:Below w.heap.size w w'):zCc w' B n u rs:=h.grown (row:=none) (zO hb none) (fun k _ e=>by cases e)
theorem zCc.lt {w:World} {B n:Nat} {u:Value} {rs:List Nat} (h:zCc w B n u rs):∀ g,u.ownBlock = some g -> B <= g /\ g < w.heap.size:=fun g hg=>World.ownsRow.lt h g hg
theorem zCc.cell {w:World} {B n g c:Nat} {rs:List Nat} (h:zCc w B n (.slice (some ⟨g,0,none⟩) rs.length c) rs) {i:Nat} (hi:i < rs.length):w.cell? ⟨g,i,none⟩ = some (.slice (some ⟨atR rs i,0,none⟩) n n):=by
 rw [World.ownsRow.cellAt h i (by omega)]
 exact zLN hi
def zBN (w:World) (B n:Nat) (v:Value) (rs:List Nat) (M:Nat -> Nat -> Bool):Prop:=(∀ i,i < rs.length -> zBl w (atR rs i) n (M i)) /\ (∀ i j,i < rs.length -> j < rs.length -> atR rs i = atR rs j -> i = j) /\ (∀ i,i < rs.length -> v.ownBlock ≠ some (atR rs i) /\ B <= atR rs i)
theorem zB6 {rs:List Nat} {x i:Nat} (h:i < rs.length):atR (rs ++ [x]) i = atR rs i:=by
 unfold atR; rw [List.getD_eq_getElem?_getD,List.getD_eq_getElem?_getD,List.getElem?_append_left h]
theorem zD9 {rs:List Nat} {x:Nat}:atR (rs ++ [x]) rs.length = x:=by
 unfold atR; rw [List.getD_eq_getElem?_getD,List.getElem?_append_right (Nat.le_refl _)]; simp
theorem zBN.congr {w:World} {B n:Nat} {v:Value} {rs:List Nat} {M M':Nat -> Nat -> Bool} (h:zBN w B n v rs M) (he:∀ i j,i < rs.length -> j < n -> M i j = M' i j):zBN w B n v rs M':=
 ⟨fun i hi=>(h.1 i hi).congr (fun j hj=>he i j hi hj),h.2.1,h.2.2⟩
theorem zBN.push {w w1 w4:World} {B n b:Nat} {v v4:Value} {rs:List Nat} {M:Nat -> Nat -> Bool} {f:Nat -> Bool} (h:zBN w B n v rs M) (hb:Below w.heap.size w w1) (hB:B <= w.heap.size) (hv:∀ g,v.ownBlock = some g -> g < w.heap.size) (hr:zBl w1 b n f) (hwb:w.heap.size <= b) (hg:w1.grownBy w4 v.ownBlock) (hat:v4.ownBlock = v.ownBlock \/ ∃ k,v4.ownBlock = some k /\ w1.heap.size <= k) :
  zBN w4 B n v4 (rs ++ [b]) (fun i=>if i = rs.length then f else M i):=by
 have hz:=hb.size
 have hlt:∀ i,i < rs.length -> atR rs i < w.heap.size:=fun i hi=>(h.1 i hi).1
 have hne:∀ g,g < w1.heap.size -> v.ownBlock ≠ some g -> v4.ownBlock ≠ some g:=fun g h1 h2 e=>by
  rcases hat with h | ⟨k,h,hk⟩
  ·exact h2 (h.symm.trans e)
  ·rw [h] at e; injection e with e; omega
 have hvb:v.ownBlock ≠ some b:=fun e=>by have:=hv b e; omega
 refine ⟨fun i hi=>?_,fun i j hi hj e=>?_,fun i hi=>?_⟩
 ·by_cases e:i < rs.length
  ·rw [zB6 e]
   simp only [show i ≠ rs.length by omega,if_false]
   exact ((h.1 i e).below hb).grown hg (h.2.2 i e).1
  ·have e1:i = rs.length:=by simp at hi; omega
   subst e1
   rw [zD9]
   simp only [if_true]
   exact hr.grown hg hvb
 ·simp only [List.length_append,List.length_cons,List.length_nil] at hi hj
  by_cases e1:i < rs.length <;> by_cases e2:j < rs.length
  ·rw [zB6 e1,zB6 e2] at e; exact h.2.1 i j e1 e2 e
  ·have e3:j = rs.length:=by omega
   subst e3
   rw [zB6 e1,zD9] at e
   have:=hlt i e1
   omega
  ·have e3:i = rs.length:=by omega
   subst e3
   rw [zB6 e2,zD9] at e
   have:=hlt j e2
   omega
  ·omega
 ·by_cases e:i < rs.length
  ·rw [zB6 e]
   exact ⟨hne _ (by have:=hlt i e; omega) (h.2.2 i e).1,(h.2.2 i e).2⟩
  ·have e1:i = rs.length:=by simp at hi; omega
   subst e1
   rw [zD9]
   exact ⟨hne _ hr.1 hvb,by omega⟩
theorem zBN.set {w:World} {B n:Nat} {v:Value} {rs:List Nat} {M:Nat -> Nat -> Bool} (h:zBN w B n v rs M) {i j:Nat} (hi:i < rs.length) (hj:j < n):zBN (w.setCell ⟨atR rs i,j,none⟩ (.bool true)) B n v rs (fun i' j'=>if i' = i /\ j' = j then true else M i' j'):=by
 refine ⟨fun i' hi'=>?_,h.2.1,h.2.2⟩
 by_cases e:i' = i
 ·subst e
  refine ((h.1 i' hi').set hj true).congr (fun j' _=>?_)
  by_cases e2:j' = j <;> simp [e2]
 ·refine ((h.1 i' hi').grown (zm w (atR rs i) j _) (fun x=>e (h.2.1 i' i hi' hi (by injection x with x; exact x.symm)))).congr (fun j' _=>?_)
  simp [e]
def prt (M:Nat -> Nat -> Bool) (m i j:Nat):Nat -> Nat -> Bool:=fun i' j'=>M i' j' || (decide (i' < i \/ (i' = i /\ j' < j)) && (M i' m && M m j'))
theorem zO1 (M:Nat -> Nat -> Bool) (m i j i':Nat):prt M m i j i' m = M i' m:=by
 unfold prt
 cases h:M i' m <;> simp
theorem zO2 (M:Nat -> Nat -> Bool) (m i j j':Nat):prt M m i j m j' = M m j':=by
 unfold prt
 cases h:M m j' <;> simp
theorem zLO (M:Nat -> Nat -> Bool) (m:Nat) (i' j':Nat):prt M m 0 0 i' j' = M i' j':=by simp [prt]
theorem zNt (M:Nat -> Nat -> Bool) (m i n:Nat) (i' j':Nat) (hj:j' < n):prt M m i n i' j' = prt M m (i + 1) 0 i' j':=by
 unfold prt
 have:(i' < i \/ (i' = i /\ j' < n)) ↔ (i' < i + 1 \/ (i' = i + 1 /\ j' < 0)):=by omega
 simp only [this]
theorem zNu (M:Nat -> Nat -> Bool) (m n:Nat) (i' j':Nat) (hi:i' < n):prt M m n 0 i' j' = wr1 M m i' j':=by
 unfold prt wr1
 simp [hi]
theorem zNv (M:Nat -> Nat -> Bool) (m i j:Nat) (h1:M i m = true) (h2:M m j = true) (i' j':Nat):(if i' = i /\ j' = j then true else prt M m i j i' j') = prt M m i (j + 1) i' j':=by
 unfold prt
 by_cases e:i' = i /\ j' = j
 ·obtain ⟨rfl,rfl⟩:=e
  simp [h1,h2]
 ·rw [if_neg e]
  have:(i' < i \/ (i' = i /\ j' < j)) ↔ (i' < i \/ (i' = i /\ j' < j + 1)):=by omega
  simp only [this]
theorem zMP (M:Nat -> Nat -> Bool) (m i j:Nat) (h:M i m = false \/ M m j = false) (i' j':Nat):prt M m i j i' j' = prt M m i (j + 1) i' j':=by
 unfold prt
 by_cases e:i' = i /\ j' = j
 ·obtain ⟨rfl,rfl⟩:=e
  rcases h with h | h <;> simp [h]
 ·have:(i' < i \/ (i' = i /\ j' < j)) ↔ (i' < i \/ (i' = i /\ j' < j + 1)):=by omega
  simp only [this]
theorem za.base {w:World} {B B':Nat} {v:Value} {ws:List ByteArray} (h:za w B v ws) (hb:B' <= B):za w B' v ws:=by
 obtain ⟨h1,h2 | ⟨g,cap,cur,hv,hg,h3⟩⟩:=h
 ·exact ⟨h1,Or.inl h2⟩
 ·exact ⟨h1,Or.inr ⟨g,cap,cur,hv,Nat.le_trans hb hg,h3⟩⟩
theorem zAd.base {w:World} {B B':Nat} {v:Value} {ws:List OpR} (h:zAd w B v ws) (hb:B' <= B):zAd w B' v ws:=by
 obtain ⟨h1,h2 | ⟨g,cap,cur,hv,hg,h3⟩⟩:=h
 ·exact ⟨h1,Or.inl h2⟩
 ·exact ⟨h1,Or.inr ⟨g,cap,cur,hv,Nat.le_trans hb hg,h3⟩⟩
def zEA (w:World) (s:ByteArray) (e:Ending) (w':World):Prop:=
 ∃ (vu vo:Value) (us:List ByteArray) (os:List OpR) (b:ByteArray) (c l:Int),e = .returned (.tuple #[.agg #[vu,vo,.string b],.int .i64 c,.int .i64 l]) /\ zn s us os b c l /\
  za w' w.heap.size vu us /\ zAd w' w.heap.size vo os /\ (∀ g,vu.ownBlock = some g -> vo.ownBlock ≠ some g) /\ us.length <= 20001 /\ os.length <= 20001 /\ Below w.heap.size w w'
theorem Zx {w w':World} {s:ByteArray} {c l:Int} (h:zn s [] [] ByteArray.empty c l) (hb:Below w.heap.size w w') :
  zEA w s (.returned (.tuple #[.agg #[.slice none 0 0,.slice none 0 0,.string ⟨#[]⟩],.int .i64 c,.int .i64 l])) w':=
 ⟨.slice none 0 0,.slice none 0 0,[],[],ByteArray.empty,c,l,rfl,h,World.ownsRow_nil _ _ _ _,World.ownsRow_nil _ _ _ _,(fun g e=>by cases e),by simp,by simp,hb⟩
def zCw (w:World) (H:Nat):Prop:=w.cell? ⟨H,0,none⟩ = some (.slice none 0 0) /\ w.cell? ⟨H,1,none⟩ = some (.slice none 0 0) /\ w.cell? ⟨H,2,none⟩ = some (.string ⟨#[]⟩) /\ (∀ o,w.frozen? ⟨H,o,none⟩ = false)
theorem zCw.below {w w':World} {H B:Nat} (h:zCw w H) (hb:Below B w w') (hB:H < B):zCw w' H:=by
 obtain ⟨h0,h1,h2,h3⟩:=h
 exact ⟨(hb.cell (p:=⟨H,0,none⟩) hB).trans h0,(hb.cell (p:=⟨H,1,none⟩) hB).trans h1,(hb.cell (p:=⟨H,2,none⟩) hB).trans h2,fun o=>(hb.frozen (p:=⟨H,o,none⟩) hB).trans (h3 o)⟩
theorem zEB {w w3:World} {s:ByteArray} {B U:Nat} {vu vo:Value} {us:List ByteArray} {os:List OpR} {b b':ByteArray} (hU:w.heap.size < B) (h:UnM w3 B U vu vo us os b) (hb:Below w.heap.size w w3) (hi:zn s us os b' 0 0) (h1:us.length <= 20001) (h2:os.length <= 20001) :
  zEA w s (.returned (.tuple #[.agg #[vu,vo,.string b'],.int .i64 0,.int .i64 0])) ((w3.setCell ⟨U,2,none⟩ (.string b')).setCells w.heap.size 0 [vu,vo,.string b']) /\
  zEA w s (.returned (.tuple #[.agg #[vu,vo,.string b'],.int .i64 0,.int .i64 0])) (w3.setCells w.heap.size 0 [vu,vo,.string b']):=by
 have hk:=fun W=>ZE (zAw (g:=w.heap.size) [vu,vo,.string b'] 0 W)
 have hBU:=h.hB
 have nu:∀ k,vu.ownBlock = some k -> some w.heap.size ≠ some k:=fun k e x=>by injection x with x; have:=(h.ru.lt k e).1; omega
 have no:∀ k,vo.ownBlock = some k -> some w.heap.size ≠ some k:=fun k e x=>by injection x with x; have:=(h.ro.lt k e).1; omega
 have nu2:∀ k,vu.ownBlock = some k -> some U ≠ some k:=fun k e x=>h.nu (e.trans x.symm)
 have no2:∀ k,vo.ownBlock = some k -> some U ≠ some k:=fun k e x=>h.no (e.trans x.symm)
 constructor
 ·exact ⟨vu,vo,us,os,b',0,0,rfl,hi,((h.ru.grown (zm _ U 2 _) nu2).grown (hk _) nu).base (by omega),((h.ro.grown (zm _ U 2 _) no2).grown (hk _) no).base (by omega),h.ne,h1,h2,zJ (Nat.le_refl _) _ 0 _ (hb.setCell (p:=⟨U,2,none⟩) (by show w.heap.size <= U; omega) _)⟩
 ·exact ⟨vu,vo,us,os,b',0,0,rfl,hi,(h.ru.grown (hk _) nu).base (by omega),(h.ro.grown (hk _) no).base (by omega),h.ne,h1,h2,zJ (Nat.le_refl _) _ 0 _ hb⟩
theorem zCx {l x:ByteArray} (h:x ∈ wds l):x.size <= l.size:=by
 unfold wds at h
 obtain ⟨p,_,rfl⟩:=List.mem_map.1 h
 rw [ZO]
 omega
def zCS (s:ByteArray) (ls:List (Nat × Nat)) (n:Nat) (us:List ByteArray) (os:List OpR):Prop:=∀ u o b c l,UnF s ls n us os u o b c l -> zn s u o b c l
theorem zCS.start {s:ByteArray} (hs:s.size <= 20000):zCS s (pcs 10 s 0) 1 [] []:=fun u o b c l h=>Or.inr ⟨hs,h⟩
theorem zCS.begin {s:ByteArray} {p:Nat × Nat} {r:List (Nat × Nat)} {n:Nat} {us:List ByteArray} {os:List OpR} (h:zCS s (p :: r) n us os) (hw:wds (s.extract p.1 p.2) = [zh]):zn s us os (zAZ s p.2) 0 0:=
 h _ _ _ _ _ (Or.inl ⟨hw,rfl,rfl,rfl,rfl,rfl⟩)
theorem zCS.bad {s:ByteArray} {p:Nat × Nat} {r:List (Nat × Nat)} {n:Nat} {us:List ByteArray} {os:List OpR} (h:zCS s (p :: r) n us os) (hw:wds (s.extract p.1 p.2) ≠ [zh]) (hl:∀ us' os',¬ Zv (wds (s.extract p.1 p.2)) us os us' os'):zn s [] [] ByteArray.empty 2 (n:Int):=
 h _ _ _ _ _ (Or.inr ⟨hw,Or.inr ⟨hl,rfl,rfl,rfl,rfl,rfl⟩⟩)
theorem zCS.next {s:ByteArray} {p:Nat × Nat} {r:List (Nat × Nat)} {n:Nat} {us us':List ByteArray} {os os':List OpR} (h:zCS s (p :: r) n us os) (hw:wds (s.extract p.1 p.2) ≠ [zh]) (hl:Zv (wds (s.extract p.1 p.2)) us os us' os'):zCS s r (n + 1) us' os':=
 fun u o b c l hu=>h _ _ _ _ _ (Or.inr ⟨hw,Or.inl ⟨us',os',hl,hu⟩⟩)
theorem zCS.fin {s:ByteArray} {n:Nat} {us:List ByteArray} {os:List OpR} (h:zCS s [] n us os):zn s [] [] ByteArray.empty 3 0:=h _ _ _ _ _ ⟨rfl,rfl,rfl,rfl,rfl⟩
def ZF (w:World) (v:Value) (os:List OpR):Prop:=∃ a c,v = .slice a os.length c /\ ((os.length = 0 /\ a = none /\ c = 0) \/ ∃ g,a = some ⟨g,0,none⟩ /\ g < w.heap.size /\ Ops w g 0 os)
theorem zAd.ops {w:World} {B:Nat} {v:Value} {os:List OpR} (h:zAd w B v os):ZF w v os:=by
 have h':=h
 obtain ⟨_,⟨h1,h2⟩ | ⟨g,cap,cur,h1,_⟩⟩:=h'
 ·exact ⟨none,0,by rw [h1,h2],Or.inl ⟨h2,rfl,rfl⟩⟩
 ·subst h1
  exact ⟨_,cap,rfl,Or.inr ⟨g,rfl,(h.lt g rfl).2,(zBJ h).2.ops⟩⟩
theorem ZF.grown {w w':World} {v:Value} {os:List OpR} {row:Option Nat} (h:ZF w v os) (hg:w.grownBy w' row) (hne:∀ g,v.ownBlock = some g -> row ≠ some g):ZF w' v os:=by
 obtain ⟨a,c,rfl,h⟩:=h
 refine ⟨a,c,rfl,h.imp id ?_⟩
 rintro ⟨g,rfl,h1,h2⟩
 refine ⟨g,rfl,Nat.lt_of_lt_of_le h1 hg.size,fun i hi=>?_⟩
 obtain ⟨q0,q1,q2,q3⟩:=h2 i hi
 have e:=fun o=>zE hg h1 (hne g rfl) o
 exact ⟨(e _).trans q0,(e _).trans q1,(e _).trans q2,(e _).trans q3⟩
structure UvR where
 vu:Value
 vo:Value
 b:ByteArray
def atV (vs:List UvR) (i:Nat):UvR:=vs.getD i ⟨.slice none 0 0,.slice none 0 0,ByteArray.empty⟩
def zAX (zs:List UvR):List Value:=zs.flatMap fun x=>[x.vu,x.vo,.string x.b]
theorem zGf (xs ys:List UvR):zAX (xs ++ ys) = zAX xs ++ zAX ys:=by simp [zAX]
theorem zHF:∀ (zs:List UvR) (i:Nat),i < zs.length -> (zAX zs)[i * 3]? = some (atV zs i).vu /\ (zAX zs)[i * 3 + 1]? = some (atV zs i).vo /\ (zAX zs)[i * 3 + 2]? = some (.string (atV zs i).b)
 | [],i,h=>absurd h (Nat.not_lt_zero i)
 | o :: r,0,_=>⟨rfl,rfl,rfl⟩
 | o :: r,i + 1,h=>by
  have ih:=zHF r i (by simpa using h)
  have e:∀ j,(zAX (o :: r))[(i + 1) * 3 + j]? = (zAX r)[i * 3 + j]?:=fun j=>by
   have:(i + 1) * 3 + j = (i * 3 + j) + 3:=by omega
   rw [this]
   rfl
  exact ⟨(e 0).trans ih.1,(e 1).trans ih.2.1,(e 2).trans ih.2.2⟩
theorem zO3:(Tryz.prog.info? 27).map (fun i=>(i.zero,i.size,i.bytes)) = some (some (.agg #[.slice none 0 0,.slice none 0 0,.string ⟨#[]⟩]),3,64):=by kernel_rfl
theorem zLP (w:World) (x:UvR):∀ j u,(zAX [x])[j]? = some u -> (w.alloc (.cells #[x.vu,x.vo,.string x.b] 27)).cell? ((⟨w.heap.size,0,none⟩:Addr).add j) = some u:=by
 intro j u hj
 rw [Addr.add_mid]
 have:=World.rangeAt_of_block (w:=w.alloc (.cells #[x.vu,x.vo,.string x.b] 27)) (b:=w.heap.size) (heap_alloc_new w _) 0 3
 exact this j u (by simpa [zAX] using hj)
def zCZ (w:World) (B:Nat) (u:Value) (vs:List UvR):Prop:=w.ownsRow B 27 3 u vs.length (zAX vs)
theorem zCZ.below {w w':World} {B:Nat} {u:Value} {us:List UvR} (h:zCZ w B u us) (hb:Below w.heap.size w w'):zCZ w' B u us:=
 World.ownsRow.kept h (zO hb none) (by cases u.ownBlock with
 | none=>exact Or.inl rfl
 | some k=>exact Or.inr (by simp))
theorem zCZ.lt {w:World} {B:Nat} {u:Value} {us:List UvR} (h:zCZ w B u us):∀ g,u.ownBlock = some g -> B <= g /\ g < w.heap.size:=fun g hg=>World.ownsRow.lt h g hg
def zJx (w:World) (g:Nat) (vs:List UvR):Prop:=∀ i,i < vs.length -> w.cell? ⟨g,i * 3,none⟩ = some (atV vs i).vu /\ w.cell? ⟨g,i * 3 + 1,none⟩ = some (atV vs i).vo /\ w.cell? ⟨g,i * 3 + 2,none⟩ = some (.string (atV vs i).b)
theorem zJx.below {w w':World} {g:Nat} {vs:List UvR} {B:Nat} (h:zJx w g vs) (hb:Below B w w') (hB:g < B):zJx w' g vs:=fun i hi=>by
 obtain ⟨h0,h1,h2⟩:=h i hi
 exact ⟨(hb.cell (p:=⟨g,_,none⟩) hB).trans h0,(hb.cell (p:=⟨g,_,none⟩) hB).trans h1,(hb.cell (p:=⟨g,_,none⟩) hB).trans h2⟩
theorem zCZ.ops {w:World} {B g c:Nat} {us:List UvR} (h:zCZ w B (.slice (some ⟨g,0,none⟩) us.length c) us):zJx w g us:=fun i hi=>by
 obtain ⟨c0,c1,c2⟩:=zHF us i hi
 have e:=fun j (hj:j < 3)=>World.ownsRow.cellAt h (i * 3 + j) (by omega)
 exact ⟨by simpa using (e 0 (by omega)).trans c0,by simpa using (e 1 (by omega)).trans c1,by simpa using (e 2 (by omega)).trans c2⟩
theorem ZF.below {w w':World} {v:Value} {os:List OpR} (h:ZF w v os) (hb:Below w.heap.size w w'):ZF w' v os:=
 h.grown (row:=none) (zO hb none) (fun g _ e=>by cases e)
def zBr (w:World) (B:Nat) (vs:List UvR) (U:List UnR):Prop:=vs.length = U.length /\ ∀ i,i < vs.length -> (zz w (atV vs i).vu (atU U i).us /\ ZF w (atV vs i).vo (atU U i).os /\ (atV vs i).b = (atU U i).b) /\ (∀ g,(atV vs i).vu.ownBlock = some g -> g < B) /\ (∀ g,(atV vs i).vo.ownBlock = some g -> g < B)
theorem zBr.belowB {w w':World} {B C:Nat} {vs:List UvR} {U:List UnR} (h:zBr w B vs U) (hb:Below C w w') (hC:B <= C):zBr w' B vs U:=by
 refine ⟨h.1,fun i hi=>?_⟩
 obtain ⟨⟨h1,h2,h3⟩,h4,h5⟩:=h.2 i hi
 refine ⟨⟨?_,?_,h3⟩,h4,h5⟩
 ·obtain ⟨a,c,hv,hx⟩:=h1
  refine ⟨a,c,hv,hx.imp id ?_⟩
  rintro ⟨g,rfl,q1,q2⟩
  have hg:g < B:=h4 g (by rw [hv]; rfl)
  exact ⟨g,rfl,Nat.lt_of_lt_of_le q1 hb.size,fun j x hj=>(hb.cell (p:=⟨g,j,none⟩) (by show g < C; omega)).trans (q2 j x hj)⟩
 ·obtain ⟨a,c,hv,hx⟩:=h2
  refine ⟨a,c,hv,hx.imp id ?_⟩
  rintro ⟨g,rfl,q1,q2⟩
  have hg:g < B:=h5 g (by rw [hv]; rfl)
  exact ⟨g,rfl,Nat.lt_of_lt_of_le q1 hb.size,q2.below hb (by omega)⟩
theorem zBr.mono {w:World} {B B':Nat} {vs:List UvR} {U:List UnR} (h:zBr w B vs U) (hB:B <= B'):zBr w B' vs U:=
 ⟨h.1,fun i hi=>⟨(h.2 i hi).1,fun g e=>Nat.lt_of_lt_of_le ((h.2 i hi).2.1 g e) hB,fun g e=>Nat.lt_of_lt_of_le ((h.2 i hi).2.2 g e) hB⟩⟩
theorem zMQ {vs:List UvR} {x:UvR} {i:Nat} (h:i < vs.length):atV (vs ++ [x]) i = atV vs i:=by
 unfold atV; rw [List.getD_eq_getElem?_getD,List.getD_eq_getElem?_getD,List.getElem?_append_left h]
theorem zMR {vs:List UvR} {x:UvR}:atV (vs ++ [x]) vs.length = x:=by
 unfold atV; rw [List.getD_eq_getElem?_getD,List.getElem?_append_right (Nat.le_refl _)]; simp
theorem zI1 {vs:List UnR} {x:UnR} {i:Nat} (h:i < vs.length):atU (vs ++ [x]) i = atU vs i:=by
 unfold atU; rw [List.getD_eq_getElem?_getD,List.getD_eq_getElem?_getD,List.getElem?_append_left h]
theorem zI2 {vs:List UnR} {x:UnR}:atU (vs ++ [x]) vs.length = x:=by
 unfold atU; rw [List.getD_eq_getElem?_getD,List.getElem?_append_right (Nat.le_refl _)]; simp
def zGC (w:World) (v:Value) (vs:List UvR) (U:List UnR):Prop:=vs.length = U.length /\ ∀ i,i < vs.length -> (zz w (atV vs i).vu (atU U i).us /\ ZF w (atV vs i).vo (atU U i).os /\ (atV vs i).b = (atU U i).b) /\ (∀ g,(atV vs i).vu.ownBlock = some g -> v.ownBlock ≠ some g /\ g < w.heap.size) /\ (∀ g,(atV vs i).vo.ownBlock = some g -> v.ownBlock ≠ some g /\ g < w.heap.size)
theorem zGC.at {w:World} {v:Value} {vs:List UvR} {U:List UnR} (h:zGC w v vs U):zBr w w.heap.size vs U:=
 ⟨h.1,fun i hi=>⟨(h.2 i hi).1,fun g e=>((h.2 i hi).2.1 g e).2,fun g e=>((h.2 i hi).2.2 g e).2⟩⟩
theorem zGC.step {w w1 w4:World} {v v4:Value} {vs:List UvR} {U:List UnR} {x:UvR} {y:UnR} (h:zGC w v vs U) (hb:Below w.heap.size w w1) (hv:∀ g,v.ownBlock = some g -> g < w.heap.size) (h1:zz w1 x.vu y.us) (h2:ZF w1 x.vo y.os) (h3:x.b = y.b) (hu:∀ g,x.vu.ownBlock = some g -> w.heap.size <= g /\ g < w1.heap.size) (ho:∀ g,x.vo.ownBlock = some g -> w.heap.size <= g /\ g < w1.heap.size)
  (hg:w1.grownBy w4 v.ownBlock) (hat:v4.ownBlock = v.ownBlock \/ ∃ k,v4.ownBlock = some k /\ w1.heap.size <= k):zGC w4 v4 (vs ++ [x]) (U ++ [y]):=by
 have hne:∀ g,g < w1.heap.size -> v.ownBlock ≠ some g -> v4.ownBlock ≠ some g:=fun g h1 h2 e=>by
  rcases hat with h | ⟨k,h,hk⟩
  ·exact h2 (h.symm.trans e)
  ·rw [h] at e; injection e with e; omega
 have hz:=hb.size
 have hz4:=hg.size
 have hx:∀ g,w.heap.size <= g -> v.ownBlock ≠ some g:=fun g hg e=>by have:=hv g e; omega
 refine ⟨by simp [h.1],fun i hi=>?_⟩
 by_cases e:i < vs.length
 ·rw [zMQ e,zI1 (by rw [<- h.1]; exact e)]
  obtain ⟨⟨q1,q2,q3⟩,q4,q5⟩:=h.2 i e
  refine ⟨⟨(q1.below hb).grown hg (fun g e=>(q4 g e).1),(q2.below hb).grown hg (fun g e=>(q5 g e).1),q3⟩,fun g e=>⟨hne g (by have:=(q4 g e).2; omega) (q4 g e).1,by have:=(q4 g e).2; omega⟩,fun g e=>⟨hne g (by have:=(q5 g e).2; omega) (q5 g e).1,by have:=(q5 g e).2; omega⟩⟩
 ·have e1:i = vs.length:=by simp at hi; omega
  subst e1
  have e2:atU (U ++ [y]) vs.length = y:=by rw [h.1]; exact zI2
  rw [zMR,e2]
  refine ⟨⟨h1.grown hg (fun g e=>hx g (hu g e).1),h2.grown hg (fun g e=>hx g (ho g e).1),h3⟩,fun g e=>⟨hne g (hu g e).2 (hx g (hu g e).1),by have:=(hu g e).2; omega⟩,fun g e=>⟨hne g (ho g e).2 (hx g (ho g e).1),by have:=(ho g e).2; omega⟩⟩
end Go.Proofs.YtgiemobdmbijiaaGreatDoor
