import Derived.Test.YtfboipappaonhaaGreatM11
namespace Go.Proofs.YtfboipappaonhaaGreat
set_option linter.unusedSimpArgs false
set_option linter.unusedVariables false
set_option maxHeartbeats 16000000
set_option maxRecDepth 100000
open Go.RowKit
structure OvP (N rp TB TR gt gn:Nat):Prop where
 p0:rp < N
 p1:N + 2 <= TB
 p2:N + 2 <= TR
 p3:TB ≠ TR
 p4:N + 2 <= gt
 p5:N + 2 <= gn
 p6:gt ≠ TB
 p7:gt ≠ TR
 p8:gn ≠ TB
 p9:gn ≠ TR
 pa:gt ≠ gn
structure OvS (w W:World) (rp TB TR gt ct gn cn:Nat) (ns:List OpR) (us:List zD):Prop where
 ps:OvP w.heap.size rp TB TR gt gn
 lB:TB < W.heap.size
 lR:TR < W.heap.size
 r0:W.cell? ⟨w.heap.size,0,none⟩ = some (.slice none 0 0)
 f0:W.frozen? ⟨w.heap.size,0,none⟩ = false
 r1:W.cell? ⟨w.heap.size + 1,0,none⟩ = some (.slice none 0 0)
 f1:W.frozen? ⟨w.heap.size + 1,0,none⟩ = false
 t0:W.cell? ⟨TB,0,none⟩ = some (.slice (some ⟨gt,0,none⟩) ns.length ct)
 tf:W.frozen? ⟨TB,0,none⟩ = false
 u0:W.cell? ⟨TR,0,none⟩ = some (.slice (some ⟨gn,0,none⟩) us.length cn)
 uf:W.frozen? ⟨TR,0,none⟩ = false
 ft:zf W gt ns ns.length
 fn:zM W gn us us.length
 kp:zE w W rp
theorem zY.filledT {w w':World} {r g b k:Nat} {xs:List OpR} (h:zY w w' r g) (ho:zf w b xs k) (h1:b ≠ r) (h2:b ≠ g):zf w' b xs k:=by
 obtain ⟨a1,a2,a3⟩:=ho
 have hb:=h.block b a1 h1 h2
 refine ⟨Nat.lt_of_lt_of_le a1 h.size,fun j hj=>?_,fun i hi=>?_⟩
 ·obtain ⟨c1,c2⟩:=a2 j hj
  exact ⟨by rw [World.cell?_of_block (w:=w) (w':=w') (a:=⟨b,0 + j,none⟩) hb]; exact c1,by rw [World.frozen?_of_block (w:=w) (w':=w') (a:=⟨b,0 + j,none⟩) hb]; exact c2⟩
 ·obtain ⟨c0,c1,c2,c3⟩:=a3 i hi
  exact ⟨(World.cell?_of_block (w:=w) hb).trans c0,(World.cell?_of_block (w:=w) hb).trans c1,(World.cell?_of_block (w:=w) hb).trans c2,(World.cell?_of_block (w:=w) hb).trans c3⟩
theorem zY.filledN {w w':World} {r g b k:Nat} {xs:List zD} (h:zY w w' r g) (ho:zM w b xs k) (h1:b ≠ r) (h2:b ≠ g):zM w' b xs k:=by
 obtain ⟨a1,a2,a3⟩:=ho
 have hb:=h.block b a1 h1 h2
 refine ⟨Nat.lt_of_lt_of_le a1 h.size,fun j hj=>?_,fun i hi=>?_⟩
 ·obtain ⟨c1,c2⟩:=a2 j hj
  exact ⟨by rw [World.cell?_of_block (w:=w) (w':=w') (a:=⟨b,0 + j,none⟩) hb]; exact c1,by rw [World.frozen?_of_block (w:=w) (w':=w') (a:=⟨b,0 + j,none⟩) hb]; exact c2⟩
 ·obtain ⟨c0,c1,c2,c3⟩:=a3 i hi
  exact ⟨(World.cell?_of_block (w:=w) hb).trans c0,(World.cell?_of_block (w:=w) hb).trans c1,(World.cell?_of_block (w:=w) hb).trans c2,(World.cell?_of_block (w:=w) hb).trans c3⟩
theorem zY.to1 {w W W':World} {rp g:Nat} (h:zE w W rp) (h':zY W W' rp g) (hg:w.heap.size <= g):zE w W' rp:=
 ⟨h'.os.trans h.os,h'.tape.trans h.tape,h'.output.trans h.output,Nat.le_trans h.size h'.size,fun i hi a=>(h'.block i (Nat.lt_of_lt_of_le hi h.size) a (by omega)).trans (h.block i hi a)⟩
theorem OvS.boxes {w W W':World} {rp TB TR gt ct gn cn g:Nat} {ns:List OpR} {us:List zD} (h:OvS w W rp TB TR gt ct gn cn ns us) (hk:zY W W' rp g) (hg:g = gn \/ g = gt) :
  (W'.cell? ⟨w.heap.size,0,none⟩ = some (.slice none 0 0) /\ W'.frozen? ⟨w.heap.size,0,none⟩ = false) /\ (W'.cell? ⟨w.heap.size + 1,0,none⟩ = some (.slice none 0 0) /\ W'.frozen? ⟨w.heap.size + 1,0,none⟩ = false) /\
   (W'.cell? ⟨TB,0,none⟩ = some (.slice (some ⟨gt,0,none⟩) ns.length ct) /\ W'.frozen? ⟨TB,0,none⟩ = false) /\ (W'.cell? ⟨TR,0,none⟩ = some (.slice (some ⟨gn,0,none⟩) us.length cn) /\ W'.frozen? ⟨TR,0,none⟩ = false):=by
 have l0:w.heap.size < W.heap.size:=block_lt_of_cell h.r0
 have l1:w.heap.size + 1 < W.heap.size:=block_lt_of_cell h.r1
 have lB:=h.lB
 have lR:=h.lR
 obtain ⟨p0,p1,p2,p3,p4,p5,p6,p7,p8,p9,pa⟩:=h.ps
 exact ⟨⟨(hk.cell l0 (by omega) (by omega) 0).trans h.r0,(hk.frozen l0 (by omega) (by omega) 0).trans h.f0⟩,⟨(hk.cell l1 (by omega) (by omega) 0).trans h.r1,(hk.frozen l1 (by omega) (by omega) 0).trans h.f1⟩,⟨(hk.cell lB (by omega) (by omega) 0).trans h.t0,(hk.frozen lB (by omega) (by omega) 0).trans h.tf⟩,⟨(hk.cell lR (by omega) (by omega) 0).trans h.u0,(hk.frozen lR (by omega) (by omega) 0).trans h.uf⟩⟩
theorem OvS.tree {w W W':World} {rp TB TR gt ct gn cn gn' cn':Nat} {ns:List OpR} {us us':List zD} (h:OvS w W rp TB TR gt ct gn cn ns us) (hk:zY W W' rp gn) (hg:gn' = gn \/ W.heap.size <= gn') (hf:zM W' gn' us' us'.length) :
  OvS w (W'.setCell ⟨TR,0,none⟩ (.slice (some ⟨gn',0,none⟩) us'.length cn')) rp TB TR gt ct gn' cn' ns us':=by
 have ps:=h.ps
 have hz:=h.kp.size
 have l0:w.heap.size < W.heap.size:=block_lt_of_cell h.r0
 have l1:w.heap.size + 1 < W.heap.size:=block_lt_of_cell h.r1
 have lt:gt < W.heap.size:=h.ft.1
 have lB:=h.lB
 have lR:=h.lR
 have zz:=hk.size
 obtain ⟨p0,p1,p2,p3,p4,p5,p6,p7,p8,p9,pa⟩:=ps
 have oth:∀ b,b ≠ TR -> ∀ v,(W'.setCell ⟨TR,0,none⟩ v).cell? ⟨b,0,none⟩ = W'.cell? ⟨b,0,none⟩:=fun b hb v=>World.cell?_setCell_other _ _ _ _ (fun e=>hb (by injection e with e; exact e.symm))
 have ofr:∀ b v,(W'.setCell ⟨TR,0,none⟩ v).frozen? ⟨b,0,none⟩ = W'.frozen? ⟨b,0,none⟩:=fun b v=>World.frozen?_setCell _ _ _ _
 have uu:W'.cell? ⟨TR,0,none⟩ = some (.slice (some ⟨gn,0,none⟩) us.length cn):=(hk.cell lR (by omega) (by omega) 0).trans h.u0
 refine ⟨⟨p0,p1,p2,p3,p4,?_,p6,p7,?_,?_,?_⟩,?_,?_,(oth _ (by omega) _).trans ((hk.cell l0 (by omega) (by omega) 0).trans h.r0),(ofr _ _).trans ((hk.frozen l0 (by omega) (by omega) 0).trans h.f0),(oth _ (by omega) _).trans ((hk.cell l1 (by omega) (by omega) 0).trans h.r1),(ofr _ _).trans ((hk.frozen l1 (by omega) (by omega) 0).trans h.f1),(oth _ p3 _).trans ((hk.cell lB (by omega) (by omega) 0).trans h.t0),(ofr _ _).trans ((hk.frozen lB (by omega) (by omega) 0).trans h.tf),World.cell?_setCell_same _ _ _ uu,(ofr _ _).trans ((hk.frozen lR (by omega) (by omega) 0).trans h.uf),?_,hf.setCell TR 0 _ ?_,(zY.to1 h.kp hk (by omega)).setNew _ _ (by omega)⟩
 ·omega
 ·omega
 ·omega
 ·omega
 ·show TB < _; simp [World.setCell]; omega
 ·show TR < _; simp [World.setCell]; omega
 ·exact zf.setCell (hk.filledT h.ft (by omega) pa) _ _ (fun e=>p7 e.symm)
 ·omega
theorem OvS.table {w W W':World} {rp TB TR gt ct gn cn gt' ct':Nat} {ns ns':List OpR} {us:List zD} (h:OvS w W rp TB TR gt ct gn cn ns us) (hk:zY W W' rp gt) (hg:gt' = gt \/ W.heap.size <= gt') (hf:zf W' gt' ns' ns'.length) :
  OvS w (W'.setCell ⟨TB,0,none⟩ (.slice (some ⟨gt',0,none⟩) ns'.length ct')) rp TB TR gt' ct' gn cn ns' us:=by
 have ps:=h.ps
 have hz:=h.kp.size
 have l0:w.heap.size < W.heap.size:=block_lt_of_cell h.r0
 have l1:w.heap.size + 1 < W.heap.size:=block_lt_of_cell h.r1
 have lt:gn < W.heap.size:=h.fn.1
 have lB:=h.lB
 have lR:=h.lR
 have zz:=hk.size
 obtain ⟨p0,p1,p2,p3,p4,p5,p6,p7,p8,p9,pa⟩:=ps
 have oth:∀ b,b ≠ TB -> ∀ v,(W'.setCell ⟨TB,0,none⟩ v).cell? ⟨b,0,none⟩ = W'.cell? ⟨b,0,none⟩:=fun b hb v=>World.cell?_setCell_other _ _ _ _ (fun e=>hb (by injection e with e; exact e.symm))
 have ofr:∀ b v,(W'.setCell ⟨TB,0,none⟩ v).frozen? ⟨b,0,none⟩ = W'.frozen? ⟨b,0,none⟩:=fun b v=>World.frozen?_setCell _ _ _ _
 have uu:W'.cell? ⟨TB,0,none⟩ = some (.slice (some ⟨gt,0,none⟩) ns.length ct):=(hk.cell lB (by omega) (by omega) 0).trans h.t0
 refine ⟨⟨p0,p1,p2,p3,?_,p5,?_,?_,p8,p9,?_⟩,?_,?_,(oth _ (by omega) _).trans ((hk.cell l0 (by omega) (by omega) 0).trans h.r0),(ofr _ _).trans ((hk.frozen l0 (by omega) (by omega) 0).trans h.f0),(oth _ (by omega) _).trans ((hk.cell l1 (by omega) (by omega) 0).trans h.r1),(ofr _ _).trans ((hk.frozen l1 (by omega) (by omega) 0).trans h.f1),World.cell?_setCell_same _ _ _ uu,(ofr _ _).trans ((hk.frozen lB (by omega) (by omega) 0).trans h.tf),(oth _ (fun e=>p3 e.symm) _).trans ((hk.cell lR (by omega) (by omega) 0).trans h.u0),(ofr _ _).trans ((hk.frozen lR (by omega) (by omega) 0).trans h.uf),zf.setCell hf _ _ ?_,?_,(zY.to1 h.kp hk (by omega)).setNew _ _ (by omega)⟩
 ·omega
 ·omega
 ·omega
 ·omega
 ·show TB < _; simp [World.setCell]; omega
 ·show TR < _; simp [World.setCell]; omega
 ·show TB ≠ gt'; omega
 ·exact (hk.filledN h.fn (by omega) (fun e=>pa e.symm)).setCell TB 0 _ (fun e=>p8 e.symm)
theorem OvS.below {w W W':World} {rp TB TR gt ct gn cn:Nat} {ns:List OpR} {us:List zD} (h:OvS w W rp TB TR gt ct gn cn ns us) (hb:Below W.heap.size W W'):OvS w W' rp TB TR gt ct gn cn ns us:=
 ⟨h.ps,Nat.lt_of_lt_of_le h.lB hb.size,Nat.lt_of_lt_of_le h.lR hb.size,(hb.cell (p:=⟨_,0,none⟩) (block_lt_of_cell h.r0)).trans h.r0,(hb.frozen (p:=⟨_,0,none⟩) (block_lt_of_cell h.r0)).trans h.f0,(hb.cell (p:=⟨_,0,none⟩) (block_lt_of_cell h.r1)).trans h.r1,(hb.frozen (p:=⟨_,0,none⟩) (block_lt_of_cell h.r1)).trans h.f1,(hb.cell (p:=⟨_,0,none⟩) h.lB).trans h.t0,(hb.frozen (p:=⟨_,0,none⟩) h.lB).trans h.tf,(hb.cell (p:=⟨_,0,none⟩) h.lR).trans h.u0,(hb.frozen (p:=⟨_,0,none⟩) h.lR).trans h.uf,h.ft.below hb h.ft.1,h.fn.below hb h.fn.1,h.kp.trans (zE.of_below hb)⟩
theorem OvS.read {w W W':World} {rp TB TR gt ct gn cn:Nat} {ns:List OpR} {us:List zD} (h:OvS w W rp TB TR gt ct gn cn ns us) (hb:zE W W' rp):OvS w W' rp TB TR gt ct gn cn ns us:=by
 have l0:w.heap.size < W.heap.size:=block_lt_of_cell h.r0
 have l1:w.heap.size + 1 < W.heap.size:=block_lt_of_cell h.r1
 obtain ⟨p0,p1,p2,p3,p4,p5,p6,p7,p8,p9,pa⟩:=h.ps
 exact ⟨h.ps,Nat.lt_of_lt_of_le h.lB hb.size,Nat.lt_of_lt_of_le h.lR hb.size,(hb.cell l0 (by omega) 0).trans h.r0,(hb.frozen l0 (by omega) 0).trans h.f0,(hb.cell l1 (by omega) 0).trans h.r1,(hb.frozen l1 (by omega) 0).trans h.f1,(hb.cell h.lB (by omega) 0).trans h.t0,(hb.frozen h.lB (by omega) 0).trans h.tf,(hb.cell h.lR (by omega) 0).trans h.u0,(hb.frozen h.lR (by omega) 0).trans h.uf,hb.filled h.ft (by omega),hb.filledN h.fn (by omega),h.kp.trans hb⟩
def zK1 (w:World) (rp:Nat) (bs:List UInt8) (p:Nat) (e:Ending) (w':World):Prop:=
 (∃ (gt ct gn cn:Nat) (ns:List OpR) (us:List zD),e = .returned (.tuple #[.agg #[.slice (some ⟨gt,0,none⟩) ns.length ct],.agg #[.slice (some ⟨gn,0,none⟩) us.length cn]]) /\ w.heap.size <= gt /\ w.heap.size <= gn /\ Hid (zf w' gt ns ns.length) /\ Hid (zM w' gn us us.length) /\ Hid (zAE bs p ns us)) /\ Hid (zE w w' rp)
structure Kp3 (w w':World) (x y z:Nat):Prop where
 os:w'.os = w.os
 tape:w'.tape = w.tape
 output:w'.output = w.output
 size:w'.heap.size = w.heap.size
 block:∀ i,i ≠ x -> i ≠ y -> i ≠ z -> w'.heap[i]? = w.heap[i]?
theorem Kp3.refl (w:World) (x y z:Nat):Kp3 w w x y z:=⟨rfl,rfl,rfl,rfl,fun _ _ _ _=>rfl⟩
theorem Kp3.setX {w w':World} {x y z:Nat} (h:Kp3 w w' x y z) (v:Value):Kp3 w (w'.setCell ⟨x,0,none⟩ v) x y z:=
 ⟨h.os,h.tape,h.output,by rw [<- h.size]; simp [World.setCell],fun i h1 h2 h3=>(Below.heap_setCell _ _ _ _ h1).trans (h.block i h1 h2 h3)⟩
theorem Kp3.setY {w w':World} {x y z:Nat} (h:Kp3 w w' x y z) (v:Value):Kp3 w (w'.setCell ⟨y,0,none⟩ v) x y z:=
 ⟨h.os,h.tape,h.output,by rw [<- h.size]; simp [World.setCell],fun i h1 h2 h3=>(Below.heap_setCell _ _ _ _ h2).trans (h.block i h1 h2 h3)⟩
theorem Kp3.setZ {w w':World} {x y z:Nat} (h:Kp3 w w' x y z) (v:Value):Kp3 w (w'.setCell ⟨z,0,none⟩ v) x y z:=
 ⟨h.os,h.tape,h.output,by rw [<- h.size]; simp [World.setCell],fun i h1 h2 h3=>(Below.heap_setCell _ _ _ _ h3).trans (h.block i h1 h2 h3)⟩
theorem Kp3.setO {w w':World} {x y z:Nat} (h:Kp3 w w' x y z) (o:Nat) (v:Value):Kp3 w (w'.setCell ⟨x,o,none⟩ v) x y z:=
 ⟨h.os,h.tape,h.output,by rw [<- h.size]; simp [World.setCell],fun i h1 h2 h3=>(Below.heap_setCell _ _ _ _ h1).trans (h.block i h1 h2 h3)⟩
theorem Kp3.kept1 {w w':World} {x:Nat} (h:Kp3 w w' x x x):zE w w' x:=⟨h.os,h.tape,h.output,by rw [h.size]; exact Nat.le_refl _,fun i _ h1=>h.block i h1 h1 h1⟩
theorem Kp3.drew {w w':World} {x y z:Nat} (h:Kp3 w w' x y z):Kp3 w w'.drew x y z:=⟨h.os,h.tape,h.output,h.size,h.block⟩
theorem Kp3.push {w w':World} {x y z:Nat} (h:Kp3 w w' x y z) (o:Obj):Kp3 (w.alloc o) (w'.alloc o) x y z:=by
 refine ⟨h.os,h.tape,h.output,?_,fun i h1 h2 h3=>?_⟩
 ·show (w'.heap.push o).size = (w.heap.push o).size
  rw [Array.size_push,Array.size_push,h.size]
 ·show (w'.heap.push o)[i]? = (w.heap.push o)[i]?
  rw [Array.getElem?_push,Array.getElem?_push,h.size]
  split
  ·rfl
  ·exact h.block i h1 h2 h3
theorem Kp3.filledT {w w':World} {x y z b k:Nat} {xs:List OpR} (h:Kp3 w w' x y z) (ho:zf w b xs k) (h1:b ≠ x) (h2:b ≠ y) (h3:b ≠ z):zf w' b xs k:=by
 obtain ⟨a1,a2,a3⟩:=ho
 have hb:=h.block b h1 h2 h3
 refine ⟨by rw [h.size]; exact a1,fun j hj=>?_,fun i hi=>?_⟩
 ·obtain ⟨c1,c2⟩:=a2 j hj
  exact ⟨by rw [World.cell?_of_block (w:=w) (w':=w') (a:=⟨b,0 + j,none⟩) hb]; exact c1,by rw [World.frozen?_of_block (w:=w) (w':=w') (a:=⟨b,0 + j,none⟩) hb]; exact c2⟩
 ·obtain ⟨c0,c1,c2,c3⟩:=a3 i hi
  exact ⟨(World.cell?_of_block (w:=w) hb).trans c0,(World.cell?_of_block (w:=w) hb).trans c1,(World.cell?_of_block (w:=w) hb).trans c2,(World.cell?_of_block (w:=w) hb).trans c3⟩
theorem Kp3.filledN {w w':World} {x y z b k:Nat} {xs:List zD} (h:Kp3 w w' x y z) (ho:zM w b xs k) (h1:b ≠ x) (h2:b ≠ y) (h3:b ≠ z):zM w' b xs k:=by
 obtain ⟨a1,a2,a3⟩:=ho
 have hb:=h.block b h1 h2 h3
 refine ⟨by rw [h.size]; exact a1,fun j hj=>?_,fun i hi=>?_⟩
 ·obtain ⟨c1,c2⟩:=a2 j hj
  exact ⟨by rw [World.cell?_of_block (w:=w) (w':=w') (a:=⟨b,0 + j,none⟩) hb]; exact c1,by rw [World.frozen?_of_block (w:=w) (w':=w') (a:=⟨b,0 + j,none⟩) hb]; exact c2⟩
 ·obtain ⟨c0,c1,c2,c3⟩:=a3 i hi
  exact ⟨(World.cell?_of_block (w:=w) hb).trans c0,(World.cell?_of_block (w:=w) hb).trans c1,(World.cell?_of_block (w:=w) hb).trans c2,(World.cell?_of_block (w:=w) hb).trans c3⟩
theorem zBF {w W W':World} {rp gt ct gn cn p TR:Nat} {bs:List UInt8} {ns:List OpR} {us:List zD} (hk:zE w W rp) (h1:w.heap.size + 2 <= gt) (h2:w.heap.size + 2 <= gn) (h3:w.heap.size + 2 <= TR) (h4:gt ≠ TR) (h5:gn ≠ TR) (hft:zf W gt ns ns.length) (hfn:zM W gn us us.length) (hd:zAE bs p ns us) (hK:Kp3 W W' w.heap.size (w.heap.size + 1) TR) :
  zK1 w rp bs p (.returned (.tuple #[.agg #[.slice (some ⟨gt,0,none⟩) ns.length ct],.agg #[.slice (some ⟨gn,0,none⟩) us.length cn]])) W':=
 ⟨⟨gt,ct,gn,cn,ns,us,rfl,by omega,by omega,zB (hK.filledT hft (by omega) (by omega) h4),zB (hK.filledN hfn (by omega) (by omega) h5),zB hd⟩,zB ⟨hK.os.trans hk.os,hK.tape.trans hk.tape,hK.output.trans hk.output,by rw [hK.size]; exact hk.size,fun i hi a=>(hK.block i (by omega) (by omega) (by omega)).trans (hk.block i hi a)⟩⟩
def zIZ (t:ByteArray):Value:=.iface 119 (.agg #[.string t])
def zFJ (t:ByteArray):Value:=.iface 121 (.agg #[.string t])
def zD7 (p:OpR) (e:Value):Value:=.iface 129 (.agg #[.string p.s,.int .i64 p.k,.int .i64 p.l,.int .i64 p.sd,e])
def zBk (p:OpR) (e:Value):Value:=.iface 132 (.agg #[.string p.s,.int .i64 p.k,.int .i64 p.l,.int .i64 p.sd,e])
def zDC (p:OpR) (e e':Value):Value:=.iface 131 (.agg #[.string p.s,.int .i64 p.k,.int .i64 p.l,.int .i64 p.sd,e,e'])
def zEd (e:Value):Value:=.iface 134 (.agg #[e])
def opA (ns:List OpR) (o:zD):OpR:=match fnd ns o.t (o.k - 2) with
 | some j=>atO ns j
 | none=>⟨ByteArray.empty,0,0,0⟩
def exN (p:OpR) (o:zD) (e e':Value):Value:=
 if o.k = 1 then zIZ o.t else if o.k = 2 then zFJ o.t else if o.k = 3 then zD7 p e else if o.k = 4 then zDC p e e' else if o.k = 5 then zBk p e else zEd e
def exL (ns:List OpR) (xs:List zD):Nat -> List Value
 | 0=>[]
 | k + 1=>exL ns xs k ++ [exN (opA ns (atN xs k)) (atN xs k) ((exL ns xs k).getD (atN xs k).a.toNat .nilIface) ((exL ns xs k).getD (atN xs k).b.toNat .nilIface)]
theorem zEm (ns:List OpR) (xs:List zD):∀ k,(exL ns xs k).length = k
 | 0=>rfl
 | k + 1=>by simp [exL,zEm ns xs k]
def exS (ns:List OpR) (xs:List zD) (i:Nat):Value:=(exL ns xs (i + 1)).getD i .nilIface
theorem zDD (ns:List OpR) (xs:List zD) (i:Nat):exS ns xs i = exN (opA ns (atN xs i)) (atN xs i) ((exL ns xs i).getD (atN xs i).a.toNat .nilIface) ((exL ns xs i).getD (atN xs i).b.toNat .nilIface):=by
 have h:=zEm ns xs i
 unfold exS
 show (exL ns xs i ++ [_]).getD i .nilIface = _
 simp [List.getD,List.getElem?_append,h]
theorem zBG (ns:List OpR) (xs:List zD):∀ k i,i < k -> (exL ns xs k).getD i .nilIface = exS ns xs i
 | 0,_,h=>absurd h (Nat.not_lt_zero _)
 | k + 1,i,h=>by
  by_cases e:i = k
  ·subst e; rfl
  ·have hl:=zEm ns xs k
   rw [<- zBG ns xs k i (by omega)]
   show (exL ns xs k ++ [_]).getD i .nilIface = _
   simp [List.getD,List.getElem?_append,hl,(by omega:i < k)]
theorem zL0 {ns:List OpR} {xs:List zD} {i:Nat} (h1:1 <= i) (ha:(atN xs i).a = (i:Int) - 1) (e':Value) (hk:zR (atN xs i).k = 1):exS ns xs i = exN (opA ns (atN xs i)) (atN xs i) (exS ns xs (i - 1)) e':=by
 rw [zDD,ha]
 have:((i:Int) - 1).toNat = i - 1:=by omega
 rw [this,zBG ns xs i (i - 1) (by omega)]
 have h4:(atN xs i).k ≠ 4:=fun e=>by rw [e] at hk; simp [zR] at hk
 simp only [exN,if_neg h4]
theorem zL1 {ns:List OpR} {xs:List zD} {i j:Nat} (h1:1 <= i) (ha:(atN xs i).a = (j:Int)) (hj:j < i) (hb:(atN xs i).b = (i:Int) - 1):exS ns xs i = exN (opA ns (atN xs i)) (atN xs i) (exS ns xs j) (exS ns xs (i - 1)):=by
 rw [zDD,ha,hb]
 have:((i:Int) - 1).toNat = i - 1:=by omega
 rw [this,zBG ns xs i (i - 1) (by omega),Int.toNat_natCast,zBG ns xs i j hj]
def zA7 (ns:List OpR) (o:zD) (least:Int) (e:Value):Value:=if ZI ns o < least then zEd e else e
def ft (ns:List OpR) (xs:List zD):Nat -> Nat -> Int -> Value
 | 0,_,_=>.nilIface
 | n + 1,i,least=>
  if (atN xs i).k = 6 then ft ns xs n (i - 1) least
  else if zR (atN xs i).k = 0 then zA7 ns (atN xs i) least (exN (opA ns (atN xs i)) (atN xs i) .nilIface .nilIface)
  else if zR (atN xs i).k = 1 then zA7 ns (atN xs i) least (exN (opA ns (atN xs i)) (atN xs i) (ft ns xs n (i - 1) (zT ns (atN xs i) false)) .nilIface)
  else zA7 ns (atN xs i) least (exN (opA ns (atN xs i)) (atN xs i) (ft ns xs n (atN xs i).a.toNat (zT ns (atN xs i) false)) (ft ns xs n (i - 1) (zT ns (atN xs i) true)))
theorem zCP (ns:List OpR) (xs:List zD):∀ n m i f,i < n -> i < m -> frS xs i = some f -> ∀ l,ft ns xs n i l = ft ns xs m i l
 | 0,_,_,_,h,_,_=>absurd h (Nat.not_lt_zero _)
 | _ + 1,0,_,_,_,h,_=>absurd h (Nat.not_lt_zero _)
 | n + 1,m + 1,i,f,h,h',hf=>by
  intro l
  rcases Z1 hf with ⟨hk,ha,hb,hfi⟩ | ⟨hk,h1i,ha,hbb,hf1⟩ | ⟨hk,h1i,hbb,f2,hf2,h2f,ha,hf1⟩
  ·have h6:(atN xs i).k ≠ 6:=fun e=>by rw [e] at hk; simp [zR] at hk
   simp only [ft,if_neg h6,hk,if_true]
  ·have e:=zCP ns xs n m (i - 1) f (by omega) (by omega) hf1
   simp only [ft,e]
   by_cases h6:(atN xs i).k = 6
   ·rw [if_pos h6,if_pos h6]
   ·simp only [if_neg h6,hk,if_true,Nat.one_ne_zero,if_false]
  ·have h6:(atN xs i).k ≠ 6:=fun e=>by rw [e] at hk; simp [zR] at hk
   have hle:=ZU hf2
   have e1:=zCP ns xs n m (i - 1) f2 (by omega) (by omega) hf2
   have e2:=zCP ns xs n m (f2 - 1) f (by omega) (by omega) hf1
   have ea:(atN xs i).a.toNat = f2 - 1:=by omega
   simp only [ft,if_neg h6,ea,e1,e2]
def fS (ns:List OpR) (xs:List zD) (i:Nat) (l:Int):Value:=ft ns xs (i + 1) i l
theorem zDb {ns:List OpR} {xs:List zD} {i:Nat} (hk:zR (atN xs i).k = 0) (l:Int):fS ns xs i l = zA7 ns (atN xs i) l (exN (opA ns (atN xs i)) (atN xs i) .nilIface .nilIface):=by
 have h6:(atN xs i).k ≠ 6:=fun e=>by rw [e] at hk; simp [zR] at hk
 simp only [fS,ft,if_neg h6,hk,if_true]
theorem zDc {ns:List OpR} {xs:List zD} {i f:Nat} (hk:(atN xs i).k = 6) (h1:1 <= i) (hf:frS xs (i - 1) = some f) (l:Int):fS ns xs i l = fS ns xs (i - 1) l:=by
 have e:fS ns xs i l = ft ns xs i (i - 1) l:=by simp only [fS,ft,if_pos hk]
 rw [e]
 exact zCP ns xs _ _ _ f (by omega) (by omega) hf l
theorem zD8 {ns:List OpR} {xs:List zD} {i f:Nat} (hk:zR (atN xs i).k = 1) (h6:(atN xs i).k ≠ 6) (h1:1 <= i) (hf:frS xs (i - 1) = some f) (l:Int) :
  fS ns xs i l = zA7 ns (atN xs i) l (exN (opA ns (atN xs i)) (atN xs i) (fS ns xs (i - 1) (zT ns (atN xs i) false)) .nilIface):=by
 have e:=zCP ns xs i (i - 1 + 1) (i - 1) f (by omega) (by omega) hf
 unfold fS
 conv=>lhs; unfold ft
 simp only [if_neg h6,hk,if_true,Nat.one_ne_zero,if_false,e]
theorem zGt {ns:List OpR} {xs:List zD} {i f f2:Nat} (hk:zR (atN xs i).k = 2) (h1:1 <= i) (hf2:frS xs (i - 1) = some f2) (h2:1 <= f2) (ha:(atN xs i).a = (f2:Int) - 1) (hf:frS xs (f2 - 1) = some f) (l:Int) :
  fS ns xs i l = zA7 ns (atN xs i) l (exN (opA ns (atN xs i)) (atN xs i) (fS ns xs (f2 - 1) (zT ns (atN xs i) false)) (fS ns xs (i - 1) (zT ns (atN xs i) true))):=by
 have h6:(atN xs i).k ≠ 6:=fun e=>by rw [e] at hk; simp [zR] at hk
 have hle:=ZU hf2
 have e1:=zCP ns xs i (i - 1 + 1) (i - 1) f2 (by omega) (by omega) hf2
 have e2:=zCP ns xs i (f2 - 1 + 1) (f2 - 1) f (by omega) (by omega) hf
 have ea:(atN xs i).a.toNat = f2 - 1:=by omega
 unfold fS
 conv=>lhs; unfold ft
 simp only [if_neg h6,ea,e1,e2,hk]
 rfl
end Go.Proofs.YtfboipappaonhaaGreat
