import Derived.Test.YtfboipappaonhaaGreatM13
import Derived.Test.YtfboipappaonhaaGreatM22
namespace Go.Proofs.YtfboipappaonhaaGreat
set_option linter.unusedSimpArgs false
set_option linter.unusedVariables false
set_option maxHeartbeats 16000000
set_option maxRecDepth 100000
open Go.RowKit
def zv (zs:List ZR):List Value:=zs.flatMap fun x=>[.string x.t,.bool x.o,.bool x.i]
theorem ZX (xs ys:List ZR):zv (xs ++ ys) = zv xs ++ zv ys:=by simp [zv]
theorem zGa:∀ (zs:List ZR) (i:Nat),i < zs.length -> (zv zs)[i * 3]? = some (.string (atW zs i).t) /\ (zv zs)[i * 3 + 1]? = some (.bool (atW zs i).o) /\ (zv zs)[i * 3 + 2]? = some (.bool (atW zs i).i)
 | [],i,h=>absurd h (Nat.not_lt_zero i)
 | o :: r,0,_=>⟨rfl,rfl,rfl⟩
 | o :: r,i + 1,h=>by
  have ih:=zGa r i (by simpa using h)
  have e:∀ j,(zv (o :: r))[(i + 1) * 3 + j]? = (zv r)[i * 3 + j]?:=fun j=>by
   have:(i + 1) * 3 + j = (i * 3 + j) + 3:=by omega
   rw [this]
   rfl
  exact ⟨(e 0).trans ih.1,(e 1).trans ih.2.1,(e 2).trans ih.2.2⟩
theorem Zw (zs:List ZR):∀ u ∈ zv zs,u.oneCell' = true:=by
 intro u hu
 simp only [zv,List.mem_flatMap] at hu
 obtain ⟨o,_,ho⟩:=hu
 simp at ho
 rcases ho with rfl | rfl | rfl <;> rfl
theorem zNp:(Tryz.prog.info? 54).map (fun i=>(i.zero,i.size,i.bytes)) = some (some (.agg #[.string ⟨#[]⟩,.bool false,.bool false]),3,24):=by kernel_rfl
theorem zBJ (w:World) (x:ZR):∀ j u,(zv [x])[j]? = some u -> (w.alloc (.cells #[.string x.t,.bool x.o,.bool x.i] 54)).cell? ((⟨w.heap.size,0,none⟩:Addr).add j) = some u:=by
 intro j u hj
 rw [Addr.add_mid]
 have:=World.rangeAt_of_block (w:=w.alloc (.cells #[.string x.t,.bool x.o,.bool x.i] 54)) (b:=w.heap.size) (heap_alloc_new w _) 0 3
 exact this j u (by simpa [zv] using hj)
def zAb (w:World) (B:Nat) (u:Value) (us:List ZR):Prop:=w.ownsRow B 54 3 u us.length (zv us)
theorem zAp {w:World} {B:Nat} {u:Value} {us:List ZR} (h:zAb w B u us):∃ a c,u = .slice a us.length c:=by
 obtain ⟨_,⟨h1,h2⟩ | ⟨g,cap,cur,h1,_⟩⟩:=h
 ·exact ⟨none,0,by rw [h2]; exact h1⟩
 ·exact ⟨_,_,h1⟩
theorem zAb.below {w w':World} {B:Nat} {u:Value} {us:List ZR} (h:zAb w B u us) (hb:Below w.heap.size w w'):zAb w' B u us:=
 World.ownsRow.kept h (ze hb none) (by cases u.ownBlock with
 | none=>exact Or.inl rfl
 | some k=>exact Or.inr (by simp))
theorem zAb.lt {w:World} {B:Nat} {u:Value} {us:List ZR} (h:zAb w B u us):∀ g,u.ownBlock = some g -> B <= g /\ g < w.heap.size:=fun g hg=>World.ownsRow.lt h g hg
def zMa (w:World) (g:Nat) (ws:List ZR):Prop:=∀ i,i < ws.length -> w.cell? ⟨g,i * 3,none⟩ = some (.string (atW ws i).t) /\ w.cell? ⟨g,i * 3 + 1,none⟩ = some (.bool (atW ws i).o) /\ w.cell? ⟨g,i * 3 + 2,none⟩ = some (.bool (atW ws i).i)
theorem zMa.below {w w':World} {g:Nat} {ws:List ZR} {B:Nat} (h:zMa w g ws) (hb:Below B w w') (hB:g < B):zMa w' g ws:=fun i hi=>by
 obtain ⟨h0,h1,h2⟩:=h i hi
 exact ⟨(hb.cell (p:=⟨g,_,none⟩) hB).trans h0,(hb.cell (p:=⟨g,_,none⟩) hB).trans h1,(hb.cell (p:=⟨g,_,none⟩) hB).trans h2⟩
theorem zAb.ops {w:World} {B g c:Nat} {us:List ZR} (h:zAb w B (.slice (some ⟨g,0,none⟩) us.length c) us):zMa w g us:=fun i hi=>by
 obtain ⟨c0,c1,c2⟩:=zGa us i hi
 have e:=fun j (hj:j < 3)=>World.ownsRow.cellAt h (i * 3 + j) (by omega)
 exact ⟨by simpa using (e 0 (by omega)).trans c0,by simpa using (e 1 (by omega)).trans c1,by simpa using (e 2 (by omega)).trans c2⟩
def zIG (w:World) (B:Nat) (u:Value) (vs:List ZR) (x:Ending) (w':World):Prop:=
 ∃ u',x = .returned u' /\ Hid (zAb w' B u' vs) /\ Hid (w.grownBy w' u.ownBlock) /\ Hid (u'.ownBlock = u.ownBlock \/ ∃ k,u'.ownBlock = some k /\ w.heap.size <= k)
theorem zIG.join {w w1:World} {B:Nat} {u u1:Value} {vs:List ZR} (h2:w.grownBy w1 u.ownBlock) (h3:u1.ownBlock = u.ownBlock \/ ∃ k,u1.ownBlock = some k /\ w.heap.size <= k) {x:Ending} {w':World} (hp:zIG w1 B u1 vs x w'):zIG w B u vs x w':=by
 obtain ⟨u',rfl,p1,p2,p3⟩:=hp
 exact ⟨u',rfl,p1,zB (zV h2 (zA p2) h3),zB (Zc h2 h3 _ (zA p3))⟩
end Go.Proofs.YtfboipappaonhaaGreat
