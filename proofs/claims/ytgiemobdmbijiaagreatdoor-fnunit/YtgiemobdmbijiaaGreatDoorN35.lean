import Derived.Test.YtgiemobdmbijiaaGreatDoorN12
import Derived.Test.YtgiemobdmbijiaaGreatDoorN13
import Derived.Test.YtgiemobdmbijiaaGreatDoorN33
import Derived.Test.YtgiemobdmbijiaaGreatDoorN34
namespace Go.Proofs.YtgiemobdmbijiaaGreatDoor
set_option linter.unusedSimpArgs false
set_option linter.unusedVariables false
set_option maxHeartbeats 16000000
set_option maxRecDepth 100000
open Go.RowKit
theorem zEJ (g o c i:Nat) (ts:List zT) (w:World) (hm:ts.length + Zp ts ts.length <= 1048576) (hi:i < ts.length) (hc:ts.length <= c) (hc2:c <= maxLen) (hw:zEP w g o ts) (hB:g < w.heap.size) (hz:(atT ts i).g.size <= 1048576) :
  Calls Tryz.prog 85 #[.slice (some ⟨g,o,none⟩) ts.length c,.int .i64 (i:Int)] w fun e w'=>e = .returned (.int .i64 (zJn ts i:Int)) /\ Below w.heap.size w w':=by
 have htl:(ts.take i).length = i:=by simp; omega
 have htm:=zFq ts i ts.length (by omega)
 have hdr:Below w.heap.size w w.drew:=(Below.refl _ _).drew
 have HX:=zGP g o c (ts.take i) w.drew (by rw [htl,zFy ts i i (Nat.le_refl _)]; omega) (fun j hj=>by
  rw [htl] at hj
  have h:=(hw j (by omega)).below hdr hB
  unfold zEO at h ⊢
  rw [zIq hj]
  exact h) hB
 rw [htl] at HX
 have e0:(zAJ (ts.take i) i).length = Zp ts i:=by rw [zCp,zFy ts i i (Nat.le_refl _)]
 obtain ⟨S,hS⟩:∃ S:ByteArray,S = ⟨(zAJ (ts.take i) i).toArray⟩:=⟨_,rfl⟩
 rw [<- hS] at HX
 have hSz:S.size = Zp ts i:=by rw [hS,<- e0]; simp [ByteArray.size]
 obtain ⟨k0,k1,k2⟩:=hw i hi
 have hiI:(i:Int) < (ts.length:Int):=by omega
 have HS:=zB hSz
 have HOFF:=zB (show (zJn ts i:Int) = (S.size:Int) + ((atT ts i).g.size:Int) by unfold zJn; rw [hSz]; omega)
 have hb1:S.size <= 1048576:=by omega
 clear hS e0 hSz htm htl hw hdr
 go_enter Tryz.func85,Tryz.ntmps85
 go_wp2_with fail
 have HBC:=zB (show Below w.heap.size w w.drew from (Below.refl _ _).drew)
 go_region_held (fun w'=>w'.cell? ⟨g,o + i * 3 + 1,none⟩ = some (.string (atT ts i).g)) (first | (go_keep; done) | exact ((zA HBC).cell (p:=⟨g,o + i * 3 + 1,none⟩) hB).trans k1)
  (first | (go_at_call 114; refine HX.mono ?_; rintro x w1 ⟨rfl,hb⟩; replace HBC:=zB ((zA HBC).trans hb); clear HX hb))
 have hwr:IntKind.i64.wrap ((S.size:Int) + ((atT ts i).g.size:Int)) = (S.size:Int) + ((atT ts i).g.size:Int):=by rw [IntKind.wrap_i64]; omega
 rw [hwr,<- zA HOFF]
 go_wp2_with fail
 go_ret
 exact ⟨rfl,zA HBC⟩
theorem zJJ (b off cap gt ot ct gr cr i j:Nat) (xs:List OpR) (ts:List zT) (us:List Int) (w:World) (hm:xs.length <= 1048576) (hw:Ops w b off xs) (hB:b < w.heap.size) (ht:zEP w gt ot ts) (hBt:gt < w.heap.size) (hr:∀ i,i < us.length -> w.cell? ⟨gr,i,none⟩ = some (.int .i64 (atI us i))) (hi:i < ts.length) (hi2:i < us.length) (hf:fnd xs (atT ts i).t (atI us i) = some j) :
  Calls Tryz.prog 130 #[.agg #[.slice (some ⟨b,off,none⟩) xs.length cap],.slice (some ⟨gt,ot,none⟩) ts.length ct,.slice (some ⟨gr,0,none⟩) us.length cr,.int .i64 (i:Int)] w fun e w'=>e = .returned (.agg #[.string (atO xs j).s,.int .i64 (atO xs j).k,.int .i64 (atO xs j).l,.int .i64 (atO xs j).sd]) /\ Below w.heap.size w w':=by
 have hj:=(zA0 hf).1
 have hjI:(j:Int) < (xs.length:Int):=by omega
 have hiI:(i:Int) < (ts.length:Int):=by omega
 have hiI2:(i:Int) < (us.length:Int):=by omega
 have HFI:=zB (show fI (fnd xs (atT ts i).t (atI us i)) = (j:Int) by rw [hf]; rfl)
 have hgr:gr < w.heap.size:=block_lt_of_cell (hr i hi2)
 obtain ⟨W,hW⟩:∃ W,W = (w.alloc (.cells #[.slice (some ⟨b,off,none⟩) xs.length cap] 55)).alloc (.cells #[.string ⟨#[]⟩,.int .i64 0,.int .i64 0,.int .i64 0] 46):=⟨_,rfl⟩
 have hb0:Below w.heap.size w W:=by rw [hW]; exact (zC _ _).alloc (by simp) _
 have HSZ:=zB (show W.drew.heap.size = w.heap.size + 2 by rw [hW]; show ((w.alloc _).alloc _).heap.size = _; simp)
 have hW2:W.heap.size = w.heap.size + 2:=zA HSZ
 have HB0:=zB (show Below w.heap.size w W.drew from hb0.drew)
 have q0:W.cell? ⟨w.heap.size,0,none⟩ = some (.slice (some ⟨b,off,none⟩) xs.length cap):=by rw [hW]; simp [go_sem]
 have q1:W.cell? ⟨gt,ot + i * 3 + 2,none⟩ = some (.string (atT ts i).t):=(hb0.cell (p:=⟨gt,ot + i * 3 + 2,none⟩) hBt).trans (ht i hi).2.2
 have q2:W.cell? ⟨gr,i,none⟩ = some (.int .i64 (atI us i)):=(hb0.cell (p:=⟨gr,i,none⟩) hgr).trans (hr i hi2)
 obtain ⟨r0,r1,r2,r3⟩:=(hw j hj).below hb0 hB
 have t0:W.cell? ⟨w.heap.size + 1,0,none⟩ = some (.string ⟨#[]⟩):=by rw [hW]; simp [go_sem]
 have u0:W.frozen? ⟨w.heap.size + 1,0,none⟩ = false:=by rw [hW]; simp [go_sem]
 have t1:W.cell? ⟨w.heap.size + 1,1,none⟩ = some (.int .i64 0):=by rw [hW]; simp [go_sem]
 have u1:W.frozen? ⟨w.heap.size + 1,1,none⟩ = false:=by rw [hW]; simp [go_sem]
 have t2:W.cell? ⟨w.heap.size + 1,2,none⟩ = some (.int .i64 0):=by rw [hW]; simp [go_sem]
 have u2:W.frozen? ⟨w.heap.size + 1,2,none⟩ = false:=by rw [hW]; simp [go_sem]
 have t3:W.cell? ⟨w.heap.size + 1,3,none⟩ = some (.int .i64 0):=by rw [hW]; simp [go_sem]
 have u3:W.frozen? ⟨w.heap.size + 1,3,none⟩ = false:=by rw [hW]; simp [go_sem]
 have HX:=zDB b off cap xs (atT ts i).t (atI us i) W.drew hm (hw.below (zA HB0) hB) (by rw [zA HSZ]; omega)
 rw [zA HFI] at HX
 have n1:b ≠ w.heap.size + 1:=by omega
 have n2:w.heap.size + 1 ≠ b:=by omega
 have n3:gt ≠ w.heap.size + 1:=by omega
 have n4:w.heap.size + 1 ≠ gt:=by omega
 have n5:gr ≠ w.heap.size + 1:=by omega
 have n6:w.heap.size + 1 ≠ gr:=by omega
 have HW:=zB hW
 clear hW hf hw ht hr hb0 hW2
 go_enter Tryz.func130,Tryz.ntmps130
 go_wp2_with fail
 rw [<- zA HW]
 go_region_held (fun w'=>w'.cell? ⟨w.heap.size,0,none⟩ = some (.slice (some ⟨b,off,none⟩) xs.length cap) /\ w'.cell? ⟨gt,ot + i * 3 + 2,none⟩ = some (.string (atT ts i).t) /\ w'.cell? ⟨gr,i,none⟩ = some (.int .i64 (atI us i)) /\ w'.cell? ⟨b,off + j * 4,none⟩ = some (.string (atO xs j).s) /\ w'.cell? ⟨b,off + j * 4 + 1,none⟩ = some (.int .i64 (atO xs j).k) /\ w'.cell? ⟨b,off + j * 4 + 2,none⟩ = some (.int .i64 (atO xs j).l) /\ w'.cell? ⟨b,off + j * 4 + 3,none⟩ = some (.int .i64 (atO xs j).sd)) (first | (go_keep; done) | exact ⟨q0',q1',q2',r0',r1',r2',r3'⟩)
  (first | (go_at_call 105; refine HX.mono ?_; rintro e w2 ⟨rfl,hb2⟩; have q0':=(hb2.cell (p:=⟨w.heap.size,0,none⟩) (by simp only [zA HSZ]; omega)).trans (show W.drew.cell? _ = _ from q0); have q1':=(hb2.cell (p:=⟨gt,ot + i * 3 + 2,none⟩) (by simp only [zA HSZ]; omega)).trans (show W.drew.cell? _ = _ from q1); have q2':=(hb2.cell (p:=⟨gr,i,none⟩) (by simp only [zA HSZ]; omega)).trans (show W.drew.cell? _ = _ from q2); have r0':=(hb2.cell (p:=⟨b,off + j * 4,none⟩) (by simp only [zA HSZ]; omega)).trans (show W.drew.cell? _ = _ from r0); have r1':=(hb2.cell (p:=⟨b,off + j * 4 + 1,none⟩) (by simp only [zA HSZ]; omega)).trans (show W.drew.cell? _ = _ from r1); have r2':=(hb2.cell (p:=⟨b,off + j * 4 + 2,none⟩) (by simp only [zA HSZ]; omega)).trans (show W.drew.cell? _ = _ from r2); have r3':=(hb2.cell (p:=⟨b,off + j * 4 + 3,none⟩) (by simp only [zA HSZ]; omega)).trans (show W.drew.cell? _ = _ from r3); have t0':=(hb2.cell (p:=⟨w.heap.size + 1,0,none⟩) (by simp only [zA HSZ]; omega)).trans (show W.drew.cell? _ = _ from t0); have u0':=(hb2.frozen (p:=⟨w.heap.size + 1,0,none⟩) (by simp only [zA HSZ]; omega)).trans (show W.drew.frozen? _ = _ from u0); have t1':=(hb2.cell (p:=⟨w.heap.size + 1,1,none⟩) (by simp only [zA HSZ]; omega)).trans (show W.drew.cell? _ = _ from t1); have u1':=(hb2.frozen (p:=⟨w.heap.size + 1,1,none⟩) (by simp only [zA HSZ]; omega)).trans (show W.drew.frozen? _ = _ from u1); have t2':=(hb2.cell (p:=⟨w.heap.size + 1,2,none⟩) (by simp only [zA HSZ]; omega)).trans (show W.drew.cell? _ = _ from t2); have u2':=(hb2.frozen (p:=⟨w.heap.size + 1,2,none⟩) (by simp only [zA HSZ]; omega)).trans (show W.drew.frozen? _ = _ from u2); have t3':=(hb2.cell (p:=⟨w.heap.size + 1,3,none⟩) (by simp only [zA HSZ]; omega)).trans (show W.drew.cell? _ = _ from t3); have u3':=(hb2.frozen (p:=⟨w.heap.size + 1,3,none⟩) (by simp only [zA HSZ]; omega)).trans (show W.drew.frozen? _ = _ from u3); have B2:=zB ((zA HB0).trans (hb2.mono (by rw [zA HSZ]; omega))); clear hb2))
 go_wp2_with fail
 refine bodyPost_ret (v:=.agg #[.string (atO xs j).s,.int .i64 (atO xs j).k,.int .i64 (atO xs j).l,.int .i64 (atO xs j).sd]) ?res rfl ⟨rfl,?_⟩
 case res=>simp [results,Tryz.results130,go_sem,t0',t1',t2',t3']
 exact zJ (show w.heap.size <= w.heap.size + 1 by omega) [.string (atO xs j).s,.int .i64 (atO xs j).k,.int .i64 (atO xs j).l,.int .i64 (atO xs j).sd] 0 w2 (zA B2)
end Go.Proofs.YtgiemobdmbijiaaGreatDoor
