import Derived.Deep.RegionHeldLaw
import Derived.Test.YtfboipappaonhaaGreatM02
import Derived.Test.YtfboipappaonhaaGreatM10
namespace Go.Proofs.YtfboipappaonhaaGreat
set_option linter.unusedSimpArgs false
set_option linter.unusedVariables false
set_option maxHeartbeats 16000000
set_option maxRecDepth 100000
open Go.RowKit
theorem zFL {w:World} {B b o:Nat} {v0 v1 v2 v3 u:Value} (hne:B ≠ b) (h:w.cell? ⟨b,o,none⟩ = some u):((((w.setCell ⟨B,0,none⟩ v0).setCell ⟨B,1,none⟩ v1).setCell ⟨B,2,none⟩ v2).setCell ⟨B,3,none⟩ v3).cell? ⟨b,o,none⟩ = some u:=by
 rw [World.cell?_setCell_far _ _ _ _ hne,World.cell?_setCell_far _ _ _ _ hne,World.cell?_setCell_far _ _ _ _ hne,World.cell?_setCell_far _ _ _ _ hne]
 exact h
def fI:Option Nat -> Int
 | some j=>(j:Int)
 | none=>-1
theorem zD9 (b off cap:Nat) (xs:List OpR) (t:ByteArray) (kd:Int) (w:World) (hm:xs.length <= 1048576) (hw:Ops w b off xs) (hB:b < w.heap.size) :
  Calls Tryz.prog 97 #[.agg #[.slice (some ⟨b,off,none⟩) xs.length cap],.string t,.int .i64 kd] w fun e w'=>e = .returned (.int .i64 (fI (fnd xs t kd))) /\ Below w.heap.size w w':=by
 go_enter Tryz.func97,Tryz.ntmps97
 go_wp2
 have hops:Ops (w.alloc (.cells #[.slice (some ⟨b,off,none⟩) xs.length cap] 25)) b off xs:=hw.below (zC _ _) hB
 have HO:=zB hops
 clear hops hw
 go_loop [7] (fun i=>∃ k:Nat,k <= xs.length /\ i = .int .i64 k /\ Hid (∀ j,j < k -> ¬ ((atO xs j).s = t /\ (atO xs j).k = kd))) (fun i=>xs.length - (intOf i).toNat)
 case atStart=>exact ⟨0,Nat.zero_le _,rfl,zB (fun j h=>by omega)⟩
 case round=>
  obtain ⟨k,hk,rfl,hn⟩:=hrel
  by_cases hlt:k < xs.length
  ·obtain ⟨a0,a1,a2,a3⟩:=(zA HO) k hlt
   have hnx:=zB (show ∀ (_:¬ ((atO xs k).s = t /\ (atO xs k).k = kd)),∀ j,j < k + 1 -> ¬ ((atO xs j).s = t /\ (atO xs j).k = kd) from fun hne j hj=>by
    by_cases e:j = k
    ·subst e; exact hne
    ·exact (zA hn) j (by omega))
   go_wp2
   ·rename_i hs1 hk1 _
    go_ret
    refine ⟨zJ ?_,zC _ _⟩
    rw [zJ8 hlt (zA hn) ⟨zJ3 hs1,by simpa using hk1⟩]
    rfl
   ·refine ⟨⟨k + 1,by omega,by go_num,zB ((zA hnx) ?_)⟩,by simp [intOf]; omega⟩
    rintro ⟨_,h⟩
    simp_all
   ·refine ⟨⟨k + 1,by omega,by go_num,zB ((zA hnx) ?_)⟩,by simp [intOf]; omega⟩
    rintro ⟨h,_⟩
    simp_all
  ·go_wp2
   go_ret
   refine ⟨zJ ?_,zC _ _⟩
   rw [zJM (fun j hj=>(zA hn) j (by omega))]
   rfl
theorem Zo (o:zD) (w:World) (v:Bool) (hv:v = decide (3 <= o.k /\ o.k <= 5)) :
  Calls Tryz.prog 65 #[.agg #[.int .i64 o.k,.string o.t,.int .i64 o.a,.int .i64 o.b]] w fun e w'=>e = .returned (.bool v) /\ Below w.heap.size w w':=by
 by_cases h3:3 <= o.k
 ·by_cases h5:o.k <= 5
  ·have HV:=zB (show v = true by rw [hv]; simp [h3,h5])
   clear hv
   go_enter Tryz.func65,Tryz.ntmps65
   go_wp2
   go_ret
   exact ⟨zk (zA HV).symm,zC _ _⟩
  ·have HV:=zB (show v = false by rw [hv]; simp [h5])
   clear hv
   go_enter Tryz.func65,Tryz.ntmps65
   go_wp2
   go_ret
   exact ⟨zk (zA HV).symm,zC _ _⟩
 ·have HV:=zB (show v = false by rw [hv]; simp [h3])
  clear hv
  go_enter Tryz.func65,Tryz.ntmps65
  go_wp2
  go_ret
  exact ⟨zk (zA HV).symm,zC _ _⟩
theorem zCQ (b off cap:Nat) (xs:List OpR) (o:zD) (j:Nat) (w:World) (hm:xs.length <= 1048576) (hw:Ops w b off xs) (hB:b < w.heap.size) (h3:3 <= o.k) (h5:o.k <= 5) (hf:fnd xs o.t (o.k - 2) = some j) :
  Calls Tryz.prog 98 #[.agg #[.slice (some ⟨b,off,none⟩) xs.length cap],.agg #[.int .i64 o.k,.string o.t,.int .i64 o.a,.int .i64 o.b]] w fun e w'=>e = .returned (.agg #[.string (atO xs j).s,.int .i64 (atO xs j).k,.int .i64 (atO xs j).l,.int .i64 (atO xs j).sd]) /\ Below w.heap.size w w':=by
 have hj:=(Ze hf).1
 have hjI:(j:Int) < (xs.length:Int):=by omega
 have HFI:=zB (show fI (fnd xs o.t (o.k - 2)) = (j:Int) by rw [hf]; rfl)
 have HW:=zB hw
 clear hw hf
 have HW3:=zB (show ∀ o1 o2 o3:Obj,zAI (((w.alloc o1).alloc o2).alloc o3).drew b off xs j from fun o1 o2 o3=>((zA HW) j hj).below ((((zC w o1).alloc (by simp) o2).alloc (by simp; omega) o3).drew) hB)
 go_enter Tryz.func98,Tryz.ntmps98
 go_wp2_with fail
 obtain ⟨r0,r1,r2,r3⟩:=(zA HW3) (.cells #[.slice (some ⟨b,off,none⟩) xs.length cap] 25) (.cells #[.int .i64 o.k,.string o.t,.int .i64 o.a,.int .i64 o.b] 81) (.cells #[.string ⟨#[]⟩,.int .i64 0,.int .i64 0,.int .i64 0] 123)
 have HB3:=zB (show ∀ o1 o2 o3:Obj,Below w.heap.size w (((w.alloc o1).alloc o2).alloc o3).drew from fun o1 o2 o3=>(((zC w o1).alloc (by simp) o2).alloc (by simp; omega) o3).drew)
 have hbn1:b ≠ w.heap.size + 1 + 1:=by omega
 have hbn2:w.heap.size + 1 + 1 ≠ b:=by omega
 have HWR:=zB (show IntKind.i64.wrap (o.k - 2) = o.k - 2 by rw [IntKind.wrap_i64]; omega)
 have HSZ:=zB (show ((((w.alloc (.cells #[.slice (some ⟨b,off,none⟩) xs.length cap] 25)).alloc (.cells #[.int .i64 o.k,.string o.t,.int .i64 o.a,.int .i64 o.b] 81)).alloc (.cells #[.string ⟨#[]⟩,.int .i64 0,.int .i64 0,.int .i64 0] 123)).drew).heap.size = w.heap.size + 3 from (show (((w.alloc (.cells #[.slice (some ⟨b,off,none⟩) xs.length cap] 25)).alloc (.cells #[.int .i64 o.k,.string o.t,.int .i64 o.a,.int .i64 o.b] 81)).alloc (.cells #[.string ⟨#[]⟩,.int .i64 0,.int .i64 0,.int .i64 0] 123)).heap.size = w.heap.size + 3 by simp))
 have HLT:=zB (show b < ((((w.alloc (.cells #[.slice (some ⟨b,off,none⟩) xs.length cap] 25)).alloc (.cells #[.int .i64 o.k,.string o.t,.int .i64 o.a,.int .i64 o.b] 81)).alloc (.cells #[.string ⟨#[]⟩,.int .i64 0,.int .i64 0,.int .i64 0] 123)).drew).heap.size by rw [zA HSZ]; omega)
 have HL0:=zB (show w.heap.size < ((((w.alloc (.cells #[.slice (some ⟨b,off,none⟩) xs.length cap] 25)).alloc (.cells #[.int .i64 o.k,.string o.t,.int .i64 o.a,.int .i64 o.b] 81)).alloc (.cells #[.string ⟨#[]⟩,.int .i64 0,.int .i64 0,.int .i64 0] 123)).drew).heap.size by rw [zA HSZ]; omega)
 have HL1:=zB (show w.heap.size + 1 < ((((w.alloc (.cells #[.slice (some ⟨b,off,none⟩) xs.length cap] 25)).alloc (.cells #[.int .i64 o.k,.string o.t,.int .i64 o.a,.int .i64 o.b] 81)).alloc (.cells #[.string ⟨#[]⟩,.int .i64 0,.int .i64 0,.int .i64 0] 123)).drew).heap.size by rw [zA HSZ]; omega)
 have HL2:=zB (show w.heap.size + 1 + 1 < ((((w.alloc (.cells #[.slice (some ⟨b,off,none⟩) xs.length cap] 25)).alloc (.cells #[.int .i64 o.k,.string o.t,.int .i64 o.a,.int .i64 o.b] 81)).alloc (.cells #[.string ⟨#[]⟩,.int .i64 0,.int .i64 0,.int .i64 0] 123)).drew).heap.size by rw [zA HSZ]; omega)
 have HLW:=zB (show w.heap.size <= ((((w.alloc (.cells #[.slice (some ⟨b,off,none⟩) xs.length cap] 25)).alloc (.cells #[.int .i64 o.k,.string o.t,.int .i64 o.a,.int .i64 o.b] 81)).alloc (.cells #[.string ⟨#[]⟩,.int .i64 0,.int .i64 0,.int .i64 0] 123)).drew).heap.size by rw [zA HSZ]; omega)
 have HC0:=zB (show ((((w.alloc (.cells #[.slice (some ⟨b,off,none⟩) xs.length cap] 25)).alloc (.cells #[.int .i64 o.k,.string o.t,.int .i64 o.a,.int .i64 o.b] 81)).alloc (.cells #[.string ⟨#[]⟩,.int .i64 0,.int .i64 0,.int .i64 0] 123)).drew).cell? ⟨w.heap.size,0,none⟩ = some (.slice (some ⟨b,off,none⟩) xs.length cap) /\ ((((w.alloc (.cells #[.slice (some ⟨b,off,none⟩) xs.length cap] 25)).alloc (.cells #[.int .i64 o.k,.string o.t,.int .i64 o.a,.int .i64 o.b] 81)).alloc (.cells #[.string ⟨#[]⟩,.int .i64 0,.int .i64 0,.int .i64 0] 123)).drew).cell? ⟨w.heap.size + 1,0,none⟩ = some (.int .i64 o.k) /\ ((((w.alloc (.cells #[.slice (some ⟨b,off,none⟩) xs.length cap] 25)).alloc (.cells #[.int .i64 o.k,.string o.t,.int .i64 o.a,.int .i64 o.b] 81)).alloc (.cells #[.string ⟨#[]⟩,.int .i64 0,.int .i64 0,.int .i64 0] 123)).drew).cell? ⟨w.heap.size + 1,1,none⟩ = some (.string o.t) from
  (show (((w.alloc (.cells #[.slice (some ⟨b,off,none⟩) xs.length cap] 25)).alloc (.cells #[.int .i64 o.k,.string o.t,.int .i64 o.a,.int .i64 o.b] 81)).alloc (.cells #[.string ⟨#[]⟩,.int .i64 0,.int .i64 0,.int .i64 0] 123)).cell? ⟨w.heap.size,0,none⟩ = some (.slice (some ⟨b,off,none⟩) xs.length cap) /\ (((w.alloc (.cells #[.slice (some ⟨b,off,none⟩) xs.length cap] 25)).alloc (.cells #[.int .i64 o.k,.string o.t,.int .i64 o.a,.int .i64 o.b] 81)).alloc (.cells #[.string ⟨#[]⟩,.int .i64 0,.int .i64 0,.int .i64 0] 123)).cell? ⟨w.heap.size + 1,0,none⟩ = some (.int .i64 o.k) /\ (((w.alloc (.cells #[.slice (some ⟨b,off,none⟩) xs.length cap] 25)).alloc (.cells #[.int .i64 o.k,.string o.t,.int .i64 o.a,.int .i64 o.b] 81)).alloc (.cells #[.string ⟨#[]⟩,.int .i64 0,.int .i64 0,.int .i64 0] 123)).cell? ⟨w.heap.size + 1,1,none⟩ = some (.string o.t) from ⟨by simp [go_sem],by simp [go_sem],by simp [go_sem]⟩))
 have HC2:=zB (show (((((w.alloc (.cells #[.slice (some ⟨b,off,none⟩) xs.length cap] 25)).alloc (.cells #[.int .i64 o.k,.string o.t,.int .i64 o.a,.int .i64 o.b] 81)).alloc (.cells #[.string ⟨#[]⟩,.int .i64 0,.int .i64 0,.int .i64 0] 123)).drew).cell? ⟨w.heap.size + 1 + 1,0,none⟩ = some (.string ⟨#[]⟩) /\ ((((w.alloc (.cells #[.slice (some ⟨b,off,none⟩) xs.length cap] 25)).alloc (.cells #[.int .i64 o.k,.string o.t,.int .i64 o.a,.int .i64 o.b] 81)).alloc (.cells #[.string ⟨#[]⟩,.int .i64 0,.int .i64 0,.int .i64 0] 123)).drew).cell? ⟨w.heap.size + 1 + 1,1,none⟩ = some (.int .i64 0) /\ ((((w.alloc (.cells #[.slice (some ⟨b,off,none⟩) xs.length cap] 25)).alloc (.cells #[.int .i64 o.k,.string o.t,.int .i64 o.a,.int .i64 o.b] 81)).alloc (.cells #[.string ⟨#[]⟩,.int .i64 0,.int .i64 0,.int .i64 0] 123)).drew).cell? ⟨w.heap.size + 1 + 1,2,none⟩ = some (.int .i64 0) /\ ((((w.alloc (.cells #[.slice (some ⟨b,off,none⟩) xs.length cap] 25)).alloc (.cells #[.int .i64 o.k,.string o.t,.int .i64 o.a,.int .i64 o.b] 81)).alloc (.cells #[.string ⟨#[]⟩,.int .i64 0,.int .i64 0,.int .i64 0] 123)).drew).cell? ⟨w.heap.size + 1 + 1,3,none⟩ = some (.int .i64 0)) /\ ∀ q,((((w.alloc (.cells #[.slice (some ⟨b,off,none⟩) xs.length cap] 25)).alloc (.cells #[.int .i64 o.k,.string o.t,.int .i64 o.a,.int .i64 o.b] 81)).alloc (.cells #[.string ⟨#[]⟩,.int .i64 0,.int .i64 0,.int .i64 0] 123)).drew).frozen? ⟨w.heap.size + 1 + 1,q,none⟩ = false from
  (show ((((w.alloc (.cells #[.slice (some ⟨b,off,none⟩) xs.length cap] 25)).alloc (.cells #[.int .i64 o.k,.string o.t,.int .i64 o.a,.int .i64 o.b] 81)).alloc (.cells #[.string ⟨#[]⟩,.int .i64 0,.int .i64 0,.int .i64 0] 123)).cell? ⟨w.heap.size + 1 + 1,0,none⟩ = some (.string ⟨#[]⟩) /\ (((w.alloc (.cells #[.slice (some ⟨b,off,none⟩) xs.length cap] 25)).alloc (.cells #[.int .i64 o.k,.string o.t,.int .i64 o.a,.int .i64 o.b] 81)).alloc (.cells #[.string ⟨#[]⟩,.int .i64 0,.int .i64 0,.int .i64 0] 123)).cell? ⟨w.heap.size + 1 + 1,1,none⟩ = some (.int .i64 0) /\ (((w.alloc (.cells #[.slice (some ⟨b,off,none⟩) xs.length cap] 25)).alloc (.cells #[.int .i64 o.k,.string o.t,.int .i64 o.a,.int .i64 o.b] 81)).alloc (.cells #[.string ⟨#[]⟩,.int .i64 0,.int .i64 0,.int .i64 0] 123)).cell? ⟨w.heap.size + 1 + 1,2,none⟩ = some (.int .i64 0) /\ (((w.alloc (.cells #[.slice (some ⟨b,off,none⟩) xs.length cap] 25)).alloc (.cells #[.int .i64 o.k,.string o.t,.int .i64 o.a,.int .i64 o.b] 81)).alloc (.cells #[.string ⟨#[]⟩,.int .i64 0,.int .i64 0,.int .i64 0] 123)).cell? ⟨w.heap.size + 1 + 1,3,none⟩ = some (.int .i64 0)) /\ ∀ q,(((w.alloc (.cells #[.slice (some ⟨b,off,none⟩) xs.length cap] 25)).alloc (.cells #[.int .i64 o.k,.string o.t,.int .i64 o.a,.int .i64 o.b] 81)).alloc (.cells #[.string ⟨#[]⟩,.int .i64 0,.int .i64 0,.int .i64 0] 123)).frozen? ⟨w.heap.size + 1 + 1,q,none⟩ = false from ⟨⟨by simp [go_sem],by simp [go_sem],by simp [go_sem],by simp [go_sem]⟩,fun q=>by simp [go_sem]⟩))
 go_region_held (fun w'=>w'.cell? ⟨w.heap.size,0,none⟩ = some (.slice (some ⟨b,off,none⟩) xs.length cap) /\ w'.cell? ⟨w.heap.size + 1,0,none⟩ = some (.int .i64 o.k) /\ w'.cell? ⟨w.heap.size + 1,1,none⟩ = some (.string o.t) /\ w'.cell? ⟨b,off + j * 4,none⟩ = some (.string (atO xs j).s) /\ w'.cell? ⟨b,off + j * 4 + 1,none⟩ = some (.int .i64 (atO xs j).k) /\ w'.cell? ⟨b,off + j * 4 + 2,none⟩ = some (.int .i64 (atO xs j).l) /\ w'.cell? ⟨b,off + j * 4 + 3,none⟩ = some (.int .i64 (atO xs j).sd)) (first | (go_keep; done) | (refine ⟨zFL (by omega) ?_,zFL (by omega) ?_,zFL (by omega) ?_,zFL (by omega) ?_,zFL (by omega) ?_,zFL (by omega) ?_,zFL (by omega) ?_⟩ <;> simp [*]))
  (first | (go_at_call 97; have HX:=zD9 b off cap xs o.t (o.k - 2) (((w.alloc (.cells #[.slice (some ⟨b,off,none⟩) xs.length cap] 25)).alloc (.cells #[.int .i64 o.k,.string o.t,.int .i64 o.a,.int .i64 o.b] 81)).alloc (.cells #[.string ⟨#[]⟩,.int .i64 0,.int .i64 0,.int .i64 0] 123)).drew hm ((zA HW).below ((zA HB3) _ _ _) hB) (zA HLT); rw [zA HFI] at HX; rw [zA HWR]; refine HX.mono ?_; clear HX; rintro e w2 ⟨rfl,hb2⟩; have q0:=(hb2.cell (p:=⟨w.heap.size,0,none⟩) (zA HL0)).trans (zA HC0).1; have q1:=(hb2.cell (p:=⟨w.heap.size + 1,0,none⟩) (zA HL1)).trans (zA HC0).2.1; have q2:=(hb2.cell (p:=⟨w.heap.size + 1,1,none⟩) (zA HL1)).trans (zA HC0).2.2; have s0:=(hb2.cell (p:=⟨b,off + j * 4,none⟩) (zA HLT)).trans r0; have s1:=(hb2.cell (p:=⟨b,off + j * 4 + 1,none⟩) (zA HLT)).trans r1; have s2:=(hb2.cell (p:=⟨b,off + j * 4 + 2,none⟩) (zA HLT)).trans r2; have s3:=(hb2.cell (p:=⟨b,off + j * 4 + 3,none⟩) (zA HLT)).trans r3; have t0:=(hb2.cell (p:=⟨w.heap.size + 1 + 1,0,none⟩) (zA HL2)).trans (zA HC2).1.1; have t1:=(hb2.cell (p:=⟨w.heap.size + 1 + 1,1,none⟩) (zA HL2)).trans (zA HC2).1.2.1; have t2:=(hb2.cell (p:=⟨w.heap.size + 1 + 1,2,none⟩) (zA HL2)).trans (zA HC2).1.2.2.1; have t3:=(hb2.cell (p:=⟨w.heap.size + 1 + 1,3,none⟩) (zA HL2)).trans (zA HC2).1.2.2.2; have u0:=(hb2.frozen (p:=⟨w.heap.size + 1 + 1,0,none⟩) (zA HL2)).trans ((zA HC2).2 0); have u1:=(hb2.frozen (p:=⟨w.heap.size + 1 + 1,1,none⟩) (zA HL2)).trans ((zA HC2).2 1); have u2:=(hb2.frozen (p:=⟨w.heap.size + 1 + 1,2,none⟩) (zA HL2)).trans ((zA HC2).2 2); have u3:=(hb2.frozen (p:=⟨w.heap.size + 1 + 1,3,none⟩) (zA HL2)).trans ((zA HC2).2 3); have B2:=zB (((zA HB3) _ _ _).trans (hb2.mono (zA HLW))); clear hb2))
 go_wp2
 refine bodyPost_ret (v:=.agg #[.string (atO xs j).s,.int .i64 (atO xs j).k,.int .i64 (atO xs j).l,.int .i64 (atO xs j).sd]) ?res rfl ⟨rfl,?_⟩
 case res=>simp [results,Tryz.results98,go_sem,t0,t1,t2,t3]
 exact zAW (show w.heap.size <= w.heap.size + 1 + 1 by omega) [.string (atO xs j).s,.int .i64 (atO xs j).k,.int .i64 (atO xs j).l,.int .i64 (atO xs j).sd] 0 w2 (zA B2)
theorem zIa (W:World) (s:ByteArray) (k l sd:Int):(Instr.field 123 (.agg #[.string s,.int .i64 k,.int .i64 l,.int .i64 sd]) 2).run Tryz.prog W = .ok (.int .i64 l) W:=by kernel_rfl
theorem zJU {xs:List OpR} {o:zD} {j:Nat} (h3:3 <= o.k) (h5:o.k <= 5) (hf:fnd xs o.t (o.k - 2) = some j):ZI xs o = (atO xs j).l:=by
 unfold ZI
 rw [if_pos ⟨h3,h5⟩,hf]
theorem zFM {xs:List OpR} {o:zD} (h:¬ (3 <= o.k /\ o.k <= 5)):ZI xs o = 1001:=by
 unfold ZI
 rw [if_neg h]
theorem zAS (b off cap:Nat) (xs:List OpR) (o:zD) (w:World) (hm:xs.length <= 1048576) (hw:Ops w b off xs) (hB:b < w.heap.size) (hkn:3 <= o.k -> o.k <= 5 -> fnd xs o.t (o.k - 2) ≠ none) :
  Calls Tryz.prog 100 #[.agg #[.slice (some ⟨b,off,none⟩) xs.length cap],.agg #[.int .i64 o.k,.string o.t,.int .i64 o.a,.int .i64 o.b]] w fun e w'=>e = .returned (.int .i64 (ZI xs o)) /\ Below w.heap.size w w':=by
 by_cases hop:3 <= o.k /\ o.k <= 5
 ·obtain ⟨h3,h5⟩:=hop
  cases hf:fnd xs o.t (o.k - 2) with
  | none=>exact absurd hf (hkn h3 h5)
  | some j=>
   have HL:=zB (zJU h3 h5 hf)
   have HW:=zB hw
   have HF:=zB hf
   have HD:=zB (show true = decide (3 <= o.k /\ o.k <= 5) by simp [h3,h5])
   clear hw hf hkn
   go_enter Tryz.func100,Tryz.ntmps100
   go_wp2_with fail
   refine (Zo o _ true (zA HD)).mono ?_
   rintro e w1 ⟨rfl,hb1⟩
   have bel1:Below w.heap.size w w1:=((zC _ _).alloc (by simp) _).trans (hb1.mono (by simp; omega))
   have c0:w1.cell? ⟨w.heap.size,0,none⟩ = some (.slice (some ⟨b,off,none⟩) xs.length cap):=(hb1.cell (p:=⟨w.heap.size,0,none⟩) (by simp; omega)).trans (by simp [go_sem])
   have d0:w1.cell? ⟨w.heap.size + 1,0,none⟩ = some (.int .i64 o.k):=(hb1.cell (p:=⟨w.heap.size + 1,0,none⟩) (by simp)).trans (by simp [go_sem])
   have d1:w1.cell? ⟨w.heap.size + 1,1,none⟩ = some (.string o.t):=(hb1.cell (p:=⟨w.heap.size + 1,1,none⟩) (by simp)).trans (by simp [go_sem])
   have d2:w1.cell? ⟨w.heap.size + 1,2,none⟩ = some (.int .i64 o.a):=(hb1.cell (p:=⟨w.heap.size + 1,2,none⟩) (by simp)).trans (by simp [go_sem])
   have d3:w1.cell? ⟨w.heap.size + 1,3,none⟩ = some (.int .i64 o.b):=(hb1.cell (p:=⟨w.heap.size + 1,3,none⟩) (by simp)).trans (by simp [go_sem])
   have hB1:b < w1.heap.size:=Nat.lt_of_lt_of_le hB bel1.size
   clear hb1
   go_wp2_with fail
   refine (zCQ b off cap xs o j _ hm ((zA HW).below bel1 hB) hB1 h3 h5 (zA HF)).mono ?_
   rintro e w2 ⟨rfl,hb2⟩
   have hfld:=zIa
   go_wp2
   go_ret
   exact ⟨zJ (zA HL).symm,bel1.trans (hb2.mono bel1.size)⟩
 ·have HL:=zB (zFM (xs:=xs) hop)
  have HD:=zB (show false = decide (3 <= o.k /\ o.k <= 5) by simp [hop])
  clear hw hop hkn
  go_enter Tryz.func100,Tryz.ntmps100
  go_wp2_with fail
  refine (Zo o _ false (zA HD)).mono ?_
  rintro e w1 ⟨rfl,hb1⟩
  go_wp2_with fail
  go_ret
  exact ⟨zJ (zA HL).symm,((zC _ _).alloc (by simp) _).trans (hb1.mono (by simp; omega))⟩
end Go.Proofs.YtfboipappaonhaaGreat
