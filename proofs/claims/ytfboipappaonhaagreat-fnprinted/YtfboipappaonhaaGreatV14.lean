import Derived.Deep.RegionHeldLaw
import Derived.BigQuiet
import Derived.Test.YtfboipappaonhaaGreatV02
import Derived.Test.YtfboipappaonhaaGreatV10
namespace Go.Proofs.YtfboipappaonhaaGreat
set_option linter.unusedSimpArgs false
set_option linter.unusedVariables false
set_option maxHeartbeats 16000000
set_option maxRecDepth 100000
open Go.RowKit
theorem zFP {w:World} {B b o:Nat} {v0 v1 v2 v3 u:Value} (hne:B ≠ b) (h:w.cell? ⟨b,o,none⟩ = some u):((((w.setCell ⟨B,0,none⟩ v0).setCell ⟨B,1,none⟩ v1).setCell ⟨B,2,none⟩ v2).setCell ⟨B,3,none⟩ v3).cell? ⟨b,o,none⟩ = some u:=by
 rw [World.cell?_setCell_far _ _ _ _ hne,World.cell?_setCell_far _ _ _ _ hne,World.cell?_setCell_far _ _ _ _ hne,World.cell?_setCell_far _ _ _ _ hne]
 exact h
def fI:Option Nat -> Int
 | some j=>(j:Int)
 | none=>-1
theorem zEA (b off cap:Nat) (xs:List OpR) (t:ByteArray) (kd:Int) (w:World) (hm:xs.length <= 1048576) (hw:Ops w b off xs) (hB:b < w.heap.size) :
  Calls Tryz.prog 97 #[.agg #[.slice (some ⟨b,off,none⟩) xs.length cap],.string t,.int .i64 kd] w fun e w'=>e = .returned (.int .i64 (fI (fnd xs t kd))) /\ Below w.heap.size w w':=by
 go_enter Tryz.func97,Tryz.ntmps97
 go_wp2
 have hops:Ops (w.alloc (.cells #[.slice (some ⟨b,off,none⟩) xs.length cap] 25)) b off xs:=hw.below (zC _ _) hB
 have HO:=zB hops
 clear hops hw
 go_loop [7] (fun i=>∃ k:Nat,k <= xs.length /\ i = .int .i64 k /\ Hid (∀ j,j < k -> ¬ ((atO xs j).s = t /\ (atO xs j).k = kd))) (fun i=>xs.length - (intOf i).toNat)
 case atStart=>exact ⟨0,Nat.zero_le _,rfl,zB (fun j h=>by omega)⟩
 case round=>
  obtain ⟨k,hk,rfl,hn⟩:=hrel
  by_cases hlt:k < xs.length
  ·obtain ⟨a0,a1,a2,a3⟩:=(zA HO) k hlt
   have hnx:=zB (show ∀ (_:¬ ((atO xs k).s = t /\ (atO xs k).k = kd)),∀ j,j < k + 1 -> ¬ ((atO xs j).s = t /\ (atO xs j).k = kd) from fun hne j hj=>by
    by_cases e:j = k
    ·subst e; exact hne
    ·exact (zA hn) j (by omega))
   go_wp2
   ·rename_i hs1 hk1 _
    go_ret
    refine ⟨zF ?_,zC _ _⟩
    rw [zJ7 hlt (zA hn) ⟨zJ2 hs1,by simpa using hk1⟩]
    rfl
   ·refine ⟨⟨k + 1,by omega,by go_num,zB ((zA hnx) ?_)⟩,by simp [intOf]; omega⟩
    rintro ⟨_,h⟩
    simp_all
   ·refine ⟨⟨k + 1,by omega,by go_num,zB ((zA hnx) ?_)⟩,by simp [intOf]; omega⟩
    rintro ⟨h,_⟩
    simp_all
  ·go_wp2
   go_ret
   refine ⟨zF ?_,zC _ _⟩
   rw [zJS (fun j hj=>(zA hn) j (by omega))]
   rfl
theorem Zt (o:zD) (w:World) (v:Bool) (hv:v = decide (3 <= o.k /\ o.k <= 5)) :
  Calls Tryz.prog 65 #[.agg #[.int .i64 o.k,.string o.t,.int .i64 o.a,.int .i64 o.b]] w fun e w'=>e = .returned (.bool v) /\ Below w.heap.size w w':=by
 by_cases h3:3 <= o.k
 ·by_cases h5:o.k <= 5
  ·have HV:=zB (show v = true by rw [hv]; simp [h3,h5])
   clear hv
   go_enter Tryz.func65,Tryz.ntmps65
   go_wp2
   go_ret
   exact ⟨zZ (zA HV).symm,zC _ _⟩
  ·have HV:=zB (show v = false by rw [hv]; simp [h5])
   clear hv
   go_enter Tryz.func65,Tryz.ntmps65
   go_wp2
   go_ret
   exact ⟨zZ (zA HV).symm,zC _ _⟩
 ·have HV:=zB (show v = false by rw [hv]; simp [h3])
  clear hv
  go_enter Tryz.func65,Tryz.ntmps65
  go_wp2
  go_ret
  exact ⟨zZ (zA HV).symm,zC _ _⟩
theorem zC7 (b off cap:Nat) (xs:List OpR) (o:zD) (j:Nat) (w:World) (hm:xs.length <= 1048576) (hw:Ops w b off xs) (hB:b < w.heap.size) (h3:3 <= o.k) (h5:o.k <= 5) (hf:fnd xs o.t (o.k - 2) = some j) :
  Calls Tryz.prog 98 #[.agg #[.slice (some ⟨b,off,none⟩) xs.length cap],.agg #[.int .i64 o.k,.string o.t,.int .i64 o.a,.int .i64 o.b]] w fun e w'=>e = .returned (.agg #[.string (atO xs j).s,.int .i64 (atO xs j).k,.int .i64 (atO xs j).l,.int .i64 (atO xs j).sd]) /\ Below w.heap.size w w':=by
 have hj:=(Zg hf).1
 have hjI:(j:Int) < (xs.length:Int):=by omega
 have HFI:=zB (show fI (fnd xs o.t (o.k - 2)) = (j:Int) by rw [hf]; rfl)
 have HW:=zB hw
 clear hw hf
 have HW3:=zB (show ∀ o1 o2 o3:Obj,Z5 (((w.alloc o1).alloc o2).alloc o3).drew b off xs j from fun o1 o2 o3=>((zA HW) j hj).below ((((zC w o1).alloc (by simp) o2).alloc (by simp; omega) o3).drew) hB)
 go_enter Tryz.func98,Tryz.ntmps98
 go_wp2_with fail
 obtain ⟨r0,r1,r2,r3⟩:=(zA HW3) (.cells #[.slice (some ⟨b,off,none⟩) xs.length cap] 25) (.cells #[.int .i64 o.k,.string o.t,.int .i64 o.a,.int .i64 o.b] 81) (.cells #[.string ⟨#[]⟩,.int .i64 0,.int .i64 0,.int .i64 0] 123)
 have HB3:=zB (show ∀ o1 o2 o3:Obj,Below w.heap.size w (((w.alloc o1).alloc o2).alloc o3).drew from fun o1 o2 o3=>(((zC w o1).alloc (by simp) o2).alloc (by simp; omega) o3).drew)
 have hbn1:b ≠ w.heap.size + 1 + 1:=by omega
 have hbn2:w.heap.size + 1 + 1 ≠ b:=by omega
 have HWR:=zB (show IntKind.i64.wrap (o.k - 2) = o.k - 2 by rw [IntKind.wrap_i64]; omega)
 have HSZ:=zB (show ((((w.alloc (.cells #[.slice (some ⟨b,off,none⟩) xs.length cap] 25)).alloc (.cells #[.int .i64 o.k,.string o.t,.int .i64 o.a,.int .i64 o.b] 81)).alloc (.cells #[.string ⟨#[]⟩,.int .i64 0,.int .i64 0,.int .i64 0] 123)).drew).heap.size = w.heap.size + 3 from (show (((w.alloc (.cells #[.slice (some ⟨b,off,none⟩) xs.length cap] 25)).alloc (.cells #[.int .i64 o.k,.string o.t,.int .i64 o.a,.int .i64 o.b] 81)).alloc (.cells #[.string ⟨#[]⟩,.int .i64 0,.int .i64 0,.int .i64 0] 123)).heap.size = w.heap.size + 3 by simp))
 have HLT:=zB (show b < ((((w.alloc (.cells #[.slice (some ⟨b,off,none⟩) xs.length cap] 25)).alloc (.cells #[.int .i64 o.k,.string o.t,.int .i64 o.a,.int .i64 o.b] 81)).alloc (.cells #[.string ⟨#[]⟩,.int .i64 0,.int .i64 0,.int .i64 0] 123)).drew).heap.size by rw [zA HSZ]; omega)
 have HL0:=zB (show w.heap.size < ((((w.alloc (.cells #[.slice (some ⟨b,off,none⟩) xs.length cap] 25)).alloc (.cells #[.int .i64 o.k,.string o.t,.int .i64 o.a,.int .i64 o.b] 81)).alloc (.cells #[.string ⟨#[]⟩,.int .i64 0,.int .i64 0,.int .i64 0] 123)).drew).heap.size by rw [zA HSZ]; omega)
 have HL1:=zB (show w.heap.size + 1 < ((((w.alloc (.cells #[.slice (some ⟨b,off,none⟩) xs.length cap] 25)).alloc (.cells #[.int .i64 o.k,.string o.t,.int .i64 o.a,.int .i64 o.b] 81)).alloc (.cells #[.string ⟨#[]⟩,.int .i64 0,.int .i64 0,.int .i64 0] 123)).drew).heap.size by rw [zA HSZ]; omega)
 have HL2:=zB (show w.heap.size + 1 + 1 < ((((w.alloc (.cells #[.slice (some ⟨b,off,none⟩) xs.length cap] 25)).alloc (.cells #[.int .i64 o.k,.string o.t,.int .i64 o.a,.int .i64 o.b] 81)).alloc (.cells #[.string ⟨#[]⟩,.int .i64 0,.int .i64 0,.int .i64 0] 123)).drew).heap.size by rw [zA HSZ]; omega)
 have HLW:=zB (show w.heap.size <= ((((w.alloc (.cells #[.slice (some ⟨b,off,none⟩) xs.length cap] 25)).alloc (.cells #[.int .i64 o.k,.string o.t,.int .i64 o.a,.int .i64 o.b] 81)).alloc (.cells #[.string ⟨#[]⟩,.int .i64 0,.int .i64 0,.int .i64 0] 123)).drew).heap.size by rw [zA HSZ]; omega)
 have HC0:=zB (show ((((w.alloc (.cells #[.slice (some ⟨b,off,none⟩) xs.length cap] 25)).alloc (.cells #[.int .i64 o.k,.string o.t,.int .i64 o.a,.int .i64 o.b] 81)).alloc (.cells #[.string ⟨#[]⟩,.int .i64 0,.int .i64 0,.int .i64 0] 123)).drew).cell? ⟨w.heap.size,0,none⟩ = some (.slice (some ⟨b,off,none⟩) xs.length cap) /\ ((((w.alloc (.cells #[.slice (some ⟨b,off,none⟩) xs.length cap] 25)).alloc (.cells #[.int .i64 o.k,.string o.t,.int .i64 o.a,.int .i64 o.b] 81)).alloc (.cells #[.string ⟨#[]⟩,.int .i64 0,.int .i64 0,.int .i64 0] 123)).drew).cell? ⟨w.heap.size + 1,0,none⟩ = some (.int .i64 o.k) /\ ((((w.alloc (.cells #[.slice (some ⟨b,off,none⟩) xs.length cap] 25)).alloc (.cells #[.int .i64 o.k,.string o.t,.int .i64 o.a,.int .i64 o.b] 81)).alloc (.cells #[.string ⟨#[]⟩,.int .i64 0,.int .i64 0,.int .i64 0] 123)).drew).cell? ⟨w.heap.size + 1,1,none⟩ = some (.string o.t) from
  (show (((w.alloc (.cells #[.slice (some ⟨b,off,none⟩) xs.length cap] 25)).alloc (.cells #[.int .i64 o.k,.string o.t,.int .i64 o.a,.int .i64 o.b] 81)).alloc (.cells #[.string ⟨#[]⟩,.int .i64 0,.int .i64 0,.int .i64 0] 123)).cell? ⟨w.heap.size,0,none⟩ = some (.slice (some ⟨b,off,none⟩) xs.length cap) /\ (((w.alloc (.cells #[.slice (some ⟨b,off,none⟩) xs.length cap] 25)).alloc (.cells #[.int .i64 o.k,.string o.t,.int .i64 o.a,.int .i64 o.b] 81)).alloc (.cells #[.string ⟨#[]⟩,.int .i64 0,.int .i64 0,.int .i64 0] 123)).cell? ⟨w.heap.size + 1,0,none⟩ = some (.int .i64 o.k) /\ (((w.alloc (.cells #[.slice (some ⟨b,off,none⟩) xs.length cap] 25)).alloc (.cells #[.int .i64 o.k,.string o.t,.int .i64 o.a,.int .i64 o.b] 81)).alloc (.cells #[.string ⟨#[]⟩,.int .i64 0,.int .i64 0,.int .i64 0] 123)).cell? ⟨w.heap.size + 1,1,none⟩ = some (.string o.t) from ⟨by simp [go_sem],by simp [go_sem],by simp [go_sem]⟩))
 have HC2:=zB (show (((((w.alloc (.cells #[.slice (some ⟨b,off,none⟩) xs.length cap] 25)).alloc (.cells #[.int .i64 o.k,.string o.t,.int .i64 o.a,.int .i64 o.b] 81)).alloc (.cells #[.string ⟨#[]⟩,.int .i64 0,.int .i64 0,.int .i64 0] 123)).drew).cell? ⟨w.heap.size + 1 + 1,0,none⟩ = some (.string ⟨#[]⟩) /\ ((((w.alloc (.cells #[.slice (some ⟨b,off,none⟩) xs.length cap] 25)).alloc (.cells #[.int .i64 o.k,.string o.t,.int .i64 o.a,.int .i64 o.b] 81)).alloc (.cells #[.string ⟨#[]⟩,.int .i64 0,.int .i64 0,.int .i64 0] 123)).drew).cell? ⟨w.heap.size + 1 + 1,1,none⟩ = some (.int .i64 0) /\ ((((w.alloc (.cells #[.slice (some ⟨b,off,none⟩) xs.length cap] 25)).alloc (.cells #[.int .i64 o.k,.string o.t,.int .i64 o.a,.int .i64 o.b] 81)).alloc (.cells #[.string ⟨#[]⟩,.int .i64 0,.int .i64 0,.int .i64 0] 123)).drew).cell? ⟨w.heap.size + 1 + 1,2,none⟩ = some (.int .i64 0) /\ ((((w.alloc (.cells #[.slice (some ⟨b,off,none⟩) xs.length cap] 25)).alloc (.cells #[.int .i64 o.k,.string o.t,.int .i64 o.a,.int .i64 o.b] 81)).alloc (.cells #[.string ⟨#[]⟩,.int .i64 0,.int .i64 0,.int .i64 0] 123)).drew).cell? ⟨w.heap.size + 1 + 1,3,none⟩ = some (.int .i64 0)) /\ ∀ q,((((w.alloc (.cells #[.slice (some ⟨b,off,none⟩) xs.length cap] 25)).alloc (.cells #[.int .i64 o.k,.string o.t,.int .i64 o.a,.int .i64 o.b] 81)).alloc (.cells #[.string ⟨#[]⟩,.int .i64 0,.int .i64 0,.int .i64 0] 123)).drew).frozen? ⟨w.heap.size + 1 + 1,q,none⟩ = false from
  (show ((((w.alloc (.cells #[.slice (some ⟨b,off,none⟩) xs.length cap] 25)).alloc (.cells #[.int .i64 o.k,.string o.t,.int .i64 o.a,.int .i64 o.b] 81)).alloc (.cells #[.string ⟨#[]⟩,.int .i64 0,.int .i64 0,.int .i64 0] 123)).cell? ⟨w.heap.size + 1 + 1,0,none⟩ = some (.string ⟨#[]⟩) /\ (((w.alloc (.cells #[.slice (some ⟨b,off,none⟩) xs.length cap] 25)).alloc (.cells #[.int .i64 o.k,.string o.t,.int .i64 o.a,.int .i64 o.b] 81)).alloc (.cells #[.string ⟨#[]⟩,.int .i64 0,.int .i64 0,.int .i64 0] 123)).cell? ⟨w.heap.size + 1 + 1,1,none⟩ = some (.int .i64 0) /\ (((w.alloc (.cells #[.slice (some ⟨b,off,none⟩) xs.length cap] 25)).alloc (.cells #[.int .i64 o.k,.string o.t,.int .i64 o.a,.int .i64 o.b] 81)).alloc (.cells #[.string ⟨#[]⟩,.int .i64 0,.int .i64 0,.int .i64 0] 123)).cell? ⟨w.heap.size + 1 + 1,2,none⟩ = some (.int .i64 0) /\ (((w.alloc (.cells #[.slice (some ⟨b,off,none⟩) xs.length cap] 25)).alloc (.cells #[.int .i64 o.k,.string o.t,.int .i64 o.a,.int .i64 o.b] 81)).alloc (.cells #[.string ⟨#[]⟩,.int .i64 0,.int .i64 0,.int .i64 0] 123)).cell? ⟨w.heap.size + 1 + 1,3,none⟩ = some (.int .i64 0)) /\ ∀ q,(((w.alloc (.cells #[.slice (some ⟨b,off,none⟩) xs.length cap] 25)).alloc (.cells #[.int .i64 o.k,.string o.t,.int .i64 o.a,.int .i64 o.b] 81)).alloc (.cells #[.string ⟨#[]⟩,.int .i64 0,.int .i64 0,.int .i64 0] 123)).frozen? ⟨w.heap.size + 1 + 1,q,none⟩ = false from ⟨⟨by simp [go_sem],by simp [go_sem],by simp [go_sem],by simp [go_sem]⟩,fun q=>by simp [go_sem]⟩))
 go_region_held (fun w'=>w'.cell? ⟨w.heap.size,0,none⟩ = some (.slice (some ⟨b,off,none⟩) xs.length cap) /\ w'.cell? ⟨w.heap.size + 1,0,none⟩ = some (.int .i64 o.k) /\ w'.cell? ⟨w.heap.size + 1,1,none⟩ = some (.string o.t) /\ w'.cell? ⟨b,off + j * 4,none⟩ = some (.string (atO xs j).s) /\ w'.cell? ⟨b,off + j * 4 + 1,none⟩ = some (.int .i64 (atO xs j).k) /\ w'.cell? ⟨b,off + j * 4 + 2,none⟩ = some (.int .i64 (atO xs j).l) /\ w'.cell? ⟨b,off + j * 4 + 3,none⟩ = some (.int .i64 (atO xs j).sd)) (first | (go_keep; done) | (refine ⟨zFP (by omega) ?_,zFP (by omega) ?_,zFP (by omega) ?_,zFP (by omega) ?_,zFP (by omega) ?_,zFP (by omega) ?_,zFP (by omega) ?_⟩ <;> simp [*]))
  (first | (go_at_call 97; have HX:=zEA b off cap xs o.t (o.k - 2) (((w.alloc (.cells #[.slice (some ⟨b,off,none⟩) xs.length cap] 25)).alloc (.cells #[.int .i64 o.k,.string o.t,.int .i64 o.a,.int .i64 o.b] 81)).alloc (.cells #[.string ⟨#[]⟩,.int .i64 0,.int .i64 0,.int .i64 0] 123)).drew hm ((zA HW).below ((zA HB3) _ _ _) hB) (zA HLT); rw [zA HFI] at HX; rw [zA HWR]; refine HX.mono ?_; clear HX; rintro e w2 ⟨rfl,hb2⟩; have q0:=(hb2.cell (p:=⟨w.heap.size,0,none⟩) (zA HL0)).trans (zA HC0).1; have q1:=(hb2.cell (p:=⟨w.heap.size + 1,0,none⟩) (zA HL1)).trans (zA HC0).2.1; have q2:=(hb2.cell (p:=⟨w.heap.size + 1,1,none⟩) (zA HL1)).trans (zA HC0).2.2; have s0:=(hb2.cell (p:=⟨b,off + j * 4,none⟩) (zA HLT)).trans r0; have s1:=(hb2.cell (p:=⟨b,off + j * 4 + 1,none⟩) (zA HLT)).trans r1; have s2:=(hb2.cell (p:=⟨b,off + j * 4 + 2,none⟩) (zA HLT)).trans r2; have s3:=(hb2.cell (p:=⟨b,off + j * 4 + 3,none⟩) (zA HLT)).trans r3; have t0:=(hb2.cell (p:=⟨w.heap.size + 1 + 1,0,none⟩) (zA HL2)).trans (zA HC2).1.1; have t1:=(hb2.cell (p:=⟨w.heap.size + 1 + 1,1,none⟩) (zA HL2)).trans (zA HC2).1.2.1; have t2:=(hb2.cell (p:=⟨w.heap.size + 1 + 1,2,none⟩) (zA HL2)).trans (zA HC2).1.2.2.1; have t3:=(hb2.cell (p:=⟨w.heap.size + 1 + 1,3,none⟩) (zA HL2)).trans (zA HC2).1.2.2.2; have u0:=(hb2.frozen (p:=⟨w.heap.size + 1 + 1,0,none⟩) (zA HL2)).trans ((zA HC2).2 0); have u1:=(hb2.frozen (p:=⟨w.heap.size + 1 + 1,1,none⟩) (zA HL2)).trans ((zA HC2).2 1); have u2:=(hb2.frozen (p:=⟨w.heap.size + 1 + 1,2,none⟩) (zA HL2)).trans ((zA HC2).2 2); have u3:=(hb2.frozen (p:=⟨w.heap.size + 1 + 1,3,none⟩) (zA HL2)).trans ((zA HC2).2 3); have B2:=zB (((zA HB3) _ _ _).trans (hb2.mono (zA HLW))); clear hb2))
 go_wp2
 refine bodyPost_ret (v:=.agg #[.string (atO xs j).s,.int .i64 (atO xs j).k,.int .i64 (atO xs j).l,.int .i64 (atO xs j).sd]) ?res rfl ⟨rfl,?_⟩
 case res=>simp [results,Tryz.results98,go_sem,t0,t1,t2,t3]
 exact zAI (show w.heap.size <= w.heap.size + 1 + 1 by omega) [.string (atO xs j).s,.int .i64 (atO xs j).k,.int .i64 (atO xs j).l,.int .i64 (atO xs j).sd] 0 w2 (zA B2)
theorem zIg (W:World) (s:ByteArray) (k l sd:Int):(Instr.field 123 (.agg #[.string s,.int .i64 k,.int .i64 l,.int .i64 sd]) 2).run Tryz.prog W = .ok (.int .i64 l) W:=by kernel_rfl
theorem zJW {xs:List OpR} {o:zD} {j:Nat} (h3:3 <= o.k) (h5:o.k <= 5) (hf:fnd xs o.t (o.k - 2) = some j):ZF xs o = (atO xs j).l:=by
 unfold ZF
 rw [if_pos ⟨h3,h5⟩,hf]
theorem zFQ {xs:List OpR} {o:zD} (h:¬ (3 <= o.k /\ o.k <= 5)):ZF xs o = 1001:=by
 unfold ZF
 rw [if_neg h]
theorem zCW (b off cap:Nat) (xs:List OpR) (o:zD) (w:World) (hm:xs.length <= 1048576) (hw:Ops w b off xs) (hB:b < w.heap.size) (hkn:3 <= o.k -> o.k <= 5 -> fnd xs o.t (o.k - 2) ≠ none) :
  Calls Tryz.prog 100 #[.agg #[.slice (some ⟨b,off,none⟩) xs.length cap],.agg #[.int .i64 o.k,.string o.t,.int .i64 o.a,.int .i64 o.b]] w fun e w'=>e = .returned (.int .i64 (ZF xs o)) /\ Below w.heap.size w w':=by
 by_cases hop:3 <= o.k /\ o.k <= 5
 ·obtain ⟨h3,h5⟩:=hop
  cases hf:fnd xs o.t (o.k - 2) with
  | none=>exact absurd hf (hkn h3 h5)
  | some j=>
   have HL:=zB (zJW h3 h5 hf)
   have HW:=zB hw
   have HF:=zB hf
   have HD:=zB (show true = decide (3 <= o.k /\ o.k <= 5) by simp [h3,h5])
   clear hw hf hkn
   go_enter Tryz.func100,Tryz.ntmps100
   go_wp2_with fail
   refine (Zt o _ true (zA HD)).mono ?_
   rintro e w1 ⟨rfl,hb1⟩
   have bel1:Below w.heap.size w w1:=((zC _ _).alloc (by simp) _).trans (hb1.mono (by simp; omega))
   have c0:w1.cell? ⟨w.heap.size,0,none⟩ = some (.slice (some ⟨b,off,none⟩) xs.length cap):=(hb1.cell (p:=⟨w.heap.size,0,none⟩) (by simp; omega)).trans (by simp [go_sem])
   have d0:w1.cell? ⟨w.heap.size + 1,0,none⟩ = some (.int .i64 o.k):=(hb1.cell (p:=⟨w.heap.size + 1,0,none⟩) (by simp)).trans (by simp [go_sem])
   have d1:w1.cell? ⟨w.heap.size + 1,1,none⟩ = some (.string o.t):=(hb1.cell (p:=⟨w.heap.size + 1,1,none⟩) (by simp)).trans (by simp [go_sem])
   have d2:w1.cell? ⟨w.heap.size + 1,2,none⟩ = some (.int .i64 o.a):=(hb1.cell (p:=⟨w.heap.size + 1,2,none⟩) (by simp)).trans (by simp [go_sem])
   have d3:w1.cell? ⟨w.heap.size + 1,3,none⟩ = some (.int .i64 o.b):=(hb1.cell (p:=⟨w.heap.size + 1,3,none⟩) (by simp)).trans (by simp [go_sem])
   have hB1:b < w1.heap.size:=Nat.lt_of_lt_of_le hB bel1.size
   clear hb1
   go_wp2_with fail
   refine (zC7 b off cap xs o j _ hm ((zA HW).below bel1 hB) hB1 h3 h5 (zA HF)).mono ?_
   rintro e w2 ⟨rfl,hb2⟩
   have hfld:=zIg
   go_wp2
   go_ret
   exact ⟨zF (zA HL).symm,bel1.trans (hb2.mono bel1.size)⟩
 ·have HL:=zB (zFQ (xs:=xs) hop)
  have HD:=zB (show false = decide (3 <= o.k /\ o.k <= 5) by simp [hop])
  clear hw hop hkn
  go_enter Tryz.func100,Tryz.ntmps100
  go_wp2_with fail
  refine (Zt o _ false (zA HD)).mono ?_
  rintro e w1 ⟨rfl,hb1⟩
  go_wp2_with fail
  go_ret
  exact ⟨zF (zA HL).symm,((zC _ _).alloc (by simp) _).trans (hb1.mono (by simp; omega))⟩
end Go.Proofs.YtfboipappaonhaaGreat
namespace Go.Proofs.YtfboipappaonhaaGreat
set_option linter.unusedSimpArgs false
set_option linter.unusedVariables false
set_option maxHeartbeats 16000000
set_option maxRecDepth 100000
open Go.RowKit
def Cs (cs:List (Nat × Nat × Value)) (w:World):Prop:=∀ p ∈ cs,w.cell? ⟨p.1,p.2.1,none⟩ = some p.2.2
theorem Cs.below {cs:List (Nat × Nat × Value)} {w w':World} (h:Cs cs w) (hb:Below w.heap.size w w'):Cs cs w':=
 fun p hp=>(hb.cell (p:=⟨p.1,p.2.1,none⟩) (block_lt_of_cell (h p hp))).trans (h p hp)
theorem zFR {B:Nat} {a w w':World} (h:Below B a w) (h1:w'.os = w.os) (h2:w'.tape = w.tape) (h3:w'.output = w.output) (h4:w'.heap = w.heap):Below B a w':=
 ⟨h1.trans h.os,h2.trans h.tape,h3.trans h.output,by rw [h4]; exact h.size,fun i hi=>by rw [h4]; exact h.block i hi⟩
theorem zK5 {xs:List OpR} {ns:List zD} {i:Nat} (h:¬ zn (atN ns i)):zBi xs ns i:=fun j ho=>absurd ho h
theorem zK6 {xs:List OpR} {ns:List zD} {i j:Nat} (ho:zn (atN ns i)) (hf:fnd xs (atN ns i).t ((atN ns i).k - 2) = some j) :
  zBi xs ns i ↔ zBM xs j false <= ZF xs (atN ns (atN ns i).a.toNat) /\ (zM (atN ns i).k = 1 \/ zBM xs j true <= ZF xs (atN ns (atN ns i).b.toNat)):=by
 constructor
 ·intro h; exact h j ho hf
 ·intro h j' _ hf'
  rw [hf] at hf'
  injection hf' with hf'
  subst hf'
  exact h
theorem zEB (b off cap:Nat) (xs:List OpR) (w:World) (hm:xs.length <= 1048576) (hw:Ops w b off xs) (hs:Ze xs) (hB:b < w.heap.size) (hc:zK xs 0) :
  Calls Tryz.prog 53 #[.agg #[.slice (some ⟨b,off,none⟩) xs.length cap]] w fun e w'=>e = .returned (.int .i64 0) /\ Below w.heap.size w w':=by
 refine (zAg b off cap xs w hm hw hs hB).mono ?_
 rintro e w' ⟨⟨c,rfl,h⟩,hb⟩
 exact ⟨by rw [zAz h hc],hb⟩
theorem zEC (b off cap bn offn cn:Nat) (xs:List OpR) (ns:List zD) (w:World) (hm:xs.length <= 1048576) (hmn:ns.length <= 1048576) (hw:Ops w b off xs) (hsz:Ze xs) (hB:b < w.heap.size) (hwn:Zc w bn offn ns) (hsn:ZX ns) (hBn:bn < w.heap.size) (hc:zK xs 0) :
  Calls Tryz.prog 51 #[.agg #[.slice (some ⟨b,off,none⟩) xs.length cap],.agg #[.slice (some ⟨bn,offn,none⟩) ns.length cn]] w fun e w'=>zB3 e (zl ns /\ zAL xs ns) /\ Below w.heap.size w w':=by
 have HW:=zB hw
 have HWN:=zB hwn
 have HZ:=zB hsz
 have HZN:=zB hsn
 have HC:=zB hc
 clear hw hwn hsz hsn hc
 go_enter Tryz.func51,Tryz.ntmps51
 go_wp2_with fail
 refine (zEB b off cap xs _ hm ((zA HW).below ((zC _ _).alloc (by simp) _) hB) (zA HZ) (by simp; omega) (zA HC)).mono ?_
 rintro e w1 ⟨rfl,hb1⟩
 have bel1:Below w.heap.size w w1:=((zC _ _).alloc (by simp) _).trans (hb1.mono (by simp; omega))
 have c0:w1.cell? ⟨w.heap.size,0,none⟩ = some (.slice (some ⟨b,off,none⟩) xs.length cap):=(hb1.cell (p:=⟨w.heap.size,0,none⟩) (by simp; omega)).trans (by simp [go_sem])
 have c1:w1.cell? ⟨w.heap.size + 1,0,none⟩ = some (.slice (some ⟨bn,offn,none⟩) ns.length cn):=(hb1.cell (p:=⟨w.heap.size + 1,0,none⟩) (by simp)).trans (by simp [go_sem])
 have z1:w.heap.size + 2 <= w1.heap.size:=by have:=hb1.size; simp at this; omega
 clear hb1
 go_wp2_with fail
 refine (zCu bn offn cn ns _ hmn ((zA HWN).below bel1 hBn) (zA HZN) (by omega)).mono ?_
 rintro e w2 ⟨⟨v,rfl,hv⟩,hb2⟩
 have HV:=zB hv
 have bel2:=bel1.trans (hb2.mono bel1.size)
 have e0:=(hb2.cell (p:=⟨w.heap.size,0,none⟩) (show w.heap.size < w1.heap.size by omega)).trans c0
 have e1:=(hb2.cell (p:=⟨w.heap.size + 1,0,none⟩) (show w.heap.size + 1 < w1.heap.size by omega)).trans c1
 have z2:w.heap.size + 2 <= w2.heap.size:=Nat.le_trans z1 hb2.size
 clear hb2 hv c0 c1 bel1 z1
 cases v
 ·go_wp2_with fail
  go_ret
  exact ⟨⟨_,rfl,zJ (fun h=>Bool.false_ne_true ((zA HV).2 h.1))⟩,bel2⟩
 have HO:=zB ((zA HV).1 rfl)
 clear HV
 have HCS:=zB (show Cs [(w.heap.size,0,.slice (some ⟨b,off,none⟩) xs.length cap),(w.heap.size + 1,0,.slice (some ⟨bn,offn,none⟩) ns.length cn)] w2 from fun p hp=>by
  simp only [List.mem_cons,List.not_mem_nil,or_false] at hp
  rcases hp with rfl | rfl
  ·exact e0
  ·exact e1)
 go_wp2_with fail
 go_loopw [5] (fun iv wr=>∃ k:Nat,k <= ns.length /\ iv = .int .i64 (k:Int) /\ Hid (∀ i,i < k -> zn (atN ns i) -> fnd xs (atN ns i).t ((atN ns i).k - 2) ≠ none) /\ Hid (Cs [(w.heap.size,0,.slice (some ⟨b,off,none⟩) xs.length cap),(w.heap.size + 1,0,.slice (some ⟨bn,offn,none⟩) ns.length cn)] wr) /\ Below w.heap.size w wr) (fun iv _=>ns.length - (intOf iv).toNat)
 case atStart=>exact ⟨0,Nat.zero_le _,rfl,zB (fun i hi=>absurd hi (Nat.not_lt_zero i)),HCS,bel2⟩
 case round=>
  clear HCS e0 e1 bel2 z2
  obtain ⟨k,hk,rfl,hkn,hcs,hbel⟩:=hrel
  have c0:=(zA hcs) (w.heap.size,0,.slice (some ⟨b,off,none⟩) xs.length cap) (by simp)
  have c1:=(zA hcs) (w.heap.size + 1,0,.slice (some ⟨bn,offn,none⟩) ns.length cn) (by simp)
  simp only at c0 c1
  by_cases hlt:k < ns.length
  ·have hltI:(k:Int) < (ns.length:Int):=by omega
   obtain ⟨a0,a1,a2,a3⟩:=((zA HWN) k hlt).below hbel hBn
   have HC1:=zB ((zA hcs).below (zC wr (.cells #[.int .i64 (atN ns k).k,.string (atN ns k).t,.int .i64 (atN ns k).a,.int .i64 (atN ns k).b] 81)))
   have bel1:Below w.heap.size w (wr.alloc (.cells #[.int .i64 (atN ns k).k,.string (atN ns k).t,.int .i64 (atN ns k).a,.int .i64 (atN ns k).b] 81)):=hbel.alloc hbel.size _
   by_cases ho:zn (atN ns k)
   ·have HD:=zB (show true = decide (3 <= (atN ns k).k /\ (atN ns k).k <= 5) by rw [eq_comm,decide_eq_true_iff]; exact ho)
    have h3:=ho.1
    have h5:=ho.2
    have HOP:=zB ho
    clear ho
    go_wp2_with fail
    refine (Zt (atN ns k) _ true (zA HD)).mono ?_
    rintro e w3 ⟨rfl,hb3⟩
    have HC3:=zB ((zA HC1).below hb3)
    have bel3:=bel1.trans (hb3.mono bel1.size)
    have n0:w3.cell? ⟨wr.heap.size,0,none⟩ = some (.int .i64 (atN ns k).k):=(hb3.cell (p:=⟨wr.heap.size,0,none⟩) (by simp)).trans (by simp [go_sem])
    have n1:w3.cell? ⟨wr.heap.size,1,none⟩ = some (.string (atN ns k).t):=(hb3.cell (p:=⟨wr.heap.size,1,none⟩) (by simp)).trans (by simp [go_sem])
    have d0:=(zA HC3) (w.heap.size,0,.slice (some ⟨b,off,none⟩) xs.length cap) (by simp)
    simp only at d0
    have hwr:IntKind.i64.wrap ((atN ns k).k - 2) = (atN ns k).k - 2:=by rw [IntKind.wrap_i64]; omega
    clear hb3 c0 c1
    cases hf:fnd xs (atN ns k).t ((atN ns k).k - 2) with
    | none=>
     have HF:=zB hf
     have HFI:=zB (show fI (fnd xs (atN ns k).t ((atN ns k).k - 2)) = -1 by rw [hf]; rfl)
     clear hf
     go_wp2_with fail
     refine (zEA b off cap xs (atN ns k).t ((atN ns k).k - 2) _ hm ((zA HW).below bel3 hB) (Nat.lt_of_lt_of_le hB bel3.size)).mono ?_
     rw [zA HFI]
     rintro e w4 ⟨rfl,hb4⟩
     go_wp2_with fail
     go_ret
     exact ⟨⟨_,rfl,zJ (fun h=>h.2 k hlt (zA HOP) (zA HF))⟩,bel3.trans (hb4.mono bel3.size)⟩
    | some j=>
     have HF:=zB hf
     have HFI:=zB (show fI (fnd xs (atN ns k).t ((atN ns k).k - 2)) = (j:Int) by rw [hf]; rfl)
     clear hf
     go_wp2_with fail
     refine (zEA b off cap xs (atN ns k).t ((atN ns k).k - 2) _ hm ((zA HW).below bel3 hB) (Nat.lt_of_lt_of_le hB bel3.size)).mono ?_
     rw [zA HFI]
     rintro e w4 ⟨rfl,hb4⟩
     have hj0:¬ (j:Int) < 0:=by omega
     go_wp2_with fail
     refine ⟨⟨k + 1,by omega,by go_num,zB (fun i hi hop=>?_),zB ((zA HC3).below hb4),bel3.trans (hb4.mono bel3.size)⟩,by simp [intOf]; omega⟩
     by_cases e:i = k
     ·subst e; rw [zA HF]; simp
     ·exact (zA hkn) i (by omega) hop
   ·have HD:=zB (show false = decide (3 <= (atN ns k).k /\ (atN ns k).k <= 5) by rw [eq_comm,decide_eq_false_iff_not]; exact ho)
    have HOP:=zB ho
    clear ho
    go_wp2_with fail
    refine (Zt (atN ns k) _ false (zA HD)).mono ?_
    rintro e w3 ⟨rfl,hb3⟩
    go_wp2_with fail
    refine ⟨⟨k + 1,by omega,by go_num,zB (fun i hi hop=>?_),zB ((zA HC1).below hb3),bel1.trans (hb3.mono bel1.size)⟩,by simp [intOf]; omega⟩
    by_cases e:i = k
    ·subst e; exact absurd hop (zA HOP)
    ·exact (zA hkn) i (by omega) hop
  ·have hkx:k = ns.length:=by omega
   go_wp2_with fail
   go_ret
   exact ⟨⟨_,rfl,ZR ⟨zA HO,fun i hi hop=>(zA hkn) i (by omega) hop⟩⟩,hbel⟩
end Go.Proofs.YtfboipappaonhaaGreat
