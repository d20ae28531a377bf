import Derived.Deep.RegionHeldLaw
import Derived.BigQuiet
import Derived.Test.YtfboipappaonhaaGreatP03
import Derived.Test.YtfboipappaonhaaGreatP09
import Derived.Test.YtfboipappaonhaaGreatP11
import Derived.Test.YtfboipappaonhaaGreatP12
import Derived.Test.YtfboipappaonhaaGreatP14
namespace Go.Proofs.YtfboipappaonhaaGreat
set_option linter.unusedSimpArgs false
set_option linter.unusedVariables false
set_option maxHeartbeats 16000000
set_option maxRecDepth 100000
open Go.RowKit
theorem zF5 {w:World} {B b o:Nat} {v0 v1 v2 v3 u:Value} (hne:B ≠ b) (h:w.cell? ⟨b,o,none⟩ = some u):((((w.setCell ⟨B,0,none⟩ v0).setCell ⟨B,1,none⟩ v1).setCell ⟨B,2,none⟩ v2).setCell ⟨B,3,none⟩ v3).cell? ⟨b,o,none⟩ = some u:=by
 rw [World.cell?_setCell_far _ _ _ _ hne,World.cell?_setCell_far _ _ _ _ hne,World.cell?_setCell_far _ _ _ _ hne,World.cell?_setCell_far _ _ _ _ hne]
 exact h
def fI:Option Nat -> Int
 | some j=>(j:Int)
 | none=>-1
theorem zDZ (b off cap:Nat) (xs:List OpR) (t:ByteArray) (kd:Int) (w:World) (hm:xs.length <= 1048576) (hw:Ops w b off xs) (hB:b < w.heap.size) :
  Calls Tryz.prog 97 #[.agg #[.slice (some ⟨b,off,none⟩) xs.length cap],.string t,.int .i64 kd] w fun e w'=>e = .returned (.int .i64 (fI (fnd xs t kd))) /\ Below w.heap.size w w':=by
 go_enter Tryz.func97,Tryz.ntmps97
 go_wp2
 have hops:Ops (w.alloc (.cells #[.slice (some ⟨b,off,none⟩) xs.length cap] 25)) b off xs:=hw.below (zC _ _) hB
 have HO:=zB hops
 clear hops hw
 go_loop [7] (fun i=>∃ k:Nat,k <= xs.length /\ i = .int .i64 k /\ Hid (∀ j,j < k -> ¬ ((atO xs j).s = t /\ (atO xs j).k = kd))) (fun i=>xs.length - (intOf i).toNat)
 case atStart=>exact ⟨0,Nat.zero_le _,rfl,zB (fun j h=>by omega)⟩
 case round=>
  obtain ⟨k,hk,rfl,hn⟩:=hrel
  by_cases hlt:k < xs.length
  ·obtain ⟨a0,a1,a2,a3⟩:=(zA HO) k hlt
   have hnx:=zB (show ∀ (_:¬ ((atO xs k).s = t /\ (atO xs k).k = kd)),∀ j,j < k + 1 -> ¬ ((atO xs j).s = t /\ (atO xs j).k = kd) from fun hne j hj=>by
    by_cases e:j = k
    ·subst e; exact hne
    ·exact (zA hn) j (by omega))
   go_wp2
   ·rename_i hs1 hk1 _
    go_ret
    refine ⟨zF ?_,zC _ _⟩
    rw [zK1 hlt (zA hn) ⟨zDT hs1,by simpa using hk1⟩]
    rfl
   ·refine ⟨⟨k + 1,by omega,by go_num,zB ((zA hnx) ?_)⟩,by simp [intOf]; omega⟩
    rintro ⟨_,h⟩
    simp_all
   ·refine ⟨⟨k + 1,by omega,by go_num,zB ((zA hnx) ?_)⟩,by simp [intOf]; omega⟩
    rintro ⟨h,_⟩
    simp_all
  ·go_wp2
   go_ret
   refine ⟨zF ?_,zC _ _⟩
   rw [zKR (fun j hj=>(zA hn) j (by omega))]
   rfl
theorem zAB (o:zD) (w:World) (v:Bool) (hv:v = decide (3 <= o.k /\ o.k <= 5)) :
  Calls Tryz.prog 65 #[.agg #[.int .i64 o.k,.string o.t,.int .i64 o.a,.int .i64 o.b]] w fun e w'=>e = .returned (.bool v) /\ Below w.heap.size w w':=by
 by_cases h3:3 <= o.k
 ·by_cases h5:o.k <= 5
  ·have HV:=zB (show v = true by rw [hv]; simp [h3,h5])
   clear hv
   go_enter Tryz.func65,Tryz.ntmps65
   go_wp2
   go_ret
   exact ⟨zf (zA HV).symm,zC _ _⟩
  ·have HV:=zB (show v = false by rw [hv]; simp [h5])
   clear hv
   go_enter Tryz.func65,Tryz.ntmps65
   go_wp2
   go_ret
   exact ⟨zf (zA HV).symm,zC _ _⟩
 ·have HV:=zB (show v = false by rw [hv]; simp [h3])
  clear hv
  go_enter Tryz.func65,Tryz.ntmps65
  go_wp2
  go_ret
  exact ⟨zf (zA HV).symm,zC _ _⟩
theorem zCz (b off cap:Nat) (xs:List OpR) (o:zD) (j:Nat) (w:World) (hm:xs.length <= 1048576) (hw:Ops w b off xs) (hB:b < w.heap.size) (h3:3 <= o.k) (h5:o.k <= 5) (hf:fnd xs o.t (o.k - 2) = some j) :
  Calls Tryz.prog 98 #[.agg #[.slice (some ⟨b,off,none⟩) xs.length cap],.agg #[.int .i64 o.k,.string o.t,.int .i64 o.a,.int .i64 o.b]] w fun e w'=>e = .returned (.agg #[.string (atO xs j).s,.int .i64 (atO xs j).k,.int .i64 (atO xs j).l,.int .i64 (atO xs j).sd]) /\ Below w.heap.size w w':=by
 have hj:=(ZW hf).1
 have hjI:(j:Int) < (xs.length:Int):=by omega
 have HFI:=zB (show fI (fnd xs o.t (o.k - 2)) = (j:Int) by rw [hf]; rfl)
 have HW:=zB hw
 clear hw hf
 have HW3:=zB (show ∀ o1 o2 o3:Obj,zAf (((w.alloc o1).alloc o2).alloc o3).drew b off xs j from fun o1 o2 o3=>((zA HW) j hj).below ((((zC w o1).alloc (by simp) o2).alloc (by simp; omega) o3).drew) hB)
 go_enter Tryz.func98,Tryz.ntmps98
 go_wp2_with fail
 obtain ⟨r0,r1,r2,r3⟩:=(zA HW3) (.cells #[.slice (some ⟨b,off,none⟩) xs.length cap] 25) (.cells #[.int .i64 o.k,.string o.t,.int .i64 o.a,.int .i64 o.b] 81) (.cells #[.string ⟨#[]⟩,.int .i64 0,.int .i64 0,.int .i64 0] 123)
 have HB3:=zB (show ∀ o1 o2 o3:Obj,Below w.heap.size w (((w.alloc o1).alloc o2).alloc o3).drew from fun o1 o2 o3=>(((zC w o1).alloc (by simp) o2).alloc (by simp; omega) o3).drew)
 have hbn1:b ≠ w.heap.size + 1 + 1:=by omega
 have hbn2:w.heap.size + 1 + 1 ≠ b:=by omega
 have HWR:=zB (show IntKind.i64.wrap (o.k - 2) = o.k - 2 by rw [IntKind.wrap_i64]; omega)
 have HSZ:=zB (show ((((w.alloc (.cells #[.slice (some ⟨b,off,none⟩) xs.length cap] 25)).alloc (.cells #[.int .i64 o.k,.string o.t,.int .i64 o.a,.int .i64 o.b] 81)).alloc (.cells #[.string ⟨#[]⟩,.int .i64 0,.int .i64 0,.int .i64 0] 123)).drew).heap.size = w.heap.size + 3 from (show (((w.alloc (.cells #[.slice (some ⟨b,off,none⟩) xs.length cap] 25)).alloc (.cells #[.int .i64 o.k,.string o.t,.int .i64 o.a,.int .i64 o.b] 81)).alloc (.cells #[.string ⟨#[]⟩,.int .i64 0,.int .i64 0,.int .i64 0] 123)).heap.size = w.heap.size + 3 by simp))
 have HLT:=zB (show b < ((((w.alloc (.cells #[.slice (some ⟨b,off,none⟩) xs.length cap] 25)).alloc (.cells #[.int .i64 o.k,.string o.t,.int .i64 o.a,.int .i64 o.b] 81)).alloc (.cells #[.string ⟨#[]⟩,.int .i64 0,.int .i64 0,.int .i64 0] 123)).drew).heap.size by rw [zA HSZ]; omega)
 have HL0:=zB (show w.heap.size < ((((w.alloc (.cells #[.slice (some ⟨b,off,none⟩) xs.length cap] 25)).alloc (.cells #[.int .i64 o.k,.string o.t,.int .i64 o.a,.int .i64 o.b] 81)).alloc (.cells #[.string ⟨#[]⟩,.int .i64 0,.int .i64 0,.int .i64 0] 123)).drew).heap.size by rw [zA HSZ]; omega)
 have HL1:=zB (show w.heap.size + 1 < ((((w.alloc (.cells #[.slice (some ⟨b,off,none⟩) xs.length cap] 25)).alloc (.cells #[.int .i64 o.k,.string o.t,.int .i64 o.a,.int .i64 o.b] 81)).alloc (.cells #[.string ⟨#[]⟩,.int .i64 0,.int .i64 0,.int .i64 0] 123)).drew).heap.size by rw [zA HSZ]; omega)
 have HL2:=zB (show w.heap.size + 1 + 1 < ((((w.alloc (.cells #[.slice (some ⟨b,off,none⟩) xs.length cap] 25)).alloc (.cells #[.int .i64 o.k,.string o.t,.int .i64 o.a,.int .i64 o.b] 81)).alloc (.cells #[.string ⟨#[]⟩,.int .i64 0,.int .i64 0,.int .i64 0] 123)).drew).heap.size by rw [zA HSZ]; omega)
 have HLW:=zB (show w.heap.size <= ((((w.alloc (.cells #[.slice (some ⟨b,off,none⟩) xs.length cap] 25)).alloc (.cells #[.int .i64 o.k,.string o.t,.int .i64 o.a,.int .i64 o.b] 81)).alloc (.cells #[.string ⟨#[]⟩,.int .i64 0,.int .i64 0,.int .i64 0] 123)).drew).heap.size by rw [zA HSZ]; omega)
 have HC0:=zB (show ((((w.alloc (.cells #[.slice (some ⟨b,off,none⟩) xs.length cap] 25)).alloc (.cells #[.int .i64 o.k,.string o.t,.int .i64 o.a,.int .i64 o.b] 81)).alloc (.cells #[.string ⟨#[]⟩,.int .i64 0,.int .i64 0,.int .i64 0] 123)).drew).cell? ⟨w.heap.size,0,none⟩ = some (.slice (some ⟨b,off,none⟩) xs.length cap) /\ ((((w.alloc (.cells #[.slice (some ⟨b,off,none⟩) xs.length cap] 25)).alloc (.cells #[.int .i64 o.k,.string o.t,.int .i64 o.a,.int .i64 o.b] 81)).alloc (.cells #[.string ⟨#[]⟩,.int .i64 0,.int .i64 0,.int .i64 0] 123)).drew).cell? ⟨w.heap.size + 1,0,none⟩ = some (.int .i64 o.k) /\ ((((w.alloc (.cells #[.slice (some ⟨b,off,none⟩) xs.length cap] 25)).alloc (.cells #[.int .i64 o.k,.string o.t,.int .i64 o.a,.int .i64 o.b] 81)).alloc (.cells #[.string ⟨#[]⟩,.int .i64 0,.int .i64 0,.int .i64 0] 123)).drew).cell? ⟨w.heap.size + 1,1,none⟩ = some (.string o.t) from
  (show (((w.alloc (.cells #[.slice (some ⟨b,off,none⟩) xs.length cap] 25)).alloc (.cells #[.int .i64 o.k,.string o.t,.int .i64 o.a,.int .i64 o.b] 81)).alloc (.cells #[.string ⟨#[]⟩,.int .i64 0,.int .i64 0,.int .i64 0] 123)).cell? ⟨w.heap.size,0,none⟩ = some (.slice (some ⟨b,off,none⟩) xs.length cap) /\ (((w.alloc (.cells #[.slice (some ⟨b,off,none⟩) xs.length cap] 25)).alloc (.cells #[.int .i64 o.k,.string o.t,.int .i64 o.a,.int .i64 o.b] 81)).alloc (.cells #[.string ⟨#[]⟩,.int .i64 0,.int .i64 0,.int .i64 0] 123)).cell? ⟨w.heap.size + 1,0,none⟩ = some (.int .i64 o.k) /\ (((w.alloc (.cells #[.slice (some ⟨b,off,none⟩) xs.length cap] 25)).alloc (.cells #[.int .i64 o.k,.string o.t,.int .i64 o.a,.int .i64 o.b] 81)).alloc (.cells #[.string ⟨#[]⟩,.int .i64 0,.int .i64 0,.int .i64 0] 123)).cell? ⟨w.heap.size + 1,1,none⟩ = some (.string o.t) from ⟨by simp [go_sem],by simp [go_sem],by simp [go_sem]⟩))
 have HC2:=zB (show (((((w.alloc (.cells #[.slice (some ⟨b,off,none⟩) xs.length cap] 25)).alloc (.cells #[.int .i64 o.k,.string o.t,.int .i64 o.a,.int .i64 o.b] 81)).alloc (.cells #[.string ⟨#[]⟩,.int .i64 0,.int .i64 0,.int .i64 0] 123)).drew).cell? ⟨w.heap.size + 1 + 1,0,none⟩ = some (.string ⟨#[]⟩) /\ ((((w.alloc (.cells #[.slice (some ⟨b,off,none⟩) xs.length cap] 25)).alloc (.cells #[.int .i64 o.k,.string o.t,.int .i64 o.a,.int .i64 o.b] 81)).alloc (.cells #[.string ⟨#[]⟩,.int .i64 0,.int .i64 0,.int .i64 0] 123)).drew).cell? ⟨w.heap.size + 1 + 1,1,none⟩ = some (.int .i64 0) /\ ((((w.alloc (.cells #[.slice (some ⟨b,off,none⟩) xs.length cap] 25)).alloc (.cells #[.int .i64 o.k,.string o.t,.int .i64 o.a,.int .i64 o.b] 81)).alloc (.cells #[.string ⟨#[]⟩,.int .i64 0,.int .i64 0,.int .i64 0] 123)).drew).cell? ⟨w.heap.size + 1 + 1,2,none⟩ = some (.int .i64 0) /\ ((((w.alloc (.cells #[.slice (some ⟨b,off,none⟩) xs.length cap] 25)).alloc (.cells #[.int .i64 o.k,.string o.t,.int .i64 o.a,.int .i64 o.b] 81)).alloc (.cells #[.string ⟨#[]⟩,.int .i64 0,.int .i64 0,.int .i64 0] 123)).drew).cell? ⟨w.heap.size + 1 + 1,3,none⟩ = some (.int .i64 0)) /\ ∀ q,((((w.alloc (.cells #[.slice (some ⟨b,off,none⟩) xs.length cap] 25)).alloc (.cells #[.int .i64 o.k,.string o.t,.int .i64 o.a,.int .i64 o.b] 81)).alloc (.cells #[.string ⟨#[]⟩,.int .i64 0,.int .i64 0,.int .i64 0] 123)).drew).frozen? ⟨w.heap.size + 1 + 1,q,none⟩ = false from
  (show ((((w.alloc (.cells #[.slice (some ⟨b,off,none⟩) xs.length cap] 25)).alloc (.cells #[.int .i64 o.k,.string o.t,.int .i64 o.a,.int .i64 o.b] 81)).alloc (.cells #[.string ⟨#[]⟩,.int .i64 0,.int .i64 0,.int .i64 0] 123)).cell? ⟨w.heap.size + 1 + 1,0,none⟩ = some (.string ⟨#[]⟩) /\ (((w.alloc (.cells #[.slice (some ⟨b,off,none⟩) xs.length cap] 25)).alloc (.cells #[.int .i64 o.k,.string o.t,.int .i64 o.a,.int .i64 o.b] 81)).alloc (.cells #[.string ⟨#[]⟩,.int .i64 0,.int .i64 0,.int .i64 0] 123)).cell? ⟨w.heap.size + 1 + 1,1,none⟩ = some (.int .i64 0) /\ (((w.alloc (.cells #[.slice (some ⟨b,off,none⟩) xs.length cap] 25)).alloc (.cells #[.int .i64 o.k,.string o.t,.int .i64 o.a,.int .i64 o.b] 81)).alloc (.cells #[.string ⟨#[]⟩,.int .i64 0,.int .i64 0,.int .i64 0] 123)).cell? ⟨w.heap.size + 1 + 1,2,none⟩ = some (.int .i64 0) /\ (((w.alloc (.cells #[.slice (some ⟨b,off,none⟩) xs.length cap] 25)).alloc (.cells #[.int .i64 o.k,.string o.t,.int .i64 o.a,.int .i64 o.b] 81)).alloc (.cells #[.string ⟨#[]⟩,.int .i64 0,.int .i64 0,.int .i64 0] 123)).cell? ⟨w.heap.size + 1 + 1,3,none⟩ = some (.int .i64 0)) /\ ∀ q,(((w.alloc (.cells #[.slice (some ⟨b,off,none⟩) xs.length cap] 25)).alloc (.cells #[.int .i64 o.k,.string o.t,.int .i64 o.a,.int .i64 o.b] 81)).alloc (.cells #[.string ⟨#[]⟩,.int .i64 0,.int .i64 0,.int .i64 0] 123)).frozen? ⟨w.heap.size + 1 + 1,q,none⟩ = false from ⟨⟨by simp [go_sem],by simp [go_sem],by simp [go_sem],by simp [go_sem]⟩,fun q=>by simp [go_sem]⟩))
 go_region_held (fun w'=>w'.cell? ⟨w.heap.size,0,none⟩ = some (.slice (some ⟨b,off,none⟩) xs.length cap) /\ w'.cell? ⟨w.heap.size + 1,0,none⟩ = some (.int .i64 o.k) /\ w'.cell? ⟨w.heap.size + 1,1,none⟩ = some (.string o.t) /\ w'.cell? ⟨b,off + j * 4,none⟩ = some (.string (atO xs j).s) /\ w'.cell? ⟨b,off + j * 4 + 1,none⟩ = some (.int .i64 (atO xs j).k) /\ w'.cell? ⟨b,off + j * 4 + 2,none⟩ = some (.int .i64 (atO xs j).l) /\ w'.cell? ⟨b,off + j * 4 + 3,none⟩ = some (.int .i64 (atO xs j).sd)) (first | (go_keep; done) | (refine ⟨zF5 (by omega) ?_,zF5 (by omega) ?_,zF5 (by omega) ?_,zF5 (by omega) ?_,zF5 (by omega) ?_,zF5 (by omega) ?_,zF5 (by omega) ?_⟩ <;> simp [*]))
  (first | (go_at_call 97; have HX:=zDZ b off cap xs o.t (o.k - 2) (((w.alloc (.cells #[.slice (some ⟨b,off,none⟩) xs.length cap] 25)).alloc (.cells #[.int .i64 o.k,.string o.t,.int .i64 o.a,.int .i64 o.b] 81)).alloc (.cells #[.string ⟨#[]⟩,.int .i64 0,.int .i64 0,.int .i64 0] 123)).drew hm ((zA HW).below ((zA HB3) _ _ _) hB) (zA HLT); rw [zA HFI] at HX; rw [zA HWR]; refine HX.mono ?_; clear HX; rintro e w2 ⟨rfl,hb2⟩; have q0:=(hb2.cell (p:=⟨w.heap.size,0,none⟩) (zA HL0)).trans (zA HC0).1; have q1:=(hb2.cell (p:=⟨w.heap.size + 1,0,none⟩) (zA HL1)).trans (zA HC0).2.1; have q2:=(hb2.cell (p:=⟨w.heap.size + 1,1,none⟩) (zA HL1)).trans (zA HC0).2.2; have s0:=(hb2.cell (p:=⟨b,off + j * 4,none⟩) (zA HLT)).trans r0; have s1:=(hb2.cell (p:=⟨b,off + j * 4 + 1,none⟩) (zA HLT)).trans r1; have s2:=(hb2.cell (p:=⟨b,off + j * 4 + 2,none⟩) (zA HLT)).trans r2; have s3:=(hb2.cell (p:=⟨b,off + j * 4 + 3,none⟩) (zA HLT)).trans r3; have t0:=(hb2.cell (p:=⟨w.heap.size + 1 + 1,0,none⟩) (zA HL2)).trans (zA HC2).1.1; have t1:=(hb2.cell (p:=⟨w.heap.size + 1 + 1,1,none⟩) (zA HL2)).trans (zA HC2).1.2.1; have t2:=(hb2.cell (p:=⟨w.heap.size + 1 + 1,2,none⟩) (zA HL2)).trans (zA HC2).1.2.2.1; have t3:=(hb2.cell (p:=⟨w.heap.size + 1 + 1,3,none⟩) (zA HL2)).trans (zA HC2).1.2.2.2; have u0:=(hb2.frozen (p:=⟨w.heap.size + 1 + 1,0,none⟩) (zA HL2)).trans ((zA HC2).2 0); have u1:=(hb2.frozen (p:=⟨w.heap.size + 1 + 1,1,none⟩) (zA HL2)).trans ((zA HC2).2 1); have u2:=(hb2.frozen (p:=⟨w.heap.size + 1 + 1,2,none⟩) (zA HL2)).trans ((zA HC2).2 2); have u3:=(hb2.frozen (p:=⟨w.heap.size + 1 + 1,3,none⟩) (zA HL2)).trans ((zA HC2).2 3); have B2:=zB (((zA HB3) _ _ _).trans (hb2.mono (zA HLW))); clear hb2))
 go_wp2
 refine bodyPost_ret (v:=.agg #[.string (atO xs j).s,.int .i64 (atO xs j).k,.int .i64 (atO xs j).l,.int .i64 (atO xs j).sd]) ?res rfl ⟨rfl,?_⟩
 case res=>simp [results,Tryz.results98,go_sem,t0,t1,t2,t3]
 exact zAJ (show w.heap.size <= w.heap.size + 1 + 1 by omega) [.string (atO xs j).s,.int .i64 (atO xs j).k,.int .i64 (atO xs j).l,.int .i64 (atO xs j).sd] 0 w2 (zA B2)
theorem zF6 (W:World) (s:ByteArray) (k l sd:Int):(Instr.field 123 (.agg #[.string s,.int .i64 k,.int .i64 l,.int .i64 sd]) 2).run Tryz.prog W = .ok (.int .i64 l) W:=by kernel_rfl
theorem zNa {xs:List OpR} {o:zD} {j:Nat} (h3:3 <= o.k) (h5:o.k <= 5) (hf:fnd xs o.t (o.k - 2) = some j):ZX xs o = (atO xs j).l:=by
 unfold ZX
 rw [if_pos ⟨h3,h5⟩,hf]
theorem zMD {xs:List OpR} {o:zD} (h:¬ (3 <= o.k /\ o.k <= 5)):ZX xs o = 1001:=by
 unfold ZX
 rw [if_neg h]
theorem zAw (b off cap:Nat) (xs:List OpR) (o:zD) (w:World) (hm:xs.length <= 1048576) (hw:Ops w b off xs) (hB:b < w.heap.size) (hkn:3 <= o.k -> o.k <= 5 -> fnd xs o.t (o.k - 2) ≠ none) :
  Calls Tryz.prog 100 #[.agg #[.slice (some ⟨b,off,none⟩) xs.length cap],.agg #[.int .i64 o.k,.string o.t,.int .i64 o.a,.int .i64 o.b]] w fun e w'=>e = .returned (.int .i64 (ZX xs o)) /\ Below w.heap.size w w':=by
 by_cases hop:3 <= o.k /\ o.k <= 5
 ·obtain ⟨h3,h5⟩:=hop
  cases hf:fnd xs o.t (o.k - 2) with
  | none=>exact absurd hf (hkn h3 h5)
  | some j=>
   have HL:=zB (zNa h3 h5 hf)
   have HW:=zB hw
   have HF:=zB hf
   have HD:=zB (show true = decide (3 <= o.k /\ o.k <= 5) by simp [h3,h5])
   clear hw hf hkn
   go_enter Tryz.func100,Tryz.ntmps100
   go_wp2_with fail
   refine (zAB o _ true (zA HD)).mono ?_
   rintro e w1 ⟨rfl,hb1⟩
   have bel1:Below w.heap.size w w1:=((zC _ _).alloc (by simp) _).trans (hb1.mono (by simp; omega))
   have c0:w1.cell? ⟨w.heap.size,0,none⟩ = some (.slice (some ⟨b,off,none⟩) xs.length cap):=(hb1.cell (p:=⟨w.heap.size,0,none⟩) (by simp; omega)).trans (by simp [go_sem])
   have d0:w1.cell? ⟨w.heap.size + 1,0,none⟩ = some (.int .i64 o.k):=(hb1.cell (p:=⟨w.heap.size + 1,0,none⟩) (by simp)).trans (by simp [go_sem])
   have d1:w1.cell? ⟨w.heap.size + 1,1,none⟩ = some (.string o.t):=(hb1.cell (p:=⟨w.heap.size + 1,1,none⟩) (by simp)).trans (by simp [go_sem])
   have d2:w1.cell? ⟨w.heap.size + 1,2,none⟩ = some (.int .i64 o.a):=(hb1.cell (p:=⟨w.heap.size + 1,2,none⟩) (by simp)).trans (by simp [go_sem])
   have d3:w1.cell? ⟨w.heap.size + 1,3,none⟩ = some (.int .i64 o.b):=(hb1.cell (p:=⟨w.heap.size + 1,3,none⟩) (by simp)).trans (by simp [go_sem])
   have hB1:b < w1.heap.size:=Nat.lt_of_lt_of_le hB bel1.size
   clear hb1
   go_wp2_with fail
   refine (zCz b off cap xs o j _ hm ((zA HW).below bel1 hB) hB1 h3 h5 (zA HF)).mono ?_
   rintro e w2 ⟨rfl,hb2⟩
   have hfld:=zF6
   go_wp2
   go_ret
   exact ⟨zF (zA HL).symm,bel1.trans (hb2.mono bel1.size)⟩
 ·have HL:=zB (zMD (xs:=xs) hop)
  have HD:=zB (show false = decide (3 <= o.k /\ o.k <= 5) by simp [hop])
  clear hw hop hkn
  go_enter Tryz.func100,Tryz.ntmps100
  go_wp2_with fail
  refine (zAB o _ false (zA HD)).mono ?_
  rintro e w1 ⟨rfl,hb1⟩
  go_wp2_with fail
  go_ret
  exact ⟨zF (zA HL).symm,((zC _ _).alloc (by simp) _).trans (hb1.mono (by simp; omega))⟩
end Go.Proofs.YtfboipappaonhaaGreat
namespace Go.Proofs.YtfboipappaonhaaGreat
set_option linter.unusedSimpArgs false
set_option linter.unusedVariables false
set_option maxHeartbeats 16000000
set_option maxRecDepth 100000
open Go.RowKit
def Cs (cs:List (Nat × Nat × Value)) (w:World):Prop:=∀ p ∈ cs,w.cell? ⟨p.1,p.2.1,none⟩ = some p.2.2
theorem Cs.below {cs:List (Nat × Nat × Value)} {w w':World} (h:Cs cs w) (hb:Below w.heap.size w w'):Cs cs w':=
 fun p hp=>(hb.cell (p:=⟨p.1,p.2.1,none⟩) (block_lt_of_cell (h p hp))).trans (h p hp)
theorem zF7 {B:Nat} {a w w':World} (h:Below B a w) (h1:w'.os = w.os) (h2:w'.tape = w.tape) (h3:w'.output = w.output) (h4:w'.heap = w.heap):Below B a w':=
 ⟨h1.trans h.os,h2.trans h.tape,h3.trans h.output,by rw [h4]; exact h.size,fun i hi=>by rw [h4]; exact h.block i hi⟩
theorem zME {xs:List OpR} {ns:List zD} {i:Nat} (h:¬ ZD (atN ns i)):zA0 xs ns i:=fun j ho=>absurd ho h
theorem zEN {xs:List OpR} {ns:List zD} {i j:Nat} (ho:ZD (atN ns i)) (hf:fnd xs (atN ns i).t ((atN ns i).k - 2) = some j) :
  zA0 xs ns i ↔ zA6 xs j false <= ZX xs (atN ns (atN ns i).a.toNat) /\ (zR (atN ns i).k = 1 \/ zA6 xs j true <= ZX xs (atN ns (atN ns i).b.toNat)):=by
 constructor
 ·intro h; exact h j ho hf
 ·intro h j' _ hf'
  rw [hf] at hf'
  injection hf' with hf'
  subst hf'
  exact h
def hT:ET -> Nat
 | .nil=>0
 | .node _ _ _ l r=>1 + max (hT l) (hT r)
theorem zIy:∀ T:ET,hT T <= tsz T
 | .nil=>Nat.le_refl _
 | .node _ _ _ l r=>by
  have:=zIy l
  have:=zIy r
  simp only [hT,tsz]
  omega
def zB5 (e:Value) (h:Nat):Prop:=∃ T v f r,e = .iface T v /\ (∀ w,(method 342 T v "loop.example/s0059/impl.height").run Tryz.prog w = .ok (f,r) w) /\ (∀ a w,(callFunc f a).run Tryz.prog w = .ok (.enter f a) w) /\
 ∀ w,Calls Tryz.prog f #[r] w fun x w'=>x = .returned (.int .i64 (h:Int)) /\ Below w.heap.size w w'
theorem zFC (t:ByteArray) (w:World):Calls Tryz.prog 186 #[.agg #[.string t]] w fun x w'=>x = .returned (.int .i64 ((1:Nat):Int)) /\ Below w.heap.size w w':=by
 go_enter Tryz.func186,Tryz.ntmps186
 go_wp2_with fail
 go_ret
 exact ⟨rfl,by first | exact zC _ _ | exact Below.refl _ _⟩
theorem zCW {e:Value} {h:Nat} (he:zB5 e h) (hh:h <= 100000) (w:World):Calls Tryz.prog 190 #[.agg #[e]] w fun x w'=>x = .returned (.int .i64 ((1 + h:Nat):Int)) /\ Below w.heap.size w w':=by
 obtain ⟨T,v,f,r,rfl,hme,hcf,hcall⟩:=he
 have HC:=zB hcall
 have e1:((1 + h:Nat):Int) = 1 + (h:Int):=by omega
 clear hcall
 go_enter Tryz.func190,Tryz.ntmps190
 go_wp2_with fail
 refine ((zA HC) _).mono ?_
 rintro x w1 ⟨rfl,hb1⟩
 go_wp2_with fail
 go_ret
 rw [e1]
 exact ⟨rfl,(zC _ _).trans (hb1.mono (by simp))⟩
theorem zHw {e e':Value} {h h':Nat} (p:OpR) (he:zB5 e h) (he':zB5 e' h') (hh:h <= 100000) (hh':h' <= 100000) (w:World):Calls Tryz.prog 194 #[.agg #[.string p.s,.int .i64 p.k,.int .i64 p.l,.int .i64 p.sd,e,e']] w fun x w'=>x = .returned (.int .i64 ((1 + max h h':Nat):Int)) /\ Below w.heap.size w w':=by
 obtain ⟨T,v,f,r,rfl,hme,hcf,hcall⟩:=he
 obtain ⟨T',v',f',r',rfl,hme',hcf',hcall'⟩:=he'
 have HC:=zB hcall
 have HC':=zB hcall'
 clear hcall hcall'
 go_enter Tryz.func194,Tryz.ntmps194
 go_wp2_with fail
 have HBC:=zB ((zC w (.cells #[.string p.s,.int .i64 p.k,.int .i64 p.l,.int .i64 p.sd,.iface T v,.iface T' v'] 131)).drew)
 have HSC:=zB (show Cs [(w.heap.size,4,.iface T v),(w.heap.size,5,.iface T' v')] ((w.alloc (.cells #[.string p.s,.int .i64 p.k,.int .i64 p.l,.int .i64 p.sd,.iface T v,.iface T' v'] 131)).drew) from by
  intro x hx
  simp only [List.mem_cons,List.not_mem_nil,or_false] at hx
  rcases hx with rfl | rfl
  ·simp [go_sem]
  ·simp [go_sem])
 go_region_held (fun w'=>w'.cell? ⟨w.heap.size,4,none⟩ = some (.iface T v) /\ w'.cell? ⟨w.heap.size,5,none⟩ = some (.iface T' v')) (first | (go_keep; done) | exact ⟨(zA HSC) (w.heap.size,4,.iface T v) (by simp),(zA HSC) (w.heap.size,5,.iface T' v') (by simp)⟩)
  (first | ((with_reducible refine ((zA HC) _).mono ?_); rintro x w1 ⟨rfl,hb1⟩; replace HSC:=zB ((zA HSC).below hb1); replace HBC:=zB ((zA HBC).trans (hb1.mono (zA HBC).size)); clear hb1 HC) | ((with_reducible refine ((zA HC') _).mono ?_); rintro x w1 ⟨rfl,hb1⟩; replace HSC:=zB ((zA HSC).below hb1); replace HBC:=zB ((zA HBC).trans (hb1.mono (zA HBC).size)); clear hb1 HC'))
 have e1:IntKind.i64.wrap (1 + max (h:Int) (h':Int)) = ((1 + max h h':Nat):Int):=by
  rw [IntKind.wrap_i64]
  omega
 rw [e1]
 go_wp2_with fail
 go_ret
 exact ⟨rfl,zA HBC⟩
theorem zNb (t:ByteArray):zB5 (zNJ t) 1:=⟨_,_,186,.agg #[.string t],rfl,fun w=>by kernel_rfl,fun a w=>by kernel_rfl,zFC t⟩
theorem zMF (t:ByteArray):zB5 (zKT t) 1:=⟨_,_,186,.agg #[.string t],rfl,fun w=>by kernel_rfl,fun a w=>by kernel_rfl,zFC t⟩
theorem zNc {e:Value} {h:Nat} (he:zB5 e h) (hh:h <= 100000):zB5 (zL1 e) (1 + h):=⟨_,_,190,.agg #[e],rfl,fun w=>by kernel_rfl,fun a w=>by kernel_rfl,zCW he hh⟩
theorem zNd (p:OpR) {e:Value} {h:Nat} (he:zB5 e h) (hh:h <= 100000):zB5 (zK2 p e) (1 + h):=⟨_,_,190,.agg #[e],rfl,fun w=>by kernel_rfl,fun a w=>by kernel_rfl,zCW he hh⟩
theorem zMG (p:OpR) {e:Value} {h:Nat} (he:zB5 e h) (hh:h <= 100000):zB5 (zFz p e) (1 + h):=⟨_,_,190,.agg #[e],rfl,fun w=>by kernel_rfl,fun a w=>by kernel_rfl,zCW he hh⟩
theorem zNe (p:OpR) {e e':Value} {h h':Nat} (he:zB5 e h) (he':zB5 e' h') (hh:h <= 100000) (hh':h' <= 100000):zB5 (zIo p e e') (1 + max h h'):=⟨_,_,194,_,rfl,fun w=>by kernel_rfl,fun a w=>by kernel_rfl,zHw p he he' hh hh'⟩
theorem zC0 {ns:List OpR} {b:Nat} {t:ByteArray} (hb:b = 3 \/ b = 4 \/ b = 5) (hk:knB ns (b,t) = true):sLv ns (b,t) = (opA ns (rt b t)).l:=by
 unfold knB at hk
 unfold sLv ZX opA
 have hbk:3 <= (rt b t).k /\ (rt b t).k <= 5:=by simp only [rt]; omega
 simp only [if_pos hbk]
 have e:fnd ns (rt b t).t ((rt b t).k - 2) = fnd ns t ((b:Int) - 2):=rfl
 rw [e]
 cases h:fnd ns t ((b:Int) - 2) with
 | none=>simp only [h] at hk; cases hk
 | some j=>rfl
theorem zMH (ns:List OpR):∀ T:ET,zX ns T -> hT T <= 100000 -> zB5 (exT ns T) (hT T):=by
 intro T
 induction T with
 | nil=>intro h; exact h.elim
 | node b o t l r ihl ihr=>
  intro hg hh
  simp only [hT] at hh
  rcases hg with ⟨rfl,⟨hb,rfl,rfl⟩ | ⟨rfl,rfl,hl,rfl⟩ | ⟨hb,hk,hl,rfl,_⟩ | ⟨rfl,hk,hl,hr,_⟩⟩
  ·rcases hb with rfl | rfl
   ·exact zNb t
   ·exact zMF t
  ·have:=zNc (ihl hl (by omega)) (by omega)
   have e:hT (.node 6 0 ByteArray.empty l .nil) = 1 + hT l:=by simp [hT]
   rw [e]; exact this
  ·have e:∀ b,hT (.node b 0 t l .nil) = 1 + hT l:=fun b=>by simp [hT]
   rw [e]
   rcases hb with rfl | rfl
   ·exact zNd _ (ihl hl (by omega)) (by omega)
   ·exact zMG _ (ihl hl (by omega)) (by omega)
  ·exact zNe _ (ihl hl (by omega)) (ihr hr (by omega)) (by omega) (by omega)
theorem zIz (ns:List OpR):∀ T:ET,zX ns T -> zFA (exT ns T) (lvT ns T):=by
 intro T hg
 cases T with
 | nil=>exact hg.elim
 | node b o t l r=>
  rcases hg with ⟨rfl,⟨hb,rfl,rfl⟩ | ⟨rfl,rfl,hl,rfl⟩ | ⟨hb,hk,hl,rfl,_⟩ | ⟨rfl,hk,hl,hr,_⟩⟩
  ·have e:lvT ns (.node b 0 t .nil .nil) = 1001:=zAs ns b t (by omega)
   rw [e]
   rcases hb with rfl | rfl
   ·exact zNN t
   ·exact zL6 t
  ·have e:lvT ns (.node 6 0 ByteArray.empty l .nil) = 1001:=zAs ns 6 _ (by omega)
   rw [e]
   exact zNO _
  ·have e:lvT ns (.node b 0 t l .nil) = (opA ns (rt b t)).l:=zC0 (by omega) hk
   rw [e]
   rcases hb with rfl | rfl
   ·exact zNP _ _
   ·exact zL7 _ _
  ·have e:lvT ns (.node 4 0 t l r) = (opA ns (rt 4 t)).l:=zC0 (by omega) hk
   rw [e]
   exact zNQ _ _ _
theorem zI0 {ns:List OpR} {b:Nat} {t:ByteArray} (hk:knB ns (b,t) = true):(opA ns (rt b t)).s = t:=by
 obtain ⟨j,_,hj,_,e⟩:=zEI hk
 rw [e]
 exact (ZW hj).2.1
theorem zMI (ns:List OpR):∀ T:ET,zX ns T -> zCc (exT ns T) (nd T):=by
 intro T
 induction T with
 | nil=>intro h; exact h.elim
 | node b o t l r ihl ihr=>
  intro hg
  rcases hg with ⟨rfl,⟨hb,rfl,rfl⟩ | ⟨rfl,rfl,hl,rfl⟩ | ⟨hb,hk,hl,rfl,_⟩ | ⟨rfl,hk,hl,hr,_⟩⟩
  ·rcases hb with rfl | rfl
   ·exact zNR t
   ·exact zL8 t
  ·have e:nd (.node 6 0 ByteArray.empty l .nil) = zCd (nd l) 6 ByteArray.empty:=by
    funext s
    simp [nd,zCd,tN,ze,zR,tsz]
   rw [e]
   exact zNS (ihl hl)
  ·have hs:=zI0 hk
   rcases hb with rfl | rfl
   ·have e:nd (.node 3 0 t l .nil) = zCd (nd l) 3 (opA ns (rt 3 t)).s:=by
     funext s
     simp [nd,zCd,tN,ze,zR,tsz,hs]
    rw [e]
    exact zNT (ihl hl) _
   ·have e:nd (.node 5 0 t l .nil) = zCd (nd l) 5 (opA ns (rt 5 t)).s:=by
     funext s
     simp [nd,zCd,tN,ze,zR,tsz,hs]
    rw [e]
    exact zL9 (ihl hl) _
  ·have hs:=zI0 hk
   have e:nd (.node 4 0 t l r) = zIs (nd l) (nd r) (opA ns (rt 4 t)).s:=by
    funext s
    simp [nd,zIs,tN,ze,zR,tsz,hs]
   rw [e]
   exact zNU (ihl hl) (ihr hr) _
end Go.Proofs.YtfboipappaonhaaGreat
