import Derived.DeepKeys4
import Derived.Shelf.Strings.BuilderK
import Derived.Test.YtgbkgkdpdfdokaaGreatDoorQ06
namespace Go.Proofs.YtgbkgkdpdfdokaaGreatDoor
set_option linter.all false
set_option maxHeartbeats 16000000
set_option maxRecDepth 100000
open Go.RowKit
variable {B:Nat} {G:ByteArray -> Option Value} {k:Int} {ns xs:List OpR} {s t:ByteArray} {u:Value} {us:List ByteArray} {w w':World}
theorem zGq {b o:Nat} {v0 v1 v2 v3:Value} (H:B≠b) (h:w.cell? ⟨b,o,none⟩=some u):((((w.setCell ⟨B,0,none⟩ v0).setCell ⟨B,1,none⟩ v1).setCell ⟨B,2,none⟩ v2).setCell ⟨B,3,none⟩ v3).cell? ⟨b,o,none⟩=some u:=by
 rw [World.cell?_setCell_far _ _ _ _ H,World.cell?_setCell_far _ _ _ _ H,World.cell?_setCell_far _ _ _ _ H,World.cell?_setCell_far _ _ _ _ H]
 exact h
def fI:Option Nat->Int
 | some j=>(j:Int)
 | none=>-1
theorem zDq (b H cap:Nat) (xs:List OpR) (t:JZ) (kd:Int) (w:JY) (hm:xs.length<=1048576) (hw:Ops w b H xs) (hB:b<w.heap.size) :
  Calls Tryz.prog 106 #[.agg #[.slice (some ⟨b,H,none⟩) xs.length cap],.string t,.int .i64 kd] w fun e w'=>e = .returned (.int .i64 (fI (fnd xs t kd)))/\Below w.heap.size w w':=by
 go_enter Tryz.func106,Tryz.ntmps106
 go_wp2
 have K:Ops (w.alloc (.cells #[.slice (some ⟨b,H,none⟩) xs.length cap] 33)) b H xs:=hw.below (zC _ _) hB
 have HO:=zB K
 clear K hw
 go_loop [7] (fun i=>∃ k:Nat,k<=xs.length/\i = .int .i64 k/\Hid (∀ j,j<k->¬ ((atO xs j).s=t/\(atO xs j).k=kd))) (fun i=>xs.length-(intOf i).toNat)
 case atStart=>exact ⟨0,yj _,rfl,zB (fun j h=>by omega)⟩
 case round=>
  obtain ⟨k,hk,rfl,hn⟩:=hrel
  by_cases Q:k<xs.length
  ·obtain ⟨a0,a1,a2,a3⟩:=(zA HO) k Q
   have q:=zB (show ∀ (_:¬ ((atO xs k).s=t/\(atO xs k).k=kd)),∀ j,j<k+1->¬ ((atO xs j).s=t/\(atO xs j).k=kd) from fun X j hj=>by
    by_cases e:j=k
    ·subst e; exact X
    ·exact (zA hn) j (by omega))
   go_wp2
   ·rename_i x y _
    go_ret
    refine ⟨zJ ?_,zC _ _⟩
    rw [zMr Q (zA hn) ⟨zCZ x,by simpa using y⟩]
    rfl
   ·refine ⟨⟨k+1,by omega,by go_num,zB ((zA q) ?_)⟩,by simp [intOf]; omega⟩
    rintro ⟨_,h⟩
    simp_all
   ·refine ⟨⟨k+1,by omega,by go_num,zB ((zA q) ?_)⟩,by simp [intOf]; omega⟩
    rintro ⟨h,_⟩
    simp_all
  ·go_wp2
   go_ret
   refine ⟨zJ ?_,zC _ _⟩
   rw [zPa (fun j hj=>(zA hn) j (by omega))]
   rfl
theorem zAf (o:zD) (w:JY) (v:Bool) (hv:v=decide (3<=o.k/\o.k<=5)) :
  Calls Tryz.prog 105 #[.agg #[.int .i64 o.k,.string o.t,.int .i64 o.a,.int .i64 o.b]] w fun e w'=>e = .returned (.bool v)/\Below w.heap.size w w':=by
 by_cases h3:3<=o.k
 ·by_cases h5:o.k<=5
  ·have HV:=zB (show v=true by rw [hv]; simp [h3,h5])
   clear hv
   go_enter Tryz.func105,Tryz.ntmps105
   go_wp2
   go_ret
   exact ⟨zj (zA HV).symm,zC _ _⟩
  ·have HV:=zB (show v=false by rw [hv]; simp [h5])
   clear hv
   go_enter Tryz.func105,Tryz.ntmps105
   go_wp2
   go_ret
   exact ⟨zj (zA HV).symm,zC _ _⟩
 ·have HV:=zB (show v=false by rw [hv]; simp [h3])
  clear hv
  go_enter Tryz.func105,Tryz.ntmps105
  go_wp2
  go_ret
  exact ⟨zj (zA HV).symm,zC _ _⟩
theorem zC0 (b h cap:Nat) (xs:List OpR) (o:zD) (j:Nat) (w:JY) (hm:xs.length<=1048576) (hw:Ops w b h xs) (hB:b<w.heap.size) (h3:3<=o.k) (h5:o.k<=5) (hf:fnd xs o.t (o.k-2)=some j) :
  Calls Tryz.prog 108 #[.agg #[.slice (some ⟨b,h,none⟩) xs.length cap],.agg #[.int .i64 o.k,.string o.t,.int .i64 o.a,.int .i64 o.b]] w fun e w'=>e = .returned (.agg #[.string (atO xs j).s,.int .i64 (atO xs j).k,.int .i64 (atO xs j).l,.int .i64 (atO xs j).sd])/\Below w.heap.size w w':=by
 have hj:=(zBK hf).1
 have c:(j:Int)<(xs.length:Int):=by omega
 have J:=zB (show fI (fnd xs o.t (o.k-2))=(j:Int) by rw [hf]; rfl)
 have HW:=zB hw
 clear hw hf
 have P:=zB (show ∀ o1 o2 o3:Obj,zBp (((w.alloc o1).alloc o2).alloc o3).drew b h xs j from fun o1 o2 o3=>((zA HW) j hj).below ((((zC w o1).alloc (by simp) o2).alloc (by simp; omega) o3).drew) hB)
 go_enter Tryz.func108,Tryz.ntmps108
 go_wp2_with fail
 obtain ⟨r0,r1,r2,r3⟩:=(zA P) (.cells #[.slice (some ⟨b,h,none⟩) xs.length cap] 33) (.cells #[.int .i64 o.k,.string o.t,.int .i64 o.a,.int .i64 o.b] 144) (.cells #[.string ⟨#[]⟩,.int .i64 0,.int .i64 0,.int .i64 0] 57)
 have y:=zB (show ∀ o1 o2 o3:Obj,Below w.heap.size w (((w.alloc o1).alloc o2).alloc o3).drew from fun o1 o2 o3=>(((zC w o1).alloc (by simp) o2).alloc (by simp; omega) o3).drew)
 have B:b≠w.heap.size+1+1:=by omega
 have A:w.heap.size+1+1≠b:=by omega
 have V:=zB (show IntKind.i64.wrap (o.k-2)=o.k-2 by rw [IntKind.wrap_i64]; omega)
 have Q:=zB (show ((((w.alloc (.cells #[.slice (some ⟨b,h,none⟩) xs.length cap] 33)).alloc (.cells #[.int .i64 o.k,.string o.t,.int .i64 o.a,.int .i64 o.b] 144)).alloc (.cells #[.string ⟨#[]⟩,.int .i64 0,.int .i64 0,.int .i64 0] 57)).drew).heap.size=w.heap.size+3 from (show (((w.alloc (.cells #[.slice (some ⟨b,h,none⟩) xs.length cap] 33)).alloc (.cells #[.int .i64 o.k,.string o.t,.int .i64 o.a,.int .i64 o.b] 144)).alloc (.cells #[.string ⟨#[]⟩,.int .i64 0,.int .i64 0,.int .i64 0] 57)).heap.size=w.heap.size+3 by simp))
 have x:=zB (show b<((((w.alloc (.cells #[.slice (some ⟨b,h,none⟩) xs.length cap] 33)).alloc (.cells #[.int .i64 o.k,.string o.t,.int .i64 o.a,.int .i64 o.b] 144)).alloc (.cells #[.string ⟨#[]⟩,.int .i64 0,.int .i64 0,.int .i64 0] 57)).drew).heap.size by rw [zA Q]; omega)
 have u:=zB (show w.heap.size<((((w.alloc (.cells #[.slice (some ⟨b,h,none⟩) xs.length cap] 33)).alloc (.cells #[.int .i64 o.k,.string o.t,.int .i64 o.a,.int .i64 o.b] 144)).alloc (.cells #[.string ⟨#[]⟩,.int .i64 0,.int .i64 0,.int .i64 0] 57)).drew).heap.size by rw [zA Q]; omega)
 have Y:=zB (show w.heap.size+1<((((w.alloc (.cells #[.slice (some ⟨b,h,none⟩) xs.length cap] 33)).alloc (.cells #[.int .i64 o.k,.string o.t,.int .i64 o.a,.int .i64 o.b] 144)).alloc (.cells #[.string ⟨#[]⟩,.int .i64 0,.int .i64 0,.int .i64 0] 57)).drew).heap.size by rw [zA Q]; omega)
 have K:=zB (show w.heap.size+1+1<((((w.alloc (.cells #[.slice (some ⟨b,h,none⟩) xs.length cap] 33)).alloc (.cells #[.int .i64 o.k,.string o.t,.int .i64 o.a,.int .i64 o.b] 144)).alloc (.cells #[.string ⟨#[]⟩,.int .i64 0,.int .i64 0,.int .i64 0] 57)).drew).heap.size by rw [zA Q]; omega)
 have U:=zB (show w.heap.size<=((((w.alloc (.cells #[.slice (some ⟨b,h,none⟩) xs.length cap] 33)).alloc (.cells #[.int .i64 o.k,.string o.t,.int .i64 o.a,.int .i64 o.b] 144)).alloc (.cells #[.string ⟨#[]⟩,.int .i64 0,.int .i64 0,.int .i64 0] 57)).drew).heap.size by rw [zA Q]; omega)
 have X:=zB (show ((((w.alloc (.cells #[.slice (some ⟨b,h,none⟩) xs.length cap] 33)).alloc (.cells #[.int .i64 o.k,.string o.t,.int .i64 o.a,.int .i64 o.b] 144)).alloc (.cells #[.string ⟨#[]⟩,.int .i64 0,.int .i64 0,.int .i64 0] 57)).drew).cell? ⟨w.heap.size,0,none⟩=some (.slice (some ⟨b,h,none⟩) xs.length cap)/\((((w.alloc (.cells #[.slice (some ⟨b,h,none⟩) xs.length cap] 33)).alloc (.cells #[.int .i64 o.k,.string o.t,.int .i64 o.a,.int .i64 o.b] 144)).alloc (.cells #[.string ⟨#[]⟩,.int .i64 0,.int .i64 0,.int .i64 0] 57)).drew).cell? ⟨w.heap.size+1,0,none⟩=some (.int .i64 o.k)/\((((w.alloc (.cells #[.slice (some ⟨b,h,none⟩) xs.length cap] 33)).alloc (.cells #[.int .i64 o.k,.string o.t,.int .i64 o.a,.int .i64 o.b] 144)).alloc (.cells #[.string ⟨#[]⟩,.int .i64 0,.int .i64 0,.int .i64 0] 57)).drew).cell? ⟨w.heap.size+1,1,none⟩=some (.string o.t) from
  (show (((w.alloc (.cells #[.slice (some ⟨b,h,none⟩) xs.length cap] 33)).alloc (.cells #[.int .i64 o.k,.string o.t,.int .i64 o.a,.int .i64 o.b] 144)).alloc (.cells #[.string ⟨#[]⟩,.int .i64 0,.int .i64 0,.int .i64 0] 57)).cell? ⟨w.heap.size,0,none⟩=some (.slice (some ⟨b,h,none⟩) xs.length cap)/\(((w.alloc (.cells #[.slice (some ⟨b,h,none⟩) xs.length cap] 33)).alloc (.cells #[.int .i64 o.k,.string o.t,.int .i64 o.a,.int .i64 o.b] 144)).alloc (.cells #[.string ⟨#[]⟩,.int .i64 0,.int .i64 0,.int .i64 0] 57)).cell? ⟨w.heap.size+1,0,none⟩=some (.int .i64 o.k)/\(((w.alloc (.cells #[.slice (some ⟨b,h,none⟩) xs.length cap] 33)).alloc (.cells #[.int .i64 o.k,.string o.t,.int .i64 o.a,.int .i64 o.b] 144)).alloc (.cells #[.string ⟨#[]⟩,.int .i64 0,.int .i64 0,.int .i64 0] 57)).cell? ⟨w.heap.size+1,1,none⟩=some (.string o.t) from ⟨by simp [go_sem],by simp [go_sem],by simp [go_sem]⟩))
 have H:=zB (show (((((w.alloc (.cells #[.slice (some ⟨b,h,none⟩) xs.length cap] 33)).alloc (.cells #[.int .i64 o.k,.string o.t,.int .i64 o.a,.int .i64 o.b] 144)).alloc (.cells #[.string ⟨#[]⟩,.int .i64 0,.int .i64 0,.int .i64 0] 57)).drew).cell? ⟨w.heap.size+1+1,0,none⟩=some (.string ⟨#[]⟩)/\((((w.alloc (.cells #[.slice (some ⟨b,h,none⟩) xs.length cap] 33)).alloc (.cells #[.int .i64 o.k,.string o.t,.int .i64 o.a,.int .i64 o.b] 144)).alloc (.cells #[.string ⟨#[]⟩,.int .i64 0,.int .i64 0,.int .i64 0] 57)).drew).cell? ⟨w.heap.size+1+1,1,none⟩=some (.int .i64 0)/\((((w.alloc (.cells #[.slice (some ⟨b,h,none⟩) xs.length cap] 33)).alloc (.cells #[.int .i64 o.k,.string o.t,.int .i64 o.a,.int .i64 o.b] 144)).alloc (.cells #[.string ⟨#[]⟩,.int .i64 0,.int .i64 0,.int .i64 0] 57)).drew).cell? ⟨w.heap.size+1+1,2,none⟩=some (.int .i64 0)/\((((w.alloc (.cells #[.slice (some ⟨b,h,none⟩) xs.length cap] 33)).alloc (.cells #[.int .i64 o.k,.string o.t,.int .i64 o.a,.int .i64 o.b] 144)).alloc (.cells #[.string ⟨#[]⟩,.int .i64 0,.int .i64 0,.int .i64 0] 57)).drew).cell? ⟨w.heap.size+1+1,3,none⟩=some (.int .i64 0))/\∀ q,((((w.alloc (.cells #[.slice (some ⟨b,h,none⟩) xs.length cap] 33)).alloc (.cells #[.int .i64 o.k,.string o.t,.int .i64 o.a,.int .i64 o.b] 144)).alloc (.cells #[.string ⟨#[]⟩,.int .i64 0,.int .i64 0,.int .i64 0] 57)).drew).frozen? ⟨w.heap.size+1+1,q,none⟩=false from
  (show ((((w.alloc (.cells #[.slice (some ⟨b,h,none⟩) xs.length cap] 33)).alloc (.cells #[.int .i64 o.k,.string o.t,.int .i64 o.a,.int .i64 o.b] 144)).alloc (.cells #[.string ⟨#[]⟩,.int .i64 0,.int .i64 0,.int .i64 0] 57)).cell? ⟨w.heap.size+1+1,0,none⟩=some (.string ⟨#[]⟩)/\(((w.alloc (.cells #[.slice (some ⟨b,h,none⟩) xs.length cap] 33)).alloc (.cells #[.int .i64 o.k,.string o.t,.int .i64 o.a,.int .i64 o.b] 144)).alloc (.cells #[.string ⟨#[]⟩,.int .i64 0,.int .i64 0,.int .i64 0] 57)).cell? ⟨w.heap.size+1+1,1,none⟩=some (.int .i64 0)/\(((w.alloc (.cells #[.slice (some ⟨b,h,none⟩) xs.length cap] 33)).alloc (.cells #[.int .i64 o.k,.string o.t,.int .i64 o.a,.int .i64 o.b] 144)).alloc (.cells #[.string ⟨#[]⟩,.int .i64 0,.int .i64 0,.int .i64 0] 57)).cell? ⟨w.heap.size+1+1,2,none⟩=some (.int .i64 0)/\(((w.alloc (.cells #[.slice (some ⟨b,h,none⟩) xs.length cap] 33)).alloc (.cells #[.int .i64 o.k,.string o.t,.int .i64 o.a,.int .i64 o.b] 144)).alloc (.cells #[.string ⟨#[]⟩,.int .i64 0,.int .i64 0,.int .i64 0] 57)).cell? ⟨w.heap.size+1+1,3,none⟩=some (.int .i64 0))/\∀ q,(((w.alloc (.cells #[.slice (some ⟨b,h,none⟩) xs.length cap] 33)).alloc (.cells #[.int .i64 o.k,.string o.t,.int .i64 o.a,.int .i64 o.b] 144)).alloc (.cells #[.string ⟨#[]⟩,.int .i64 0,.int .i64 0,.int .i64 0] 57)).frozen? ⟨w.heap.size+1+1,q,none⟩=false from ⟨⟨by simp [go_sem],by simp [go_sem],by simp [go_sem],by simp [go_sem]⟩,fun q=>by simp [go_sem]⟩))
 go_region_held (fun w'=>w'.cell? ⟨w.heap.size,0,none⟩=some (.slice (some ⟨b,h,none⟩) xs.length cap)/\w'.cell? ⟨w.heap.size+1,0,none⟩=some (.int .i64 o.k)/\w'.cell? ⟨w.heap.size+1,1,none⟩=some (.string o.t)/\w'.cell? ⟨b,h+j*4,none⟩=some (.string (atO xs j).s)/\w'.cell? ⟨b,h+j*4+1,none⟩=some (.int .i64 (atO xs j).k)/\w'.cell? ⟨b,h+j*4+2,none⟩=some (.int .i64 (atO xs j).l)/\w'.cell? ⟨b,h+j*4+3,none⟩=some (.int .i64 (atO xs j).sd)) (first | (go_keep; done) | (refine ⟨zGq (by omega) ?_,zGq (by omega) ?_,zGq (by omega) ?_,zGq (by omega) ?_,zGq (by omega) ?_,zGq (by omega) ?_,zGq (by omega) ?_⟩ <;> simp [*]))
  (first | (go_at_call 106; have HX:=zDq b h cap xs o.t (o.k-2) (((w.alloc (.cells #[.slice (some ⟨b,h,none⟩) xs.length cap] 33)).alloc (.cells #[.int .i64 o.k,.string o.t,.int .i64 o.a,.int .i64 o.b] 144)).alloc (.cells #[.string ⟨#[]⟩,.int .i64 0,.int .i64 0,.int .i64 0] 57)).drew hm ((zA HW).below ((zA y) _ _ _) hB) (zA x); rw [zA J] at HX; rw [zA V]; refine HX.mono ?_; clear HX; rintro e w2 ⟨rfl,hb2⟩; have q0:=(hb2.cell (p:=⟨w.heap.size,0,none⟩) (zA u)).trans (zA X).1; have q1:=(hb2.cell (p:=⟨w.heap.size+1,0,none⟩) (zA Y)).trans (zA X).2.1; have q2:=(hb2.cell (p:=⟨w.heap.size+1,1,none⟩) (zA Y)).trans (zA X).2.2; have s0:=(hb2.cell (p:=⟨b,h+j*4,none⟩) (zA x)).trans r0; have s1:=(hb2.cell (p:=⟨b,h+j*4+1,none⟩) (zA x)).trans r1; have s2:=(hb2.cell (p:=⟨b,h+j*4+2,none⟩) (zA x)).trans r2; have s3:=(hb2.cell (p:=⟨b,h+j*4+3,none⟩) (zA x)).trans r3; have t0:=(hb2.cell (p:=⟨w.heap.size+1+1,0,none⟩) (zA K)).trans (zA H).1.1; have t1:=(hb2.cell (p:=⟨w.heap.size+1+1,1,none⟩) (zA K)).trans (zA H).1.2.1; have t2:=(hb2.cell (p:=⟨w.heap.size+1+1,2,none⟩) (zA K)).trans (zA H).1.2.2.1; have t3:=(hb2.cell (p:=⟨w.heap.size+1+1,3,none⟩) (zA K)).trans (zA H).1.2.2.2; have u0:=(hb2.frozen (p:=⟨w.heap.size+1+1,0,none⟩) (zA K)).trans ((zA H).2 0); have u1:=(hb2.frozen (p:=⟨w.heap.size+1+1,1,none⟩) (zA K)).trans ((zA H).2 1); have u2:=(hb2.frozen (p:=⟨w.heap.size+1+1,2,none⟩) (zA K)).trans ((zA H).2 2); have u3:=(hb2.frozen (p:=⟨w.heap.size+1+1,3,none⟩) (zA K)).trans ((zA H).2 3); have B2:=zB (((zA y) _ _ _).trans (hb2.mono (zA U))); clear hb2))
 go_wp2
 refine yK (v:=.agg #[.string (atO xs j).s,.int .i64 (atO xs j).k,.int .i64 (atO xs j).l,.int .i64 (atO xs j).sd]) ?res rfl ⟨rfl,?_⟩
 case res=>simp [results,Tryz.results108,go_sem,t0,t1,t2,t3]
 exact zK (show w.heap.size<=w.heap.size+1+1 by omega) [.string (atO xs j).s,.int .i64 (atO xs j).k,.int .i64 (atO xs j).l,.int .i64 (atO xs j).sd] 0 w2 (zA B2)
theorem zGr (W:JY) (s:JZ) (k l sd:Int):(Instr.field 57 (.agg #[.string s,.int .i64 k,.int .i64 l,.int .i64 sd]) 2).run Tryz.prog W = .ok (.int .i64 l) W:=by kernel_rfl
theorem zPk {o:zD} {j:Nat} (h3:3<=o.k) (h5:o.k<=5) (hf:fnd xs o.t (o.k-2)=some j):zAN xs o=(atO xs j).l:=by
 unfold zAN
 rw [yO ⟨h3,h5⟩,hf]
theorem zNs {o:zD} (h:¬ (3<=o.k/\o.k<=5)):zAN xs o=1001:=by
 unfold zAN
 rw [yN h]
theorem zA8 (b K cap:Nat) (xs:List OpR) (o:zD) (w:JY) (hm:xs.length<=1048576) (hw:Ops w b K xs) (hB:b<w.heap.size) (q:3<=o.k->o.k<=5->fnd xs o.t (o.k-2)≠none) :
  Calls Tryz.prog 110 #[.agg #[.slice (some ⟨b,K,none⟩) xs.length cap],.agg #[.int .i64 o.k,.string o.t,.int .i64 o.a,.int .i64 o.b]] w fun e w'=>e = .returned (.int .i64 (zAN xs o))/\Below w.heap.size w w':=by
 by_cases H:3<=o.k/\o.k<=5
 ·obtain ⟨h3,h5⟩:=H
  cases hf:fnd xs o.t (o.k-2) with
  | none=>exact yP hf (q h3 h5)
  | some j=>
   have HL:=zB (zPk h3 h5 hf)
   have HW:=zB hw
   have HF:=zB hf
   have HD:=zB (show true=decide (3<=o.k/\o.k<=5) by simp [h3,h5])
   clear hw hf q
   go_enter Tryz.func110,Tryz.ntmps110
   go_wp2_with fail
   refine (zAf o _ true (zA HD)).mono ?_
   rintro e w1 ⟨rfl,hb1⟩
   have h:Below w.heap.size w w1:=((zC _ _).alloc (by simp) _).trans (hb1.mono (by simp; omega))
   have c0:w1.cell? ⟨w.heap.size,0,none⟩=some (.slice (some ⟨b,K,none⟩) xs.length cap):=(hb1.cell (p:=⟨w.heap.size,0,none⟩) (by simp; omega)).trans (by simp [go_sem])
   have d0:w1.cell? ⟨w.heap.size+1,0,none⟩=some (.int .i64 o.k):=(hb1.cell (p:=⟨w.heap.size+1,0,none⟩) (by simp)).trans (by simp [go_sem])
   have d1:w1.cell? ⟨w.heap.size+1,1,none⟩=some (.string o.t):=(hb1.cell (p:=⟨w.heap.size+1,1,none⟩) (by simp)).trans (by simp [go_sem])
   have d2:w1.cell? ⟨w.heap.size+1,2,none⟩=some (.int .i64 o.a):=(hb1.cell (p:=⟨w.heap.size+1,2,none⟩) (by simp)).trans (by simp [go_sem])
   have d3:w1.cell? ⟨w.heap.size+1,3,none⟩=some (.int .i64 o.b):=(hb1.cell (p:=⟨w.heap.size+1,3,none⟩) (by simp)).trans (by simp [go_sem])
   have Q:b<w1.heap.size:=yi hB h.size
   clear hb1
   go_wp2_with fail
   refine (zC0 b K cap xs o j _ hm ((zA HW).below h hB) Q h3 h5 (zA HF)).mono ?_
   rintro e w2 ⟨rfl,hb2⟩
   have x:=zGr
   go_wp2
   go_ret
   exact ⟨zJ (zA HL).symm,h.trans (hb2.mono h.size)⟩
 ·have HL:=zB (zNs (xs:=xs) H)
  have HD:=zB (show false=decide (3<=o.k/\o.k<=5) by simp [H])
  clear hw H q
  go_enter Tryz.func110,Tryz.ntmps110
  go_wp2_with fail
  refine (zAf o _ false (zA HD)).mono ?_
  rintro e w1 ⟨rfl,hb1⟩
  go_wp2_with fail
  go_ret
  exact ⟨zJ (zA HL).symm,((zC _ _).alloc (by simp) _).trans (hb1.mono (by simp; omega))⟩
def Cs (cs:List (Nat×Nat×Value)) (w:JY):Prop:=∀ p∈cs,w.cell? ⟨p.1,p.2.1,none⟩=some p.2.2
theorem Cs.below {cs:List (Nat×Nat×Value)} (h:Cs cs w) (hb:Below w.heap.size w w'):Cs cs w':=
 fun p hp=>(hb.cell (p:=⟨p.1,p.2.1,none⟩) (block_lt_of_cell (h p hp))).trans (h p hp)
theorem zGs {a:JY} (h:Below B a w) (h1:w'.os=w.os) (h2:w'.tape=w.tape) (h3:w'.output=w.output) (h4:w'.heap=w.heap):Below B a w':=
 ⟨h1.trans h.os,h2.trans h.tape,h3.trans h.output,by rw [h4]; exact h.size,fun i hi=>by rw [h4]; exact h.block i hi⟩
theorem zGt {ns:List zD} {i j:Nat} (ho:zA7 (atN ns i)) (hf:fnd xs (atN ns i).t ((atN ns i).k-2)=some j) :
  zGg xs ns i↔zD1 xs j false<=zAN xs (atN ns (atN ns i).a.toNat)/\(ze (atN ns i).k=1\/zD1 xs j true<=zAN xs (atN ns (atN ns i).b.toNat)):=by
 constructor
 ·intro h; exact h j ho hf
 ·intro h j' _ H
  rw [hf] at H
  injection H with H
  subst H
  exact h
def hT:ET->Nat
 | .nil=>0
 | .node _ _ _ l r=>1+max (hT l) (hT r)
theorem zME:∀ T:ET,hT T<=tsz T
 | .nil=>yh _
 | .node _ _ _ l r=>by
  have:=zME l
  have:=zME r
  simp only [hT,tsz]
  omega
theorem zRB {b:Nat} (hb:b=3\/b=4\/b=5) (hk:knB ns (b,t)=true):sLv ns (b,t)=(opA ns (rt b t)).l:=by
 unfold knB at hk
 unfold sLv zAN opA
 have H:3<=(rt b t).k/\(rt b t).k<=5:=by simp only [rt]; omega
 simp only [yO H]
 have e:fnd ns (rt b t).t ((rt b t).k-2)=fnd ns t ((b:Int)-2):=rfl
 rw [e]
 cases h:fnd ns t ((b:Int)-2) with
 | none=>simp only [h] at hk; cases hk
 | some j=>rfl
open Go.Maps
theorem zJ4:laidOutB Tryz.prog=true:=by kernel_rfl
theorem zSA:(120:TypeId)<Tryz.prog.types.size:=of_decide_eq_true (by kernel_rfl)
theorem zRt:(match Tryz.prog.underlying 120 with | some (.array _ _) | some (.struct _)=>true | _=>false)=true:=by kernel_rfl
theorem zNt:Keyed Tryz.prog 120:=Keyed.of_law (deep_law_laid zJ4 (m:=3) (by omega) zSA (by kernel_rfl) zRt)
theorem zNu:Keyed Tryz.prog 3:=int_keyed Tryz.underlying3
theorem zRC:Tryz.prog.keyType 120=true:=by kernel_rfl
theorem zIE:Tryz.prog.types.size+1=(Tryz.prog.types.size-1)+1+1:=by
 have h:decide (1<=Tryz.prog.types.size)=true:=by kernel_rfl
 have:=of_decide_eq_true h
 omega
theorem zNv:Tryz.prog.cellsOf 120=2:=by kernel_rfl
theorem zNw:Tryz.prog.cellsOf 9=1:=by kernel_rfl
theorem zNx:Tryz.prog.cellsOf 3=1:=by kernel_rfl
def klO (s:JZ) (k:Int):Lit:=.string (keyBytes [.string s.data.toList,.int .i64 k])
theorem zQt (hs:s.size<=maxLen) (d:Nat):Tryz.prog.keyLits (d+1) 9 [.string s]=some [.string s.data.toList]:=by
 unfold Program.keyLits
 rw [Tryz.underlying9]
 exact yO hs
theorem zMF (hk:(Lit.int .i64 k).wf=true) (d:Nat):Tryz.prog.keyLits (d+1) 3 [.int .i64 k]=some [.int .i64 k]:=by
 unfold Program.keyLits
 rw [Tryz.underlying3]
 exact yO ⟨rfl,hk⟩
theorem zRu (hs:s.size<=maxLen) (hk:(Lit.int .i64 k).wf=true) (d:Nat) :
  Tryz.prog.keyLits (d+1+1) 120 [.string s,.int .i64 k]=some [.string s.data.toList,.int .i64 k]:=by
 conv=>lhs; unfold Program.keyLits
 rw [Tryz.underlying120]
 simp [zNv,zNw,zNx,zQt hs d,zMF hk d]
theorem zMt (hs:s.size<=maxLen) (hk:(Lit.int .i64 k).wf=true):keyOf Tryz.prog 120 (.agg #[.string s,.int .i64 k])=some (klO s k):=by
 unfold keyOf
 rw [Tryz.underlying120]
 have hf:(Value.agg #[.string s,.int .i64 k]).formed Tryz.prog 120=true:=by simp [Value.formed,Tryz.underlying120,zNv]
 have hl:=zRu hs hk (Tryz.prog.types.size-1)
 rw [<- zIE] at hl
 simp only [zRC,hf,Bool.and_self,if_true]
 show (Tryz.prog.keyLits (Tryz.prog.types.size+1) 120 [.string s,.int .i64 k]).map _=_
 rw [hl]
 rfl
theorem zPl {k':Int} (hs:s.size<=maxLen) (ht:t.size<=maxLen) (hk:(Lit.int .i64 k).wf=true) (H:(Lit.int .i64 k').wf=true) (h:klO s k=klO t k'):s=t/\k=k':=by
 have a:=zMt hs hk
 have b:=zMt ht H
 rw [<- h] at b
 have:=zNt.inj a b
 simpa using this
theorem zPm {l:Int} (h:(Lit.int .i64 l).wf=true):keyOf Tryz.prog 3 (.int .i64 l)=some (.int .i64 l):=keyOf_int_mk Tryz.underlying3 h
def zCb (s:JZ) (k l sd:Int):DataW Unit:=.agg [.lit (.string s.data.toList),.lit (.int .i64 k),.lit (.int .i64 l),.lit (.int .i64 sd)]
def zDS (v:Value):Option (DataW Unit×List MemPlace):=
 match v with
 | .agg cs=>match cs.toList with
  | [.string s,.int .i64 k,.int .i64 l,.int .i64 sd]=>some (zCb s k l sd,[])
  | _=>none
 | _=>none
theorem zIF (s:JZ) (k l sd:Int):zDS (.agg #[.string s,.int .i64 k,.int .i64 l,.int .i64 sd])=some (zCb s k l sd,[]):=rfl
theorem zLD {v:Value} {z:DataW Unit×List MemPlace} (h:zDS v=some z):∃ s k l sd,v = .agg #[.string s,.int .i64 k,.int .i64 l,.int .i64 sd]:=by
 unfold zDS at h
 split at h
 ·rename_i cs
  split at h
  ·rename_i a b c d e
   obtain ⟨cs⟩:=cs
   simp only at e
   subst e
   exact ⟨_,_,_,_,rfl⟩
  ·cases h
 ·cases h
theorem zRD (w:JY):(zeroValue 57).run Tryz.prog w = .ok (.agg #[.string ⟨#[]⟩,.int .i64 0,.int .i64 0,.int .i64 0]) w:=by kernel_rfl
theorem zMG (w:JY):(zeroValue 3).run Tryz.prog w = .ok (.int .i64 0) w:=by kernel_rfl
def zBX (v:Value):Option (DataW Value×List MemPlace):=some (.held v,[])
def klS (t:JZ):Lit:=.string t.data.toList
theorem zPn (h:klS s=klS t):s=t:=by
 unfold klS at h
 injection h with h
 cases s; cases t
 simp at h
 rw [h]
theorem zNy (h:t.size<=maxLen):keyOf Tryz.prog 9 (.string t)=some (klS t):=WideMaps.keyOf_string_mk Tryz.underlying9 h
def zAI (w:JY) (b n:Nat) (G:ByteArray->Option Value):Prop:=
 ∃ D:DataW Value,w.ownsMap Tryz.prog 9 zBX b n D/\∀ t,t.size<=maxLen->Maps.has D (klS t)=(G t).isSome/\(∀ v,G t=some v->∀ z,D.atKey (klS t) z = .held v)/\(G t=none->∀ z,D.atKey (klS t) z=z)
theorem zAI.lt {w:JY} {b n:Nat} {G:ByteArray->Option Value} (h:zAI w b n G):b<w.heap.size:=by
 obtain ⟨D,hD,_⟩:=h
 exact hD.lt
theorem zAI.kept {w w':JY} {b n:Nat} {G:ByteArray->Option Value} {row:Option Nat} (h:zAI w b n G) (hg:w.grownBy w' row) (H:some b≠row):zAI w' b n G:=by
 obtain ⟨D,hD,h⟩:=h
 exact ⟨D,hD.kept hg H,h⟩
theorem zAI.made (w:JY):zAI (w.alloc (.map #[] 0)) w.heap.size 0 (fun _=>none):=
 ⟨.map [],World.ownsMap_made w Tryz.prog 9 zBX,fun t _=>⟨rfl,fun v h=>(by cases h),fun _ z=>rfl⟩⟩
theorem zAI.look {b n:Nat} {ty e:TypeId} (h:zAI w b n G) (ht:Tryz.prog.underlying ty=some (.map 9 e)) {z:Value} (hz:(zeroValue e).run Tryz.prog w = .ok z w) (hs:t.size<=maxLen) :
  (Instr.lookup ty (.map (some b)) (.string t) true).run Tryz.prog w = .ok (.tuple #[(G t).getD z,.bool (G t).isSome]) w:=by
 obtain ⟨D,hD,h⟩:=h
 obtain ⟨v,ps,H,hv⟩:=hD.look_ok (string_keyed Tryz.underlying9) ht hz (zd:=.held z) (zp:=[]) rfl (zNy hs)
 rw [(h t hs).1] at H
 have e:v=(G t).getD z:=by
  cases hg:G t with
  | none=>
   rw [(h t hs).2.2 hg] at hv
   simp only [zBX,Option.some.injEq,Prod.mk.injEq,DataW.held.injEq] at hv
   exact hv.1
  | some u=>
   rw [(h t hs).2.1 u hg] at hv
   simp only [zBX,Option.some.injEq,Prod.mk.injEq,DataW.held.injEq] at hv
   exact hv.1
 rw [<- e]
 exact H
theorem zAI.put {D:DataW Value} (hm:IsMap D) (h:∀ t,t.size<=maxLen->Maps.has D (klS t)=(G t).isSome/\(∀ v,G t=some v->∀ z,D.atKey (klS t) z = .held v)/\(G t=none->∀ z,D.atKey (klS t) z=z)) (hs:t.size<=maxLen) (v:Value) :
  ∀ t',t'.size<=maxLen->Maps.has (D.put (klS t) (.held v)) (klS t')=(if t'.data=t.data then some v else G t').isSome/\(∀ u,(if t'.data=t.data then some v else G t')=some u->∀ z,(D.put (klS t) (.held v)).atKey (klS t') z = .held u)/\((if t'.data=t.data then some v else G t')=none->∀ z,(D.put (klS t) (.held v)).atKey (klS t') z=z):=by
 intro t' H
 by_cases e:t'.data=t.data
 ·have e':t'=t:=by cases t; cases t'; simp at e; rw [e]
  subst e'
  have hk:=(string_keyed Tryz.underlying9).key (zNy H)
  rw [yO rfl,has_put_same hm hk]
  refine ⟨rfl,fun u hu z=>?_,fun hu=>by cases hu⟩
  injection hu with hu
  rw [atKey_put_same hm hk,hu]
 ·have k:klS t'≠klS t:=fun x=>e (by rw [zPn x])
  rw [yN e,has_put_other k]
  refine ⟨(h t' H).1,fun u hu z=>?_,fun hu z=>?_⟩
  ·rw [atKey_put_other k]
   exact (h t' H).2.1 u hu z
  ·rw [atKey_put_other k]
   exact (h t' H).2.2 hu z
theorem zAI.update {w:JY} {b n:Nat} {G:ByteArray->Option Value} {ty e:TypeId} (h:zAI w b n G) (ht:Tryz.prog.underlying ty=some (.map 9 e)) (hn:n<maxLen) {t:JZ} (hs:t.size<=maxLen) (v:Value) :
  ∃ w',(Instr.mapUpdate ty (.map (some b)) (.string t) v).run Tryz.prog w = .ok () w'/\zAI w' b (n+1) (fun t'=>if t'.data=t.data then some v else G t')/\zG w w' b:=by
 obtain ⟨D,hD,h⟩:=h
 obtain ⟨w',H,h1,h2⟩:=hD.update (string_keyed Tryz.underlying9) ht hn (zNy hs) (val:=v) (d:=.held v) (ps:=[]) rfl
 exact ⟨w',H,⟨_,h1,zAI.put hD.isMap h hs v⟩,⟨h2.os,h2.tape,h2.output,h2.size,fun i hi k=>h2.block i hi (fun x=>k (by injection x))⟩⟩
theorem zGu {ns:List OpR} {s:JZ}:∀ (ts:List zX) (i:Nat),zAQ ns s i ts->0<ts.length/\(atT ts (ts.length-1)).k=7
 | [],_,h=>h.elim
 | t::out,i,h=>by
  rcases h with ⟨rfl,_,_,rfl⟩ | ⟨p,n,k,_,_,_,_,_,rfl,hr⟩
  ·exact ⟨by simp,rfl⟩
  ·obtain ⟨h1,h2⟩:=zGu out _ hr
   refine ⟨by simp,?_⟩
   have e:(⟨(k:Int),s.extract i p,s.extract p (p+n)⟩::out:List zX).length-1=(out.length-1)+1:=by simp; omega
   rw [e]
   exact h2
theorem zGv {ns:List OpR} {s:JZ}:∀ (ts:List zX) (i:Nat),zAQ ns s i ts->∀ j,j<ts.length->(atT ts j).g.size<=s.size/\(atT ts j).t.size<=s.size
 | [],_,h,_,_=>h.elim
 | t::out,i,h,j,hj=>by
  rcases h with ⟨rfl,_,_,rfl⟩ | ⟨p,n,k,_,_,_,_,_,rfl,hr⟩
  ·have:j=0:=by simp at hj; omega
   subst this
   refine ⟨?_,?_⟩
   ·simp [atT,yw]
   ·simp [atT]
    exact yj _
  ·cases j with
   | zero=>exact ⟨by simp [atT,yw]; omega,by simp [atT,yw]; omega⟩
   | succ j=>exact zGv out _ hr j (by simpa using hj)
open Go.Shelf
def zLE (ts:List zX) (i:Nat):Nat:=Z2 ts i+(atT ts i).g.size
theorem zJ5 {ts:List zX} {i j:Nat} (h:j<i):atT (ts.take i) j=atT ts j:=by
 simp [atT,List.getD,List.getElem?_take,h]
theorem zGw (ts:List zX) (i:Nat):∀ k,k<=i->Z2 (ts.take i) k=Z2 ts k
 | 0,_=>rfl
 | k+1,h=>by
  simp only [Z2]
  rw [zGw ts i k (by omega),zJ5 (by omega)]
def zI2 (ns:List OpR) (ts:List zX) (us:List zD) (c p:Int):Prop:=
 (RD ns 0 none (sgs ns ts 0 ts.length)=none/\us=[]/\c=5/\p=0) \/
 ∃ T r,RD ns 0 none (sgs ns ts 0 ts.length)=some (T,r)/\((1000<hT T/\us=[]/\c=6/\p=0)\/(hT T<=1000/\us=nd T 0/\c=0/\p=0))
def zI3 (ns:List OpR) (ts:List zX) (us:List zD) (c p:Int):Prop:=
 (∃ i,i<ts.length/\(atT ts i).k=6/\(∀ j,j<i->(atT ts j).k≠6)/\us=[]/\c=3/\p=(zLE ts i:Int)) \/
 ((∀ j,j<ts.length->(atT ts j).k≠6) /\
  ((∃ i,i<ts.length/\zC8 ns ts i/\zi ns ts i<0/\us=[]/\c=4/\p=(zLE ts i:Int))\/(zC8 ns ts ts.length/\zI2 ns ts us c p)))
def zBY (ns:List OpR) (s:JZ) (us:List zD) (c p:Int):Prop:=
 (¬ zR ns 0/\us=[]/\c=1/\p=0) \/
 (zR ns 0/\((20000<s.size/\us=[]/\c=2/\p=0)\/(s.size<=20000/\∃ ts,zAQ ns s 0 ts/\zI3 ns ts us c p)))
theorem zI2.one {ts:List zX} {us us':List zD} {c c' p p':Int} (h:zI2 ns ts us c p) (h':zI2 ns ts us' c' p'):us=us'/\c=c'/\p=p':=by
 rcases h with ⟨h1,rfl,rfl,rfl⟩ | ⟨T,r,h1,h⟩
 ·rcases h' with ⟨h2,rfl,rfl,rfl⟩ | ⟨T',r',h2,h'⟩
  ·exact ⟨rfl,rfl,rfl⟩
  ·rw [h1] at h2; cases h2
 ·rcases h' with ⟨h2,rfl,rfl,rfl⟩ | ⟨T',r',h2,h'⟩
  ·rw [h1] at h2; cases h2
  ·rw [h1] at h2
   injection h2 with h2
   injection h2 with h2 _
   subst h2
   rcases h with ⟨a,rfl,rfl,rfl⟩ | ⟨a,rfl,rfl,rfl⟩ <;> rcases h' with ⟨b,rfl,rfl,rfl⟩ | ⟨b,rfl,rfl,rfl⟩
   ·exact ⟨rfl,rfl,rfl⟩
   ·omega
   ·omega
   ·exact ⟨rfl,rfl,rfl⟩
theorem zI3.one {ns:List OpR} {ts:List zX} {us us':List zD} {c c' p p':Int} (h:zI3 ns ts us c p) (h':zI3 ns ts us' c' p'):us=us'/\c=c'/\p=p':=by
 rcases h with ⟨i,hi,a1,a2,rfl,rfl,rfl⟩ | ⟨a,h⟩
 ·rcases h' with ⟨j,hj,b1,b2,rfl,rfl,rfl⟩ | ⟨b,h'⟩
  ·rcases (by omega:i=j\/i<j\/j<i) with e | e | e
   ·subst e; exact ⟨rfl,rfl,rfl⟩
   ·exact yP a1 (b2 i e)
   ·exact yP b1 (a2 j e)
  ·exact yP a1 (b i hi)
 ·rcases h' with ⟨j,hj,b1,b2,rfl,rfl,rfl⟩ | ⟨b,h'⟩
  ·exact yP b1 (a j hj)
  ·rcases h with ⟨i,hi,f,n,rfl,rfl,rfl⟩ | ⟨f,h⟩
   ·rcases h' with ⟨j,hj,f',n',rfl,rfl,rfl⟩ | ⟨f',h'⟩
    ·rcases (by omega:i=j\/i<j\/j<i) with e | e | e
     ·subst e; exact ⟨rfl,rfl,rfl⟩
     ·have:=f' i e; omega
     ·have:=f j e; omega
    ·have:=f' i hi; omega
   ·rcases h' with ⟨j,hj,f',n',rfl,rfl,rfl⟩ | ⟨f',h'⟩
    ·have:=f j hj; omega
    ·exact h.one h'
theorem zBY.one {ns:List OpR} {s:JZ} {us us':List zD} {c c' p p':Int} (h:zBY ns s us c p) (h':zBY ns s us' c' p'):us=us'/\c=c'/\p=p':=by
 rcases h with ⟨n,rfl,rfl,rfl⟩ | ⟨n,h⟩
 ·rcases h' with ⟨n',rfl,rfl,rfl⟩ | ⟨n',h'⟩
  ·exact ⟨rfl,rfl,rfl⟩
  ·exact yP n' n
 ·rcases h' with ⟨n',rfl,rfl,rfl⟩ | ⟨n',h'⟩
  ·exact yP n n'
  ·rcases h with ⟨b,rfl,rfl,rfl⟩ | ⟨b,ts,hx,h⟩
   ·rcases h' with ⟨b',rfl,rfl,rfl⟩ | ⟨b',ts',H,h'⟩
    ·exact ⟨rfl,rfl,rfl⟩
    ·omega
   ·rcases h' with ⟨b',rfl,rfl,rfl⟩ | ⟨b',ts',H,h'⟩
    ·omega
    ·have e:=zAQ.one _ _ _ hx H
     subst e
     exact h.one h'
open Go.Deep (BT)
def trF (xs:List zD):Nat->Nat->ET
 | 0,_=>.nil
 | n+1,i=>if ze (atN xs i).k=0 then .node (atN xs i).k.toNat 0 (atN xs i).t .nil .nil
  else if ze (atN xs i).k=1 then .node (atN xs i).k.toNat 0 (atN xs i).t (trF xs n (i-1)) .nil
  else .node (atN xs i).k.toNat 0 (atN xs i).t (trF xs n (atN xs i).a.toNat) (trF xs n (i-1))
theorem zNz {xs:List zD}:∀ (T:ET) (s:Nat),Sh T->zFG xs T s->∀ n,tsz T<=n->trF xs n (s+tsz T-1)=T:=by
 intro T
 induction T with
 | nil=>intro s h; exact h.elim
 | node b o t l r ihl ihr=>
  rintro s ⟨rfl,hsh⟩ ⟨h1,h2,h3⟩ n hn
  simp only [tsz] at hn
  obtain ⟨n,rfl⟩:∃ m,n=m+1:=⟨n-1,by omega⟩
  have e:s+tsz (.node b 0 t l r)-1=s+tsz l+tsz r:=by simp only [tsz]; omega
  rw [e]
  have hK:(atN xs (s+tsz l+tsz r)).k=(b:Int):=by rw [h3]; rfl
  have hT:(atN xs (s+tsz l+tsz r)).t=t:=by rw [h3]; rfl
  have hb:((b:Int)).toNat=b:=by omega
  rcases hsh with ⟨hk,rfl,rfl⟩ | ⟨hk,hl,rfl⟩ | ⟨hk,hl,hr⟩
  ·simp only [trF,hK,hT,hk,if_true,hb]
  ·have hp:=hl.pos
   have e2:s+tsz l+tsz (BT.nil:ET)-1=s+tsz l-1:=by simp [tsz]
   simp only [trF,hK,hT,hk,hb,e2,ihl s hl h1 n (by omega)]
   simp
  ·have hp:=hl.pos
   have hq:=hr.pos
   have ha:(atN xs (s+tsz l+tsz r)).a.toNat=s+tsz l-1:=by
    rw [h3]
    simp [tN,hk]
    omega
   simp only [trF,hK,hT,hk,hb,ha,ihl s hl h1 n (by omega),ihr (s+tsz l) hr h2 n (by omega)]
   simp
def zN0 (xs:List zD):ET:=trF xs xs.length (xs.length-1)
theorem zIG {T:ET} (h:Sh T):zN0 (nd T 0)=T:=by
 have:=zNz T 0 h (zDk T) (tsz T) (yh _)
 unfold zN0
 rw [ZO]
 simpa using this
theorem zRE {T T':ET} (h:Sh T) (h':Sh T') (e:nd T 0=nd T' 0):T=T':=by
 rw [<- zIG h,<- zIG h',e]
def moT (bs:List UInt8):ET->Nat->Nat×ET
 | .nil,p=>(p,.nil)
 | .node b _ t l r,p=>
  (adv bs (moT bs r (moT bs l p).1).1,
   if nxt bs (moT bs r (moT bs l p).1).1%6=5 then .node 6 0 ByteArray.empty (.node b 0 t (moT bs l p).2 (moT bs r (moT bs l p).1).2) .nil
   else .node b 0 t (moT bs l p).2 (moT bs r (moT bs l p).1).2)
theorem zGx (bs:List UInt8):∀ (T:ET) (p:Nat),tsz T<=tsz (moT bs T p).2/\tsz (moT bs T p).2<=2*tsz T
 | .nil,p=>⟨yh _,yj _⟩
 | .node b o t l r,p=>by
  have h1:=zGx bs l p
  have h2:=zGx bs r (moT bs l p).1
  simp only [moT]
  split <;> simp only [tsz] <;> omega
theorem zI4 (bs:List UInt8):∀ (T:ET) (p:Nat),Sh T->Sh (moT bs T p).2
 | .nil,p,h=>h.elim
 | .node b o t l r,p,⟨_,h⟩=>by
  have hn:Sh (.node b 0 t (moT bs l p).2 (moT bs r (moT bs l p).1).2):=by
   refine ⟨rfl,?_⟩
   rcases h with ⟨hk,rfl,rfl⟩ | ⟨hk,hl,rfl⟩ | ⟨hk,hl,hr⟩
   ·exact yQ ⟨hk,rfl,rfl⟩
   ·exact yR (yQ ⟨hk,zI4 bs l p hl,rfl⟩)
   ·exact yR (yR ⟨hk,zI4 bs l p hl,zI4 bs r _ hr⟩)
  simp only [moT]
  split
  ·exact ⟨rfl,yR (yQ ⟨by decide,hn,rfl⟩)⟩
  ·exact hn
def TxL (n:Nat):ET->Prop
 | .nil=>True
 | .node _ _ t l r=>t.size<=n/\TxL n l/\TxL n r
theorem zI5 (bs:List UInt8) (n:Nat):∀ (T:ET) (p:Nat),TxL n T->TxL n (moT bs T p).2
 | .nil,p,h=>trivial
 | .node b o t l r,p,⟨h0,h1,h2⟩=>by
  have hn:TxL n (.node b 0 t (moT bs l p).2 (moT bs r (moT bs l p).1).2):=⟨h0,zI5 bs n l p h1,zI5 bs n r _ h2⟩
  simp only [moT]
  split
  ·exact ⟨yj _,hn,trivial⟩
  ·exact hn
theorem zFL (n:Nat):∀ (T:ET) (s:Nat),(∀ o∈nd T s,o.t.size<=n)->TxL n T
 | .nil,s,h=>trivial
 | .node b o t l r,s,h=>by
  simp only [nd,List.mem_append,List.mem_singleton] at h
  refine ⟨?_,zFL n l s fun x hx=>h x (yQ (yQ hx)),zFL n r _ fun x hx=>h x (yQ (yR hx))⟩
  have:=h (tN b t l r s) (yR rfl)
  simpa [tN] using this
theorem zGG (ns:List OpR) (n b:Nat) (t:JZ) (l:Int) (T:ET) (h:TxL n T):TxL n (clT ns b t l T):=by
 unfold clT
 split
 ·exact ⟨yj _,h,trivial⟩
 ·exact h
def wdT (T:ET):List ByteArray:=(ySy T).map (·.2)
theorem zGH:∀ (T:ET),(wdT T).length<=2*tsz T
 | .nil=>yj _
 | .node b o t l r=>by
  have h1:=zGH l
  have h2:=zGH r
  simp only [wdT,List.length_map] at h1 h2 ⊢
  simp only [ySy,tsz]
  split
  ·simp; omega
  ·split
   ·simp; omega
   ·split
    ·simp; omega
    ·split
     ·simp; omega
     ·simp; omega
theorem zLF {n:Nat} (hn:1<=n):∀ (T:ET),TxL n T->∀ s∈wdT T,s.size<=n
 | .nil,h=>fun s hs=>by simp [wdT,ySy] at hs
 | .node b o t l r,⟨h0,h1,h2⟩=>by
  have i1:=zLF hn l h1
  have i2:=zLF hn r h2
  have c1:opn.size<=n:=hn
  have c2:zCR.size<=n:=hn
  simp only [wdT] at i1 i2 ⊢
  simp only [ySy]
  intro s hs
  split at hs
  ·simp only [List.map_cons,List.map_append,List.map_nil,List.mem_cons,List.mem_append,List.mem_singleton,List.not_mem_nil,or_false] at hs
   rcases hs with rfl | hs | rfl
   ·exact c1
   ·exact i1 s hs
   ·exact c2
  ·split at hs
   ·simp only [List.map_cons,List.mem_cons] at hs
    rcases hs with rfl | hs
    ·exact h0
    ·exact i1 s hs
   ·split at hs
    ·simp only [List.map_cons,List.map_append,List.map_nil,List.mem_cons,List.mem_append,List.mem_singleton,List.not_mem_nil,or_false] at hs
     rcases hs with hs | rfl
     ·exact i1 s hs
     ·exact h0
    ·split at hs
     ·simp only [List.map_cons,List.map_append,List.map_nil,List.mem_cons,List.mem_append] at hs
      rcases hs with hs | rfl | hs
      ·exact i1 s hs
      ·exact h0
      ·exact i2 s hs
     ·simp only [List.map_cons,List.map_nil,List.mem_singleton] at hs
      subst hs
      exact h0
def nmK (k:Nat):ByteArray:=(⟨#[97]⟩:JZ)++(⟨#[49,50,51]⟩:JZ).extract 0 (k/8%4)
def lnF (bs:List UInt8) (ns:List OpR):Nat->List ByteArray->Bool->Nat->Nat->List ByteArray×Nat
 | 0,ws,_,_,p=>(ws,p)
 | f+1,ws,bh,op,p=>
  if ¬ ((ws.length<30/\p<bs.length)\/bh=false\/0<op) then (ws,p)
  else if bh=false then
   if nxt bs p%8=1/\ws.length<30 then lnF bs ns f (ws++[⟨#[40]⟩]) false (op+1) (adv bs p)
   else if 4<nxt bs p%8/\(atO ns (nxt bs p/8%ns.length)).k=1 then lnF bs ns f (ws++[(atO ns (nxt bs p/8%ns.length)).s]) false op (adv bs p)
   else lnF bs ns f (ws++[nmK (nxt bs p)]) true op (adv bs p)
  else if 0<op/\(nxt bs p%8=0\/30<=ws.length\/bs.length<=adv bs p) then lnF bs ns f (ws++[⟨#[41]⟩]) true (op-1) (adv bs p)
  else if (atO ns (nxt bs p/8%ns.length)).k=3 then lnF bs ns f (ws++[(atO ns (nxt bs p/8%ns.length)).s]) true op (adv bs p)
  else if (atO ns (nxt bs p/8%ns.length)).k=2 then lnF bs ns f (ws++[(atO ns (nxt bs p/8%ns.length)).s]) false op (adv bs p)
  else if bs.length<=adv bs p then (ws,adv bs p)
  else lnF bs ns f ws true op (adv bs p)
def lnM (bs:List UInt8) (bh:Bool) (op p:Nat):Nat:=3*(bs.length-p)+op+(if bh=true then 0 else 1)
def gnW (bs:List UInt8) (ns:List OpR) (p:Nat):Nat×List zD:=gen bs ns false (2+nxt bs p%5) (adv bs p) []
def zMu (bs:List UInt8) (ns:List OpR) (p:Nat) (ws:List JZ) (q:Nat):Prop:=
 (nxt bs p%4=3/\lnF bs ns 3601 [] false 0 (adv bs p)=(ws,q)) \/
 (nxt bs p%4≠3/\∃ gs v,zDj ns (gnW bs ns (adv bs p)).2 gs v/\((v=false/\ws=[⟨#[97]⟩]/\q=(gnW bs ns (adv bs p)).1) \/
  (v=true/\∃ T,Sh T/\gs=nd T 0/\ws=wdT (moT bs T (gnW bs ns (adv bs p)).1).2/\q=(moT bs T (gnW bs ns (adv bs p)).1).1)))
theorem zMu.one {bs:List UInt8} {ns:List OpR} {p q q':Nat} {ws ws':List JZ} (h:zMu bs ns p ws q) (h':zMu bs ns p ws' q'):ws=ws'/\q=q':=by
 rcases h with ⟨a,e⟩ | ⟨a,gs,v,hg,h⟩ <;> rcases h' with ⟨a',e'⟩ | ⟨a',gs',v',k,h'⟩
 ·rw [e] at e'; injection e' with e1 e2; exact ⟨e1,e2⟩
 ·exact yP a a'
 ·exact yP a' a
 ·obtain ⟨rfl,rfl⟩:=hg.one k
  rcases h with ⟨rfl,rfl,rfl⟩ | ⟨rfl,T,hT,Q,rfl,rfl⟩ <;> rcases h' with ⟨b',rfl,rfl⟩ | ⟨b',T',K,H,rfl,rfl⟩
  ·exact ⟨rfl,rfl⟩
  ·cases b'
  ·cases b'
  ·obtain rfl:=zRE hT K (Q.symm.trans H)
   exact ⟨rfl,rfl⟩
theorem zLG {xs gs:List zD} (hx:xs.length<=127) (K:∀ o∈xs,o.t.size<=16) (h:zDj ns xs gs true):∃ T,Sh T/\gs=nd T 0/\tsz T<=254/\TxL 16 T:=by
 rcases h with ⟨⟨⟨_,ho,_⟩,_⟩,_,rfl⟩ | ⟨_,hv,_⟩
 ·obtain ⟨T,hs,hz,H⟩:=zJs ho
  have hp:=hs.pos
  have hl:zFG xs T 0:=by rw [H]; exact zDk T
  have e:=zPd ns xs T 0 hs hl 0 0
  have e0:0+tsz T-1=xs.length-1:=by omega
  rw [e0] at e
  have hf:=zCI T 0 hs hl
  rw [e0] at hf
  have hg:=zCt ns xs (xs.length) (xs.length-1) 0 (by omega) hf 0 0
  rw [e,ZO] at hg
  refine ⟨grT ns T 0,zQ5 ns T 0 hs,e,by omega,?_⟩
  have h0:TxL 16 T:=zFL 16 T 0 (by rw [<- H]; exact K)
  have:∀ (T:ET) (l:Int),TxL 16 T->TxL 16 (grT ns T l):=by
   intro T
   induction T with
   | nil=>intro l _; exact trivial
   | node b o t l r ihl ihr=>
    rintro k ⟨a0,a1,a2⟩
    simp only [grT]
    split
    ·first | exact ihl _ a1 | exact ihl k a1
    ·first | exact zGG _ _ _ _ _ _ ⟨a0,ihl _ a1,ihr _ a2⟩ | (split <;> first | exact zGG _ _ _ _ _ _ ⟨a0,trivial,trivial⟩ | exact zGG _ _ _ _ _ _ ⟨a0,ihl _ a1,trivial⟩ | exact zGG _ _ _ _ _ _ ⟨a0,ihl _ a1,ihr _ a2⟩)
  exact this T 0 h0
 ·cases hv
theorem zN1:∀ {T:ET},Sh T->1<=(ySy T).length
 | .nil,h=>h.elim
 | .node b o t l r,⟨_,h⟩=>by
  simp only [ySy]
  split
  ·simp
  ·split
   ·simp
   ·split
    ·simp
    ·split
     ·simp; omega
     ·simp
def zEF (k:Nat):ByteArray:=if k%5=0 then ⟨#[32]⟩ else if k%5=2 then ⟨#[10,9]⟩ else if k%5=3 then ⟨#[32,32]⟩ else ⟨#[]⟩
theorem zBy (k:Nat):(zEF k).size<=2:=by
 unfold zEF
 repeat' split
 all_goals decide
theorem zN2 (W:JY) (c:Int):(convert 22 9 (.slice (some ⟨W.heap.size,0,none⟩) 1 1)).run Tryz.prog (W.alloc (.cells #[.int .u8 c] 5)) = .ok (.string ⟨#[UInt8.ofNat c.toNat]⟩) (W.alloc (.cells #[.int .u8 c] 5)):=by
 rw [run_convert_bytes_string _ 22 9 5 _ _ _ Tryz.underlying22 Tryz.underlying5 Tryz.underlying9]
 have hl:(loadCells ⟨W.heap.size,0,none⟩ 1).run Tryz.prog (W.alloc (.cells #[.int .u8 c] 5)) = .ok ([c].map (Value.int .u8)).toArray (W.alloc (.cells #[.int .u8 c] 5)):=
  run_loadCells_list (P:=Tryz.prog) _ ⟨W.heap.size,0,none⟩ [.int .u8 c] (fun j v hv=>by
   match j,hv with
   | 0,hv=>simp at hv; subst hv; simp [Addr.add,go_sem])
 rw [run_bytesToString _ ⟨W.heap.size,0,none⟩ 1 1 [c] hl]
 rfl
def zAp (xs:List OpR) (bs:List UInt8) (p:Nat):ByteArray:=
 if nxt bs p%8<4/\0<xs.length then (atO xs (nxt bs p/8%xs.length)).s
 else if nxt bs p%8=4 then ⟨#[40]⟩ else if nxt bs p%8=5 then ⟨#[41]⟩
 else if nxt bs p%8=6 then (⟨#[97,49,95,98]⟩:JZ).extract 0 (1+nxt bs p/8%4)
 else if 240<=nxt bs p then txN (nxt bs p)
 else if 224<=nxt bs p then ⟨#[(nxt bs (adv bs p)).toUInt8]⟩
 else (⟨#[49,48,50,55]⟩:JZ).extract (nxt bs p/8%4) 4
def zBN (xs:List OpR) (bs:List UInt8) (p:Nat):Nat:=
 if nxt bs p%8<4/\0<xs.length then adv bs p
 else if nxt bs p%8=4 then adv bs p else if nxt bs p%8=5 then adv bs p
 else if nxt bs p%8=6 then adv bs p
 else if 240<=nxt bs p then adv bs p
 else if 224<=nxt bs p then adv bs (adv bs p)
 else adv bs p
def zI (l:List JZ):List Value:=l.map fun s=>.string s
theorem Zx (l l':List JZ):zI (l++l')=zI l++zI l':=by simp [zI]
theorem zT (l:List JZ):∀ u∈zI l,u.oneCell'=true:=by
 intro u hu
 simp only [zI,List.mem_map] at hu
 obtain ⟨b,_,rfl⟩:=hu
 rfl
theorem zCL:(Tryz.prog.info? 9).map (fun i=>(i.zero,i.size,i.bytes))=some (some (.string ⟨#[]⟩),1,16):=by kernel_rfl
theorem ZG (w:JY) (t:JZ):∀ j u,(zI [t])[j]?=some u->(w.alloc (.cells #[.string t] 9)).cell? ((⟨w.heap.size,0,none⟩:Addr).add j)=some u:=by
 intro j u hj
 rw [Addr.add_mid]
 have:=yz (w:=w.alloc (.cells #[.string t] 9)) (b:=w.heap.size) (heap_alloc_new w _) 0 1
 exact this j u (by simpa [zI] using hj)
def zZ (w:JY) (B:Nat) (v:Value) (ps:List JZ):Prop:=w.ownsRow B 9 1 v ps.length (zI ps)
theorem zO {n:Nat} {e:TypeId} {size:Nat} {xs:List Value} (h:w.ownsRow B e size u n xs):∃ a c,u = .slice a n c:=by
 obtain ⟨_,⟨rfl,rfl⟩ | ⟨g,cap,H,rfl,_⟩⟩:=h
 ·exact ⟨none,0,rfl⟩
 ·exact ⟨_,_,rfl⟩
theorem zZ.grown {row:Option Nat} (h:zZ w B u us) (hg:w.grownBy w' row) (H:∀ k,u.ownBlock=some k->row≠some k):zZ w' B u us:=
 World.ownsRow.kept h hg (by
  cases e:u.ownBlock with
  | none=>exact yQ rfl
  | some k=>exact yR (fun x=>H k e x.symm))
theorem zZ.below (h:zZ w B u us) (hb:Below w.heap.size w w'):zZ w' B u us:=
 h.grown (row:=none) ⟨hb.os,hb.tape,hb.output,hb.size,fun i hi _=>hb.block i hi⟩ (fun k _ e=>by cases e)
theorem zZ.lt {w:JY} {B:Nat} {u:Value} {us:List JZ} (h:zZ w B u us):∀ g,u.ownBlock=some g->B<=g/\g<w.heap.size:=fun g hg=>World.ownsRow.lt h g hg
theorem zZ.cells {g n c:Nat} (h:zZ w B (.slice (some ⟨g,0,none⟩) n c) us):∀ (j:Nat) x,us[j]?=some x->w.cell? ⟨g,0+j,none⟩=some (.string x):=by
 intro j x hj
 have hl:j<us.length:=(yX.1 hj).1
 obtain ⟨_,⟨h1,_⟩ | ⟨g',cap,H,h1,h2⟩⟩:=h
 ·cases h1
 ·have hh:zZ w B (.slice (some ⟨g',0,none⟩) us.length cap) us:=⟨by assumption,yR ⟨g',cap,H,rfl,h2⟩⟩
  simp only [Value.slice.injEq,Option.some.injEq,Addr.mk.injEq] at h1
  obtain ⟨⟨rfl,_⟩,_⟩:=h1
  rw [yV,World.ownsRow.cellAt hh j (by omega)]
  simp [zI,hj]
end Go.Proofs.YtgbkgkdpdfdokaaGreatDoor
