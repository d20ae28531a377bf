import Derived.Deep.QuietTactic
import Derived.BigQuiet
import Derived.Shelf.Strings.Cut
import Derived.Shelf.Strings.Split
import Derived.Shelf.Strconv.Atoi
import Derived.Lib.SmallJoins
import Derived.Deep.DeepCutAuto
import Derived.Deep.RegionHeld
import Derived.Test.YtgiemobdmbijiaaGreatDoorN01
import Derived.Test.YtgiemobdmbijiaaGreatDoorN13
import Derived.Test.YtgiemobdmbijiaaGreatDoorN15
import Derived.Test.YtgiemobdmbijiaaGreatDoorN16
namespace Go.Proofs.YtgiemobdmbijiaaGreatDoor
set_option linter.unusedSimpArgs false
set_option linter.unusedVariables false
set_option maxHeartbeats 16000000
set_option maxRecDepth 100000
open Go.RowKit
theorem zLX (a b:OpR) (w:World) :
  (binOp .neq 46 (.agg #[.string a.s,.int .i64 a.k,.int .i64 a.l,.int .i64 a.sd]) (.agg #[.string b.s,.int .i64 b.k,.int .i64 b.l,.int .i64 b.sd])).run Tryz.prog w = .ok (.bool (!zBS a b)) w:=by
 rw [run_neq_struct,run_equalIn_agg _ _ _ _ _ zIr zMG]
 unfold Program.fieldsOf zBS
 rw [Tryz.underlying46]
 cases h1:(a.s.toList == b.s.toList) <;> cases h2:(a.k == b.k) <;> cases h3:(a.l == b.l) <;> cases h4:(a.sd == b.sd) <;> simp [go_sem,h1,h2,h3,h4]
theorem ZF.belowW {w w':World} {v:Value} {os:List OpR} (h:ZF w v os) (hb:Below w.heap.size w w'):ZF w' v os:=
 h.grown (row:=none) (zO hb none) (fun g _ e=>by cases e)
theorem ZF.at {w:World} {v:Value} {os:List OpR} (h:ZF w v os) {i:Nat} (hi:i < os.length):∃ g c,v = .slice (some ⟨g,0,none⟩) os.length c /\ g < w.heap.size /\ w.cell? ⟨g,i * 4,none⟩ = some (.string (atO os i).s) /\ w.cell? ⟨g,i * 4 + 1,none⟩ = some (.int .i64 (atO os i).k) /\ w.cell? ⟨g,i * 4 + 2,none⟩ = some (.int .i64 (atO os i).l) /\ w.cell? ⟨g,i * 4 + 3,none⟩ = some (.int .i64 (atO os i).sd):=by
 obtain ⟨a,c,rfl,⟨h0,_⟩ | ⟨g,rfl,hg,ho⟩⟩:=h
 ·omega
 ·obtain ⟨b0,b1,b2,b3⟩:=ho i hi
  simp only [Nat.zero_add] at b0 b1 b2 b3
  exact ⟨g,c,rfl,hg,b0,b1,b2,b3⟩
theorem zEq (v v':Value) (os:List OpR) (w:World) (hm:os.length <= 1048576) (h:ZF w v os) (h':ZF w v' os) :
  Calls Tryz.prog 18 #[.agg #[v],.agg #[v']] w fun e w'=>e = .returned (.bool true) /\ Below w.heap.size w w':=by
 obtain ⟨a,c,hv,_⟩:=id h
 obtain ⟨a',c',hv',_⟩:=id h'
 obtain ⟨W,hW⟩:∃ W,W = (w.alloc (.cells #[v] 55)).alloc (.cells #[v'] 55):=⟨_,rfl⟩
 have hb:Below w.heap.size w W:=by rw [hW]; exact (zC _ _).alloc (by simp) _
 have HA:=zB (h.belowW hb)
 have HA':=zB (h'.belowW hb)
 have HB:=zB hb
 have hzW:W.heap.size = w.heap.size + 2:=by rw [hW]; simp
 have t0:W.cell? ⟨w.heap.size,0,none⟩ = some v:=by rw [hW]; exact ((zC (w.alloc _) _).cell (p:=⟨w.heap.size,0,none⟩) (by simp)).trans (by simp [go_sem])
 have t1:W.cell? ⟨w.heap.size + 1,0,none⟩ = some v':=by rw [hW]; simp [go_sem]
 have HW:=zB hW
 clear h h' hb hW
 subst hv hv'
 go_enter Tryz.func18,Tryz.ntmps18
 go_wp2_with fail
 rw [<- zA HW]
 go_loopw [5] (fun i wr=>∃ n:Nat,n <= os.length /\ i = .int .i64 (n:Int) /\ Below W.heap.size W wr) (fun i _=>os.length - (intOf i).toNat)
 case atStart=>exact ⟨0,Nat.zero_le _,rfl,Below.refl _ _⟩
 case round=>
  obtain ⟨n,hn,rfl,hbel⟩:=hrel
  have d0:=(hbel.cell (p:=⟨w.heap.size,0,none⟩) (show w.heap.size < _ by omega)).trans t0
  have d1:=(hbel.cell (p:=⟨w.heap.size + 1,0,none⟩) (show w.heap.size + 1 < _ by omega)).trans t1
  by_cases hlt:n < os.length
  ·have hltI:(n:Int) < (os.length:Int):=by omega
   obtain ⟨g,c2,e1,_,b0,b1,b2,b3⟩:=((zA HA).belowW hbel).at hlt
   obtain ⟨g',c3,e2,_,x0,x1,x2,x3⟩:=((zA HA').belowW hbel).at hlt
   simp only [Value.slice.injEq,true_and] at e1 e2
   obtain ⟨rfl,rfl⟩:=e1
   obtain ⟨rfl,rfl⟩:=e2
   have hq:=fun W=>zLX (atO os n) (atO os n) W
   have hsm:zBS (atO os n) (atO os n) = true:=zAT.2 rfl
   simp only [hsm,Bool.not_true] at hq
   clear hsm
   go_wp2_with fail
   go_quiet (fail)
   go_wp2_with fail
   exact ⟨⟨n + 1,by omega,by go_num,hbel.trans ⟨rfl,rfl,rfl,Nat.le_refl _,fun _ _=>rfl⟩⟩,by simp [intOf]; omega⟩
  ·have hltI:¬ (n:Int) < (os.length:Int):=by omega
   go_wp2_with fail
   go_ret
   exact ⟨rfl,(zA HB).trans (hbel.mono (zA HB).size)⟩
theorem zCa (vu vo vu' vo':Value) (b:ByteArray) (us:List ByteArray) (os:List OpR) (w:World) (hm:us.length <= 1048576) (hm2:os.length <= 1048576) (hu:zz w vu us) (ho:ZF w vo os) (hu':zz w vu' us) (ho':ZF w vo' os) :
  Calls Tryz.prog 7 #[.agg #[vu,vo,.string b],.agg #[vu',vo',.string b]] w fun e w'=>e = .returned (.bool true) /\ Below w.heap.size w w':=by
 obtain ⟨a,c,hv,_⟩:=id hu
 obtain ⟨a',c',hv',_⟩:=id hu'
 obtain ⟨ao,co,hvo,_⟩:=id ho
 obtain ⟨ao',co',hvo',_⟩:=id ho'
 obtain ⟨W,hW⟩:∃ W,W = (w.alloc (.cells #[vu,vo,.string b] 27)).alloc (.cells #[vu',vo',.string b] 27):=⟨_,rfl⟩
 have hb:Below w.heap.size w W:=by rw [hW]; exact (zC _ _).alloc (by simp) _
 have HU:=zB (hu.below hb)
 have HU':=zB (hu'.below hb)
 have HO:=zB (ho.belowW hb)
 have HO':=zB (ho'.belowW hb)
 have HB:=zB hb
 have hzW:W.heap.size = w.heap.size + 2:=by rw [hW]; simp
 have t0:W.cell? ⟨w.heap.size,0,none⟩ = some vu /\ W.cell? ⟨w.heap.size,1,none⟩ = some vo /\ W.cell? ⟨w.heap.size,2,none⟩ = some (.string b):=by rw [hW]; exact ⟨by simp [go_sem],by simp [go_sem],by simp [go_sem]⟩
 have t1:W.cell? ⟨w.heap.size + 1,0,none⟩ = some vu' /\ W.cell? ⟨w.heap.size + 1,1,none⟩ = some vo' /\ W.cell? ⟨w.heap.size + 1,2,none⟩ = some (.string b):=by rw [hW]; exact ⟨by simp [go_sem],by simp [go_sem],by simp [go_sem]⟩
 have HW:=zB hW
 obtain ⟨t00,t01,t02⟩:=t0
 obtain ⟨t10,t11,t12⟩:=t1
 have hbb:(b.toList == b.toList) = true:=by simp
 clear hu hu' ho ho' hb hW
 subst hv hv' hvo hvo'
 go_enter Tryz.func7,Tryz.ntmps7
 go_wp2_with fail
 rw [<- zA HW]
 go_wp2_with fail
 go_loopw [5] (fun i wr=>∃ n:Nat,n <= us.length /\ i = .int .i64 (n:Int) /\ Below W.heap.size W wr) (fun i _=>us.length - (intOf i).toNat)
 case atStart=>exact ⟨0,Nat.zero_le _,rfl,Below.refl _ _⟩
 case round=>
  obtain ⟨n,hn,rfl,hbel⟩:=hrel
  have d0:=(hbel.cell (p:=⟨w.heap.size,0,none⟩) (show w.heap.size < _ by omega)).trans t00
  have d1:=(hbel.cell (p:=⟨w.heap.size + 1,0,none⟩) (show w.heap.size + 1 < _ by omega)).trans t10
  have d2:=(hbel.cell (p:=⟨w.heap.size,1,none⟩) (show w.heap.size < _ by omega)).trans t01
  have d3:=(hbel.cell (p:=⟨w.heap.size + 1,1,none⟩) (show w.heap.size + 1 < _ by omega)).trans t11
  by_cases hlt:n < us.length
  ·have hltI:(n:Int) < (us.length:Int):=by omega
   obtain ⟨g,c2,e1,_,hc⟩:=((zA HU).below hbel).lt (by omega)
   obtain ⟨g',c3,e2,_,hc'⟩:=((zA HU').below hbel).lt (by omega)
   simp only [Value.slice.injEq,true_and] at e1 e2
   obtain ⟨rfl,rfl⟩:=e1
   obtain ⟨rfl,rfl⟩:=e2
   obtain ⟨x,hx⟩:∃ x,us[n]? = some x:=⟨us[n],List.getElem?_eq_getElem hlt⟩
   have b0:=hc n x hx
   have b1:=hc' n x hx
   have hxx:(x.toList == x.toList) = true:=by simp
   clear hc hc' hx
   go_wp2_with fail
   go_quiet (fail)
   go_wp2_with fail
   exact ⟨⟨n + 1,by omega,by go_num,hbel.trans ⟨rfl,rfl,rfl,Nat.le_refl _,fun _ _=>rfl⟩⟩,by simp [intOf]; omega⟩
  ·have hltI:¬ (n:Int) < (us.length:Int):=by omega
   have HX:=zB (zEq _ _ os wr hm2 ((zA HO).belowW hbel) ((zA HO').belowW hbel))
   go_wp2_with fail
   (with_reducible refine (zA HX).mono ?_)
   rintro e w3 ⟨rfl,hb3⟩
   have HB3:=zB ((zA HB).trans ((hbel.trans (hb3.mono hbel.size)).mono (zA HB).size))
   clear hb3 HX
   go_wp2_with fail
   go_ret
   exact ⟨rfl,zA HB3⟩
end Go.Proofs.YtgiemobdmbijiaaGreatDoor
namespace Go.Proofs.YtgiemobdmbijiaaGreatDoor
set_option linter.unusedSimpArgs false
set_option linter.unusedVariables false
set_option maxHeartbeats 16000000
set_option maxRecDepth 100000
open Go.RowKit Go.Shelf
def zJQ:Go.Shelf.Ren:=⟨fun | 145=>15 | 220=>25 | 219=>40 | 217=>63 | 225=>64 | 224=>65 | 267=>66 | 266=>89 | 314=>90 | n=>n,fun | 9=>9 | 4=>4 | 59=>49 | 3=>3 | 5=>5 | 46=>108 | 146=>134 | 51=>133 | n=>n,fun | 1=>0 | n=>n⟩
theorem zOR:Go.Proofs.Lays.n145 Tryz.prog zJQ:={
 mixed:=by kernel_rfl
 f145:=Tryz.func15.trans (congrArg some (by kernel_rfl))
 f217:=Tryz.func63.trans (congrArg some (by kernel_rfl))
 f219:=Tryz.func40.trans (congrArg some (by kernel_rfl))
 f220:=Tryz.func25.trans (congrArg some (by kernel_rfl))
 f224:=Tryz.func65.trans (congrArg some (by kernel_rfl))
 f225:=Tryz.func64.trans (congrArg some (by kernel_rfl))
 f266:=Tryz.func89.trans (congrArg some (by kernel_rfl))
 f267:=Tryz.func66.trans (congrArg some (by kernel_rfl))
 f314:=Tryz.func90.trans (congrArg some (by kernel_rfl))
 t3:=Tryz.underlying3
 a3:=Tryz.isAgg3
 z3:=Tryz.sizeOf3
 v3:=Tryz.zeroValue3
 t4:=Tryz.underlying4
 a4:=Tryz.isAgg4
 z4:=Tryz.sizeOf4
 v4:=Tryz.zeroValue4
 t5:=Tryz.underlying5
 a5:=Tryz.isAgg5
 z5:=Tryz.sizeOf5
 v5:=Tryz.zeroValue5
 t9:=Tryz.underlying9
 a9:=Tryz.isAgg9
 z9:=Tryz.sizeOf9
 v9:=Tryz.zeroValue9
 t46:=Tryz.underlying108
 a46:=Tryz.isAgg108
 z46:=Tryz.sizeOf108
 v46:=Tryz.zeroValue108
 t51:=Tryz.underlying133
 a51:=Tryz.isAgg133
 z51:=Tryz.sizeOf133
 v51:=Tryz.zeroValue133
 t59:=Tryz.underlying49
 a59:=Tryz.isAgg49
 z59:=Tryz.sizeOf49
 v59:=Tryz.zeroValue49
 t146:=Tryz.underlying134
 a146:=Tryz.isAgg134
 z146:=Tryz.sizeOf134
 v146:=Tryz.zeroValue134
 g1:=by kernel_rfl }
def zJR:Go.Shelf.Ren:=⟨fun | 146=>26 | 221=>41 | 268=>67 | 138=>68 | 143=>69 | 195=>91 | 197=>92 | 218=>93 | 219=>40 | 260=>119 | 217=>63 | 225=>64 | 224=>65 | 267=>66 | 266=>89 | 314=>90 | n=>n,fun | 9=>9 | 31=>24 | 3=>3 | 4=>4 | 0=>0 | 105=>136 | 21=>21 | 5=>5 | 46=>108 | 119=>172 | 139=>175 | 138=>174 | 146=>134 | 51=>133 | n=>n,fun | 1=>0 | 3=>3 | 4=>4 | n=>n⟩
theorem zOS:Go.Proofs.Lays.n146 Tryz.prog zJR:={
 mixed:=by kernel_rfl
 f138:=Tryz.func68.trans (congrArg some (by kernel_rfl))
 f143:=Tryz.func69.trans (congrArg some (by kernel_rfl))
 f146:=Tryz.func26.trans (congrArg some (by kernel_rfl))
 f195:=Tryz.func91.trans (congrArg some (by kernel_rfl))
 f197:=Tryz.func92.trans (congrArg some (by kernel_rfl))
 f217:=Tryz.func63.trans (congrArg some (by kernel_rfl))
 f218:=Tryz.func93.trans (congrArg some (by kernel_rfl))
 f219:=Tryz.func40.trans (congrArg some (by kernel_rfl))
 f221:=Tryz.func41.trans (congrArg some (by kernel_rfl))
 f224:=Tryz.func65.trans (congrArg some (by kernel_rfl))
 f225:=Tryz.func64.trans (congrArg some (by kernel_rfl))
 f260:=Tryz.func119.trans (congrArg some (by kernel_rfl))
 f266:=Tryz.func89.trans (congrArg some (by kernel_rfl))
 f267:=Tryz.func66.trans (congrArg some (by kernel_rfl))
 f268:=Tryz.func67.trans (congrArg some (by kernel_rfl))
 f314:=Tryz.func90.trans (congrArg some (by kernel_rfl))
 t0:=Tryz.underlying0
 a0:=Tryz.isAgg0
 z0:=Tryz.sizeOf0
 v0:=Tryz.zeroValue0
 t3:=Tryz.underlying3
 a3:=Tryz.isAgg3
 z3:=Tryz.sizeOf3
 v3:=Tryz.zeroValue3
 t4:=Tryz.underlying4
 a4:=Tryz.isAgg4
 z4:=Tryz.sizeOf4
 v4:=Tryz.zeroValue4
 t5:=Tryz.underlying5
 a5:=Tryz.isAgg5
 z5:=Tryz.sizeOf5
 v5:=Tryz.zeroValue5
 t9:=Tryz.underlying9
 a9:=Tryz.isAgg9
 z9:=Tryz.sizeOf9
 v9:=Tryz.zeroValue9
 t21:=Tryz.underlying21
 a21:=Tryz.isAgg21
 z21:=Tryz.sizeOf21
 v21:=Tryz.zeroValue21
 t31:=Tryz.underlying24
 a31:=Tryz.isAgg24
 z31:=Tryz.sizeOf24
 v31:=Tryz.zeroValue24
 t46:=Tryz.underlying108
 a46:=Tryz.isAgg108
 z46:=Tryz.sizeOf108
 v46:=Tryz.zeroValue108
 t51:=Tryz.underlying133
 a51:=Tryz.isAgg133
 z51:=Tryz.sizeOf133
 v51:=Tryz.zeroValue133
 t105:=Tryz.underlying136
 a105:=Tryz.isAgg136
 z105:=Tryz.sizeOf136
 v105:=Tryz.zeroValue136
 t119:=Tryz.underlying172
 a119:=Tryz.isAgg172
 z119:=Tryz.sizeOf172
 t138:=Tryz.underlying174
 a138:=Tryz.isAgg174
 z138:=Tryz.sizeOf174
 v138:=Tryz.zeroValue174
 t139:=Tryz.underlying175
 a139:=Tryz.isAgg175
 z139:=Tryz.sizeOf175
 v139:=Tryz.zeroValue175
 t146:=Tryz.underlying134
 a146:=Tryz.isAgg134
 z146:=Tryz.sizeOf134
 v146:=Tryz.zeroValue134
 g1:=by kernel_rfl
 g3:=by kernel_rfl
 g4:=by kernel_rfl }
def zJS:Go.Shelf.Ren:=⟨fun | 172=>43 | 244=>71 | 245=>72 | 247=>96 | 279=>97 | 280=>98 | 281=>99 | 282=>100 | 287=>121 | 316=>122 | 171=>124 | 205=>123 | 321=>132 | 322=>133 | 243=>134 | 246=>135 | 283=>136 | 284=>137 | 285=>138 | 286=>139 | 129=>141 | 317=>140 | 318=>142 | 319=>143 | 320=>144 | 337=>145 | 338=>146 | n=>n,fun | 9=>9 | 3=>3 | 75=>81 | 76=>82 | 4=>4 | 5=>5 | 167=>140 | 37=>22 | 0=>0 | 85=>141 | 2=>2 | 168=>143 | 53=>161 | 175=>162 | 46=>108 | 210=>166 | 127=>177 | 145=>180 | 143=>178 | 21=>21 | 171=>182 | 173=>185 | 212=>188 | 51=>133 | 20=>20 | 213=>189 | 232=>193 | 233=>194 | 80=>195 | n=>n,fun | 15=>1 | 16=>2 | 17=>5 | 18=>6 | 19=>7 | n=>n⟩
theorem zOT:Go.Proofs.Lays.n172 Tryz.prog zJS:={
 mixed:=by kernel_rfl
 f129:=Tryz.func141.trans (congrArg some (by kernel_rfl))
 f171:=Tryz.func124.trans (congrArg some (by kernel_rfl))
 f172:=Tryz.func43.trans (congrArg some (by kernel_rfl))
 f205:=Tryz.func123.trans (congrArg some (by kernel_rfl))
 f243:=Tryz.func134.trans (congrArg some (by kernel_rfl))
 f244:=Tryz.func71.trans (congrArg some (by kernel_rfl))
 f245:=Tryz.func72.trans (congrArg some (by kernel_rfl))
 f246:=Tryz.func135.trans (congrArg some (by kernel_rfl))
 f247:=Tryz.func96.trans (congrArg some (by kernel_rfl))
 f279:=Tryz.func97.trans (congrArg some (by kernel_rfl))
 f280:=Tryz.func98.trans (congrArg some (by kernel_rfl))
 f281:=Tryz.func99.trans (congrArg some (by kernel_rfl))
 f282:=Tryz.func100.trans (congrArg some (by kernel_rfl))
 f283:=Tryz.func136.trans (congrArg some (by kernel_rfl))
 f284:=Tryz.func137.trans (congrArg some (by kernel_rfl))
 f285:=Tryz.func138.trans (congrArg some (by kernel_rfl))
 f286:=Tryz.func139.trans (congrArg some (by kernel_rfl))
 f287:=Tryz.func121.trans (congrArg some (by kernel_rfl))
 f316:=Tryz.func122.trans (congrArg some (by kernel_rfl))
 f317:=Tryz.func140.trans (congrArg some (by kernel_rfl))
 f318:=Tryz.func142.trans (congrArg some (by kernel_rfl))
 f319:=Tryz.func143.trans (congrArg some (by kernel_rfl))
 f320:=Tryz.func144.trans (congrArg some (by kernel_rfl))
 f321:=Tryz.func132.trans (congrArg some (by kernel_rfl))
 f322:=Tryz.func133.trans (congrArg some (by kernel_rfl))
 f337:=Tryz.func145.trans (congrArg some (by kernel_rfl))
 f338:=Tryz.func146.trans (congrArg some (by kernel_rfl))
 t0:=Tryz.underlying0
 a0:=Tryz.isAgg0
 z0:=Tryz.sizeOf0
 v0:=Tryz.zeroValue0
 t2:=Tryz.underlying2
 a2:=Tryz.isAgg2
 z2:=Tryz.sizeOf2
 v2:=Tryz.zeroValue2
 t3:=Tryz.underlying3
 a3:=Tryz.isAgg3
 z3:=Tryz.sizeOf3
 v3:=Tryz.zeroValue3
 t4:=Tryz.underlying4
 a4:=Tryz.isAgg4
 z4:=Tryz.sizeOf4
 v4:=Tryz.zeroValue4
 t5:=Tryz.underlying5
 a5:=Tryz.isAgg5
 z5:=Tryz.sizeOf5
 v5:=Tryz.zeroValue5
 t9:=Tryz.underlying9
 a9:=Tryz.isAgg9
 z9:=Tryz.sizeOf9
 v9:=Tryz.zeroValue9
 t20:=Tryz.underlying20
 a20:=Tryz.isAgg20
 z20:=Tryz.sizeOf20
 v20:=Tryz.zeroValue20
 t21:=Tryz.underlying21
 a21:=Tryz.isAgg21
 z21:=Tryz.sizeOf21
 v21:=Tryz.zeroValue21
 t37:=Tryz.underlying22
 a37:=Tryz.isAgg22
 z37:=Tryz.sizeOf22
 v37:=Tryz.zeroValue22
 t46:=Tryz.underlying108
 a46:=Tryz.isAgg108
 z46:=Tryz.sizeOf108
 v46:=Tryz.zeroValue108
 t51:=Tryz.underlying133
 a51:=Tryz.isAgg133
 z51:=Tryz.sizeOf133
 v51:=Tryz.zeroValue133
 t53:=Tryz.underlying161
 a53:=Tryz.isAgg161
 z53:=Tryz.sizeOf161
 v53:=Tryz.zeroValue161
 t75:=Tryz.underlying81
 a75:=Tryz.isAgg81
 z75:=Tryz.sizeOf81
 v75:=Tryz.zeroValue81
 t76:=Tryz.underlying82
 a76:=Tryz.isAgg82
 z76:=Tryz.sizeOf82
 v76:=Tryz.zeroValue82
 t85:=Tryz.underlying141
 a85:=Tryz.isAgg141
 z85:=Tryz.sizeOf141
 v85:=Tryz.zeroValue141
 t127:=Tryz.underlying177
 a127:=Tryz.isAgg177
 z127:=Tryz.sizeOf177
 v127:=Tryz.zeroValue177
 t143:=Tryz.underlying178
 a143:=Tryz.isAgg178
 z143:=Tryz.sizeOf178
 v143:=Tryz.zeroValue178
 t145:=Tryz.underlying180
 a145:=Tryz.isAgg180
 z145:=Tryz.sizeOf180
 v145:=Tryz.zeroValue180
 t167:=Tryz.underlying140
 a167:=Tryz.isAgg140
 z167:=Tryz.sizeOf140
 v167:=Tryz.zeroValue140
 t168:=Tryz.underlying143
 a168:=Tryz.isAgg143
 z168:=Tryz.sizeOf143
 v168:=Tryz.zeroValue143
 t171:=Tryz.underlying182
 a171:=Tryz.isAgg182
 z171:=Tryz.sizeOf182
 v171:=Tryz.zeroValue182
 t173:=Tryz.underlying185
 a173:=Tryz.isAgg185
 z173:=Tryz.sizeOf185
 v173:=Tryz.zeroValue185
 t175:=Tryz.underlying162
 a175:=Tryz.isAgg162
 z175:=Tryz.sizeOf162
 v175:=Tryz.zeroValue162
 t210:=Tryz.underlying166
 a210:=Tryz.isAgg166
 z210:=Tryz.sizeOf166
 v210:=Tryz.zeroValue166
 t212:=Tryz.underlying188
 a212:=Tryz.isAgg188
 z212:=Tryz.sizeOf188
 v212:=Tryz.zeroValue188
 t213:=Tryz.underlying189
 a213:=Tryz.isAgg189
 z213:=Tryz.sizeOf189
 t232:=Tryz.underlying193
 a232:=Tryz.isAgg193
 z232:=Tryz.sizeOf193
 v232:=Tryz.zeroValue193
 t233:=Tryz.underlying194
 a233:=Tryz.isAgg194
 z233:=Tryz.sizeOf194
 v233:=Tryz.zeroValue194
 g15:=by kernel_rfl
 g16:=by kernel_rfl
 g17:=by kernel_rfl
 g18:=by kernel_rfl
 g19:=by kernel_rfl }
def zGW (w:World):Prop:=∃ m:Int,w.cell? ⟨0,0,none⟩ = some (.int .i64 m)
theorem zGW.lt {w:World} (h:zGW w):0 < w.heap.size:=by
 obtain ⟨m,h⟩:=h
 exact World.block_lt_of_cell? _ _ h
theorem zGW.below {w w':World} (h:zGW w) (hb:Below w.heap.size w w'):zGW w':=by
 have hl:=h.lt
 obtain ⟨m,h⟩:=h
 exact ⟨m,(hb.cell (p:=⟨0,0,none⟩) hl).trans h⟩
theorem zID {B:Nat} {a w:World} (h:Below B a w) (n:Nat):Below B a (w.drewN n):=h.trans ⟨rfl,rfl,rfl,Nat.le_refl _,fun _ _=>rfl⟩
theorem zPQ (s r:ByteArray) (a:Nat) (hr:r = s.extract a s.size) (ha:a <= s.size) (hs:s.size <= 20000) (w:World) (hm:zGW w) :
  Calls Tryz.prog 15 #[.string r,.string ⟨#[10]⟩] w fun e w'=>e = .returned (.tuple #[.string (s.extract a (nx 10 s a)),.string (zAZ s (nx 10 s a)),.bool (decide (nx 10 s a < s.size))]) /\ Below w.heap.size w w':=by
 obtain ⟨m,hm⟩:=hm
 subst hr
 obtain ⟨e1,e2,e3⟩:=zOi s a ha
 refine (Any.strings_Cut zOR (s.extract a s.size) ⟨#[10]⟩ m w (by rw [ZO]; omega) hm).mono ?_
 rintro e w' ⟨rfl,n,rfl⟩
 refine ⟨?_,zID (Below.refl _ _) n⟩
 have e1':(⟨(Lib.cut (s.extract a s.size).data.toList (⟨#[10]⟩:ByteArray).data.toList).1.toArray⟩:ByteArray) = s.extract a (nx 10 s a):=e1
 have e2':(⟨(Lib.cut (s.extract a s.size).data.toList (⟨#[10]⟩:ByteArray).data.toList).2.1.toArray⟩:ByteArray) = zAZ s (nx 10 s a):=e2
 have e3':(Lib.cut (s.extract a s.size).data.toList (⟨#[10]⟩:ByteArray).data.toList).2.2 = decide (nx 10 s a < s.size):=e3
 rw [e1',e2',e3']
theorem zLY (s:ByteArray) (hs:s.size <= 20000) (w:World) (hm:zGW w) :
  Calls Tryz.prog 26 #[.string s,.string ⟨#[32]⟩] w fun e w'=>∃ ps:List ByteArray,Hid (zFY ps = wds s) /\ ps.length <= s.size + 1 /\ e = .returned (.slice (some ⟨w.heap.size,0,none⟩) ps.length ps.length) /\ w' = w.alloc (.cells (ps.map Value.string).toArray 9):=by
 obtain ⟨m,hm⟩:=hm
 have h1:1 <= (⟨#[32]⟩:ByteArray).size:=Nat.le_refl _
 refine (Any.strings_Split zOS (by kernel_rfl) s ⟨#[32]⟩ m w (by omega) hm h1).mono ?_
 rintro e w' ⟨rfl,rfl⟩
 have hl:=Lib.splitB_all ⟨#[32]⟩ h1 0 _ s rfl
 have hc:=Lib.countB_le ⟨#[32]⟩ h1 s.size s (Nat.le_refl _)
 refine ⟨Lib.splitB ⟨#[32]⟩ 0 (Lib.countB s ⟨#[32]⟩) s,zB (zJY s),by omega,by rw [hl],rfl⟩
theorem zJT (t:ByteArray) (h:∀ i,i < t.size -> 48 <= (bt t i).toNat /\ (bt t i).toNat <= 57):∀ k,k <= t.size -> Lib.decFrom 0 (t.data.toList.take k) = some (zx t k)
 | 0,_=>by simp [Lib.decFrom,zx]
 | k + 1,hk=>by
  refine Lib.decFrom_take t.data.toList k 0 (zx t k) (bt t k) _ (zJT t h k (by omega)) (zHU (by omega)) ?_
  unfold Lib.digitVal
  rw [if_pos (h k (by omega))]
theorem zNI (t:ByteArray) (h:zJW t):Lib.atoi t.data.toList = some (zx t t.size:Int):=by
 obtain ⟨h1,h2,h3⟩:=h
 have hd:=zJT t h3 t.size (Nat.le_refl _)
 rw [List.take_of_length_le (by exact Nat.le_refl _)] at hd
 have h0:=zHU (s:=t) (j:=0) (by omega)
 obtain ⟨b,r,hl⟩:∃ b r,t.data.toList = b :: r:=by
  cases hx:t.data.toList with
  | nil=>rw [hx] at h0; simp at h0
  | cons b r=>exact ⟨b,r,rfl⟩
 rw [hl] at hd h0 ⊢
 have hb:b = bt t 0:=by simpa using h0
 have hz:=h3 0 (by omega)
 rw [<- hb] at hz
 have n45:(b == 45) = false:=by
  simp only [beq_eq_false_iff_ne,ne_eq]; rintro rfl; exact absurd hz.1 (by decide)
 have n43:(b == 43) = false:=by
  simp only [beq_eq_false_iff_ne,ne_eq]; rintro rfl; exact absurd hz.1 (by decide)
 unfold Lib.atoi Lib.decNat
 simp [n45,n43,hd]
theorem zOU (t:ByteArray) (h:zCu t = true) (w:World) :
  Calls Tryz.prog 43 #[.string t] w fun e w'=>e = .returned (.tuple #[.int .i64 (zx t t.size:Int),.nilIface]) /\ Below w.heap.size w w':=by
 have hl:=(zB5 t).1 h
 refine (Any.strconv_Atoi zOT t _ (by have:=hl.2.1; omega) (zNI t hl) w).mono ?_
 rintro e w' ⟨rfl,u,rfl⟩
 exact ⟨rfl,Joins.below_bytesWorld _ _ _ _ (Nat.le_refl _)⟩
end Go.Proofs.YtgiemobdmbijiaaGreatDoor
namespace Go.Proofs.YtgiemobdmbijiaaGreatDoor
set_option linter.unusedSimpArgs false
set_option linter.unusedVariables false
set_option maxHeartbeats 16000000
set_option maxRecDepth 100000
open Go.RowKit
theorem zGX (a:Option Addr) (c n:Nat) (w:World) (hn:n < 3) :
  Calls Tryz.prog 27 #[.slice a n c] w fun e w'=>(∃ o:OpR,e = .returned (.tuple #[.agg #[.string o.s,.int .i64 o.k,.int .i64 o.l,.int .i64 o.sd],.bool false])) /\ Below w.heap.size w w':=by
 have hnI:(n:Int) < 3:=by omega
 go_enter Tryz.func27,Tryz.ntmps27
 go_wp2
 refine bodyPost_ret (v:=.tuple #[.agg #[.string ⟨#[]⟩,.int .i64 0,.int .i64 0,.int .i64 0],.bool false]) ?res rfl ⟨⟨OpR.zero,rfl⟩,?_⟩
 case res=>simp [results,Tryz.results27,go_sem]
 exact zC _ _
theorem zOV {k:ByteArray}:(zBh k = 1 /\ k = Zi) \/ (zBh k = 2 /\ k = Z7) \/ (zBh k = 3 /\ k = ZN) \/ (zBh k = 0 /\ k ≠ Zi /\ k ≠ Z7 /\ k ≠ ZN):=by
 unfold zBh
 by_cases h1:k = Zi
 ·rw [if_pos h1]; exact Or.inl ⟨rfl,h1⟩
 by_cases h2:k = Z7
 ·rw [if_neg h1,if_pos h2]; exact Or.inr (Or.inl ⟨rfl,h2⟩)
 by_cases h3:k = ZN
 ·rw [if_neg h1,if_neg h2,if_pos h3]; exact Or.inr (Or.inr (Or.inl ⟨rfl,h3⟩))
 ·rw [if_neg h1,if_neg h2,if_neg h3]; exact Or.inr (Or.inr (Or.inr ⟨rfl,h1,h2,h3⟩))
theorem zFH (g c n:Nat) (k t l sd:ByteArray) (w:World) (hn:3 <= n) (hsl:l.size <= maxLen) (c0:w.cell? ⟨g,0,none⟩ = some (.string k)) (c1:w.cell? ⟨g,1,none⟩ = some (.string t)) (c2:w.cell? ⟨g,2,none⟩ = some (.string l)) (c3:4 <= n -> w.cell? ⟨g,3,none⟩ = some (.string sd)) :
  Calls Tryz.prog 27 #[.slice (some ⟨g,0,none⟩) n c] w (zHv w n k t l sd):=by
 have hg:g < w.heap.size:=World.block_lt_of_cell? _ _ c0
 have hg2:g ≠ w.heap.size:=by omega
 have hnI:¬ (n:Int) < 3:=by omega
 have hnI0:(0:Int) < (n:Int):=by omega
 have hnI1:(1:Int) < (n:Int):=by omega
 have hnI2:(2:Int) < (n:Int):=by omega
 have HC3:=zB c3
 clear c3
 cases hl:zCu l
 ·have HX:=zB (show ∀ W:World,Calls Tryz.prog 42 #[.string l] W fun e w'=>e = .returned (.bool false) /\ w' = W from fun W=>by have h:=zCY l W hsl; rw [hl] at h; exact h)
  have HA:=zB (zIz (n:=n) (k:=k) (t:=t) (sd:=sd) hl)
  clear hl
  go_enter Tryz.func27,Tryz.ntmps27
  go_wp2_with (go_at_call 42; (with_reducible refine ((zA HX) _).mono ?_); rintro e w1 ⟨rfl,hx⟩; obtain rfl:=hx.symm; clear hx)
  refine bodyPost_ret (v:=.tuple #[.agg #[.string ⟨#[]⟩,.int .i64 0,.int .i64 0,.int .i64 0],.bool false]) ?res rfl ⟨OpR.zero,false,rfl,Or.inr ⟨rfl,zA HA⟩,?_⟩
  case res=>simp [results,Tryz.results27,go_sem]
  exact zC _ _
 obtain ⟨V,hV⟩:∃ V:Nat,V = zx l l.size:=⟨_,rfl⟩
 have HX:=zB (show ∀ W:World,Calls Tryz.prog 42 #[.string l] W fun e w'=>e = .returned (.bool true) /\ w' = W from fun W=>by have h:=zCY l W hsl; rw [hl] at h; exact h)
 have HT:=zB (show ∀ W:World,Calls Tryz.prog 43 #[.string l] W fun e w'=>e = .returned (.tuple #[.int .i64 (V:Int),.nilIface]) /\ Below W.heap.size W w' from fun W=>by have h:=zOU l hl W; rw [<- hV] at h; exact h)
 have HLB:=zB hl
 have HV:=zB hV
 clear hl hV
 obtain ⟨KI,hKI⟩:∃ KI:Int,KI = zBh k:=⟨_,rfl⟩
 have HK:=zB (show ∀ W:World,Calls Tryz.prog 44 #[.string k] W fun e w'=>e = .returned (.int .i64 KI) /\ w' = W from fun W=>by rw [hKI]; exact zF5 k W)
 have HKI:=zB hKI
 clear hKI
 have HZ:=zB (show zCR (w.alloc (.cells #[.string ⟨#[]⟩,.int .i64 0,.int .i64 0,.int .i64 0] 46)) w.heap.size OpR.zero from ⟨⟨by simp [go_sem,OpR.zero],by simp [go_sem,OpR.zero],by simp [go_sem,OpR.zero],by simp [go_sem,OpR.zero]⟩,by simp [go_sem],by simp [go_sem],by simp [go_sem],by simp [go_sem]⟩)
 go_enter Tryz.func27,Tryz.ntmps27
 go_wp2_with (first | (go_at_call 42; (with_reducible refine ((zA HX) _).mono ?_); rintro e w1 ⟨rfl,hx⟩; obtain rfl:=hx.symm; clear hx) | (go_at_call 43; (with_reducible refine ((zA HT) _).mono ?_); rintro e w1 ⟨rfl,hb1⟩; have HB1:=zB ((zC w _).trans (hb1.mono (by simp))); have HZ1:=zB ((zA HZ).below hb1 (by simp)); have z1:w.heap.size + 1 <= w1.heap.size:=(by have:=hb1.size; simp at this; omega); clear hb1))
 have d0:w1.cell? ⟨g,0,none⟩ = some (.string k):=((zA HB1).cell (p:=⟨g,0,none⟩) hg).trans c0
 have d1:w1.cell? ⟨g,1,none⟩ = some (.string t):=((zA HB1).cell (p:=⟨g,1,none⟩) hg).trans c1
 have HK3:=zB (show 4 <= n -> w1.cell? ⟨g,3,none⟩ = some (.string sd) from fun h=>((zA HB1).cell (p:=⟨g,3,none⟩) hg).trans ((zA HC3) h))
 clear c0 c1 c2 HC3 HZ HX HT
 go_cut [6] (fun s4 wc=>∃ b4:Nat,s4 = .pointer (some ⟨b4,0,none⟩) /\ w.heap.size < b4 /\ b4 < wc.heap.size /\ Hid (zCR wc b4 ⟨t,KI,(V:Int),0⟩) /\ Hid (Below w1.heap.size w1 wc))
 case first=>
  have hg3:g < w1.heap.size:=by omega
  go_region_held (fun w'=>w'.cell? ⟨g,0,none⟩ = some (.string k) /\ w'.cell? ⟨g,1,none⟩ = some (.string t)) (go_keep)
   (first | (go_at_call 44; have HX1:=(zA HK); (with_reducible refine (HX1 _).mono ?_); rintro e w2 ⟨rfl,hx⟩; obtain rfl:=hx.symm; clear hx HX1))
  all_goals
   go_wp2_with fail
   go_meet
   case rel=>
    go_light
    exact ⟨w1.heap.size,rfl,by omega,by simp,zB ⟨⟨by simp [go_sem],by simp [go_sem],by simp [go_sem],by simp [go_sem]⟩,by simp [go_sem],by simp [go_sem],by simp [go_sem],by simp [go_sem]⟩,zB ((zC _ _).drew)⟩
 case rest=>
  obtain ⟨b4,rfl,hb4,hb4l,HB4,HBC⟩:=hcut
  have HBW:=zB ((zA HB1).trans ((zA HBC).mono (by omega)))
  have HB0:=zB ((zA HZ1).below (zA HBC) (by omega))
  obtain ⟨⟨p0,p1,p2,p3⟩,f0,f1,f2,f3⟩:=zA HB4
  obtain ⟨⟨r0,r1,r2,r3⟩,z0,z1',z2,z3⟩:=zA HB0
  simp only [OpR.zero] at p0 p1 p2 p3 r0 r1 r2 r3
  have e1:b4 ≠ w.heap.size:=by omega
  have e2:w.heap.size ≠ b4:=by omega
  have e3:b4 ≠ g:=by omega
  have e4:g ≠ b4:=by omega
  have HK4:=zB (show 4 <= n -> wc.cell? ⟨g,3,none⟩ = some (.string sd) from fun h=>((zA HBC).cell (p:=⟨g,3,none⟩) (by show g < w1.heap.size; omega)).trans ((zA HK3) h))
  clear HB4 HB0 HK3 d0 d1 HK HZ1 HBC HB1
  rcases zOV (k:=k) with ⟨hk,hkw⟩ | ⟨hk,hkw⟩ | ⟨hk,hkw⟩ | ⟨hk,hk1,hk2,hk3⟩
  ·have HA0:=zB (zGA (n:=n) (t:=t) (sd:=sd) (zA HLB) hkw)
   obtain rfl:KI = 1:=(zA HKI).trans hk
   by_cases h3:n = 3
   ·have HA:=zB (show Zm n k t l sd = some ⟨t,1,(V:Int),0⟩ by rw [zA HA0,if_pos h3,zA HV])
    have h3I:((n:Int) == 3) = true:=by simp; omega
    clear h3 HA0 hk hkw HKI
    go_wp2
    refine bodyPost_ret (v:=.tuple #[.agg #[.string t,.int .i64 1,.int .i64 (V:Int),.int .i64 0],.bool true]) ?res rfl ⟨⟨t,1,(V:Int),0⟩,true,rfl,Or.inl ⟨rfl,zA HA⟩,?_⟩
    case res=>simp [results,Tryz.results27,go_sem,r0,r1,r2,r3,e1,e2,e3,e4]
    exact zJ (Nat.le_refl _) [.string t,.int .i64 1,.int .i64 (V:Int),.int .i64 0] 0 _ (zA HBW)
   ·have HA:=zB (show Zm n k t l sd = none by rw [zA HA0,if_neg h3])
    have h3I:((n:Int) == 3) = false:=by simp; omega
    clear h3 HA0 hk hkw HKI
    go_wp2
    refine bodyPost_ret (v:=.tuple #[.agg #[.string t,.int .i64 1,.int .i64 (V:Int),.int .i64 0],.bool false]) ?res rfl ⟨⟨t,1,(V:Int),0⟩,false,rfl,Or.inr ⟨rfl,zA HA⟩,?_⟩
    case res=>simp [results,Tryz.results27,go_sem,r0,r1,r2,r3,e1,e2,e3,e4]
    exact zJ (Nat.le_refl _) [.string t,.int .i64 1,.int .i64 (V:Int),.int .i64 0] 0 _ (zA HBW)
  ·have HA0:=zB (zHC (n:=n) (t:=t) (sd:=sd) (zA HLB) hkw)
   obtain rfl:KI = 2:=(zA HKI).trans hk
   by_cases h4:n = 4
   ·have h4I:((n:Int) == 4) = true:=by simp; omega
    have h4J:(3:Int) < (n:Int):=by omega
    have k3:=(zA HK4) (by omega)
    obtain ⟨S,hS⟩:∃ S:Int,S = ZM sd:=⟨_,rfl⟩
    have HS:=zB (show ∀ W:World,Calls Tryz.prog 45 #[.string sd] W fun e w'=>e = .returned (.int .i64 S) /\ w' = W from fun W=>by rw [hS]; exact zF4 sd W)
    have HA:=zB (show ∀ v:Bool,v = (S != 0) -> (v = true /\ Zm n k t l sd = some ⟨t,2,(V:Int),S⟩) \/ (v = false /\ Zm n k t l sd = none) from fun v hv=>by
     rw [zA HA0]
     by_cases hs0:S = 0
     ·right
      exact ⟨by rw [hv]; simp [hs0],by rw [if_neg (fun x=>x.2 (hS.symm.trans hs0))]⟩
     ·left
      exact ⟨by rw [hv]; simp [hs0],by rw [if_pos ⟨h4,fun x=>hs0 (hS.trans x)⟩,zA HV,hS]⟩)
    clear HA0 hS h4 hk hkw HKI
    go_wp2_with (first | (go_at_call 45; (with_reducible refine ((zA HS) _).mono ?_); rintro e w2 ⟨rfl,hx⟩; obtain rfl:=hx.symm; clear hx))
    go_region
    go_wp2
    refine bodyPost_ret (v:=.tuple #[.agg #[.string t,.int .i64 2,.int .i64 (V:Int),.int .i64 S],.bool (S != 0)]) ?res rfl ⟨⟨t,2,(V:Int),S⟩,(S != 0),rfl,(zA HA) _ rfl,?_⟩
    case res=>simp [results,Tryz.results27,go_sem,r0,r1,r2,r3,e1,e2,e3,e4]
    exact zJ (Nat.le_refl _) [.string t,.int .i64 2,.int .i64 (V:Int),.int .i64 S] 0 _ ((zA HBW).setCell (p:=⟨b4,3,none⟩) (by show w.heap.size <= b4; omega) _).drew
   ·have HA:=zB (show Zm n k t l sd = none by rw [zA HA0,if_neg (fun x=>h4 x.1)])
    have h4I:((n:Int) == 4) = false:=by simp; omega
    clear h4 HA0 hk hkw HKI
    go_wp2
    refine bodyPost_ret (v:=.tuple #[.agg #[.string ⟨#[]⟩,.int .i64 0,.int .i64 0,.int .i64 0],.bool false]) ?res rfl ⟨OpR.zero,false,rfl,Or.inr ⟨rfl,zA HA⟩,?_⟩
    case res=>simp [results,Tryz.results27,go_sem,r0,r1,r2,r3]
    first
     | exact zA HBW
     | exact zJ (Nat.le_refl _) [.string ⟨#[]⟩,.int .i64 0,.int .i64 0,.int .i64 0] 0 _ (zA HBW)
  ·have HA0:=zB (zE1 (n:=n) (t:=t) (sd:=sd) (zA HLB) hkw)
   obtain rfl:KI = 3:=(zA HKI).trans hk
   by_cases h3:n = 3
   ·have HA:=zB (show Zm n k t l sd = some ⟨t,3,(V:Int),0⟩ by rw [zA HA0,if_pos h3,zA HV])
    have h3I:((n:Int) == 3) = true:=by simp; omega
    clear h3 HA0 hk hkw HKI
    go_wp2
    refine bodyPost_ret (v:=.tuple #[.agg #[.string t,.int .i64 3,.int .i64 (V:Int),.int .i64 0],.bool true]) ?res rfl ⟨⟨t,3,(V:Int),0⟩,true,rfl,Or.inl ⟨rfl,zA HA⟩,?_⟩
    case res=>simp [results,Tryz.results27,go_sem,r0,r1,r2,r3,e1,e2,e3,e4]
    exact zJ (Nat.le_refl _) [.string t,.int .i64 3,.int .i64 (V:Int),.int .i64 0] 0 _ (zA HBW)
   ·have HA:=zB (show Zm n k t l sd = none by rw [zA HA0,if_neg h3])
    have h3I:((n:Int) == 3) = false:=by simp; omega
    clear h3 HA0 hk hkw HKI
    go_wp2
    refine bodyPost_ret (v:=.tuple #[.agg #[.string t,.int .i64 3,.int .i64 (V:Int),.int .i64 0],.bool false]) ?res rfl ⟨⟨t,3,(V:Int),0⟩,false,rfl,Or.inr ⟨rfl,zA HA⟩,?_⟩
    case res=>simp [results,Tryz.results27,go_sem,r0,r1,r2,r3,e1,e2,e3,e4]
    exact zJ (Nat.le_refl _) [.string t,.int .i64 3,.int .i64 (V:Int),.int .i64 0] 0 _ (zA HBW)
  ·have HA:=zB (zHD (n:=n) (t:=t) (l:=l) (sd:=sd) hk1 hk3 hk2)
   obtain rfl:KI = 0:=(zA HKI).trans hk
   clear hk hk1 hk2 hk3 HKI
   go_wp2
   refine bodyPost_ret (v:=.tuple #[.agg #[.string ⟨#[]⟩,.int .i64 0,.int .i64 0,.int .i64 0],.bool false]) ?res rfl ⟨OpR.zero,false,rfl,Or.inr ⟨rfl,zA HA⟩,?_⟩
   case res=>simp [results,Tryz.results27,go_sem,r0,r1,r2,r3]
   first
    | exact zA HBW
    | exact zJ (Nat.le_refl _) [.string ⟨#[]⟩,.int .i64 0,.int .i64 0,.int .i64 0] 0 _ (zA HBW)
end Go.Proofs.YtgiemobdmbijiaaGreatDoor
