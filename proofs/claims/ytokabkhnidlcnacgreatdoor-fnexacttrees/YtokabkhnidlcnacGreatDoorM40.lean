import Derived.Shelf.Strings.Cut
import Derived.Shelf.Strings.Split
import Derived.Shelf.Strconv.Atoi
import Derived.Lib.SmallJoins
import Derived.Deep.DeepCutAuto
import Derived.Deep.RegionHeld
import Derived.Test.YtokabkhnidlcnacGreatDoorM02
import Derived.Test.YtokabkhnidlcnacGreatDoorM03
import Derived.Test.YtokabkhnidlcnacGreatDoorM04
import Derived.Test.YtokabkhnidlcnacGreatDoorM39
namespace Go.Proofs.YtokabkhnidlcnacGreatDoor
set_option linter.unusedSimpArgs false
set_option linter.unusedVariables false
set_option maxHeartbeats 16000000
set_option maxRecDepth 100000
open Go.RowKit Go.Maps
theorem zKm {us ks:List OpR} {k:Nat} (h:k < us.length):zO ks (us.take (k + 1)) = zCE (zO ks (us.take k)) (atO us k):=by
 rw [List.take_add_one,List.getElem?_eq_getElem h,zCF]
 unfold zO atO
 simp [h]
theorem zDg:∀ (xs acc:List OpR),(zO acc xs).length <= acc.length + xs.length
 | [],acc=>by simp [zO]
 | x :: r,acc=>by
  show (zO (zCE acc x) r).length <= _
  have h1:=zDg r (zCE acc x)
  have h2:(zCE acc x).length <= acc.length + 1:=by
   by_cases h:x ∈ acc
   ·rw [zBc h]; omega
   ·rw [zCg h]; simp
  simp; omega
theorem zFO (b o B:Nat) (kv:Value) (pv:Option Nat) (ks:List OpR) (v:Value) (us:List OpR) (w:World) (h:zCM w b o B kv pv ks) (hs:∀ x ∈ us,zCy x) (hl:ks.length + us.length <= 1048576) (hB:B <= w.heap.size) (hr:ZC w v us) (ha:Apt v b kv pv) :
  Calls Tryz.prog 104 #[.pointer (some ⟨b,o,none⟩),v] w fun e w'=>e = .returned (.tuple #[]) /\ zt w b o B kv pv (zO ks us) w':=by
 have hbl:=h.lt
 have HP:=zB (show zt w b o B kv pv (zO ks (us.take 0)) w from ⟨kv,pv,by simpa [zO] using h,Eff.refl _ _ _ _ _,Or.inl rfl,Or.inl rfl⟩)
 have HA:=zB ha
 have HS:=zB hs
 have HR:=zB hr
 obtain ⟨a,c,rfl,_⟩:=hr
 clear h ha hs
 go_enter Tryz.func104,Tryz.ntmps104
 go_wp2
 go_loopw [8] (fun i wr=>∃ (k:Nat),k <= us.length /\ i = .int .i64 (k:Int) /\ Hid (zt w b o B kv pv (zO ks (us.take k)) wr)) (fun i _=>us.length - (intOf i).toNat)
 case atStart=>exact ⟨0,Nat.zero_le _,rfl,HP⟩
 case round=>
  obtain ⟨k,hk,rfl,HQ⟩:=hrel
  by_cases hlt:k < us.length
  ·have hltI:(k:Int) < (us.length:Int):=by omega
   obtain ⟨kv1,pv1,h1,h2,h3,h4⟩:=zA HQ
   obtain ⟨a',c',hv',h5⟩:=zA HR
   obtain ⟨rfl,rfl⟩:a = a' /\ c = c':=by injection hv' with x _ y; exact ⟨x,y⟩
   rcases h5 with ⟨h5,_⟩ | ⟨g,rfl,hgl,hgc⟩
   ·omega
   obtain ⟨a1,a2,a3⟩:=(zA HA) g rfl
   have ec:=fun j=>h2.cell hgl a1 a2 a3 j
   obtain ⟨q0,q1,q2,q3⟩:=hgc k hlt
   have e0:=(ec _).trans q0
   have e1:=(ec _).trans q1
   have e2:=(ec _).trans q2
   have e3:=(ec _).trans q3
   simp only [Nat.zero_add] at e0 e1 e2 e3
   have hln:=zDg (us.take k) ks
   rw [List.length_take] at hln
   have hz:=h2.size
   obtain ⟨t,ht⟩:∃ t,t = atO us k:=⟨_,rfl⟩
   have HT:=zB (zKm (ks:=ks) hlt)
   rw [<- ht] at e0 e1 e2 e3 HT
   have hft:zCy t:=(zA HS) t (by rw [ht]; unfold atO; simp [hlt])
   obtain ⟨W,hW⟩:∃ W,W = wr.alloc (.cells #[.string t.s,.int .i64 t.k,.int .i64 t.l,.int .i64 t.sd] 41):=⟨_,rfl⟩
   have hbW:Below wr.heap.size wr W:=by rw [hW]; exact zC _ _
   have hzW:wr.heap.size + 1 <= W.heap.size:=by rw [hW]; simp
   have HX:=zB (zNs b o B kv1 pv1 _ t W (h1.below hbW) hft (by omega) (by omega))
   have HF:=zB (fun w2 (hh:zt W b o B kv1 pv1 (zCE (zO ks (us.take k)) t) w2)=>show zt w b o B kv pv (zO ks (us.take (k + 1))) w2 from (by rw [zA HT]; exact zt.step (h2.trans (Eff.of_below hbW h1.lt _ kv1 pv1) h3 h4) h3 h4 hh))
   have HWW:=zB hW
   clear hv' h1 h2 h3 h4 hln HQ ec q0 q1 q2 q3 ht HT hW hbW hzW
   go_wp2_with (first | (go_at_call 157; rw [<- zA HWW]; (with_reducible refine (zA HX).mono ?_); rintro e w1 ⟨⟨y,rfl,_⟩,hpo⟩; have HN:=zB ((zA HF) w1 hpo); clear hpo))
   exact ⟨⟨k + 1,by omega,by go_num,HN⟩,by simp [intOf]; omega⟩
  ·have HN:=zB (show zt w b o B kv pv (zO ks us) wr by have:=zA HQ; rwa [List.take_of_length_le (by omega)] at this)
   go_wp2
   go_end0
   exact ⟨rfl,zA HN⟩
end Go.Proofs.YtokabkhnidlcnacGreatDoor
namespace Go.Proofs.YtokabkhnidlcnacGreatDoor
set_option linter.unusedSimpArgs false
set_option linter.unusedVariables false
set_option maxHeartbeats 16000000
set_option maxRecDepth 100000
open Go.RowKit Go.Shelf
def zJv:Go.Shelf.Ren:=⟨fun | 145=>178 | 220=>212 | 219=>220 | 217=>216 | 225=>237 | 224=>238 | 267=>239 | 266=>235 | 314=>251 | n=>n,fun | 9=>9 | 4=>4 | 59=>247 | 3=>3 | 5=>5 | 46=>311 | 146=>330 | 51=>329 | n=>n,fun | 1=>0 | n=>n⟩
theorem zPJ:Go.Proofs.Lays.n145 Tryz.prog zJv:={
 mixed:=by kernel_rfl
 f145:=Tryz.func178.trans (congrArg some (by kernel_rfl))
 f217:=Tryz.func216.trans (congrArg some (by kernel_rfl))
 f219:=Tryz.func220.trans (congrArg some (by kernel_rfl))
 f220:=Tryz.func212.trans (congrArg some (by kernel_rfl))
 f224:=Tryz.func238.trans (congrArg some (by kernel_rfl))
 f225:=Tryz.func237.trans (congrArg some (by kernel_rfl))
 f266:=Tryz.func235.trans (congrArg some (by kernel_rfl))
 f267:=Tryz.func239.trans (congrArg some (by kernel_rfl))
 f314:=Tryz.func251.trans (congrArg some (by kernel_rfl))
 t3:=Tryz.underlying3
 a3:=Tryz.isAgg3
 z3:=Tryz.sizeOf3
 v3:=Tryz.zeroValue3
 t4:=Tryz.underlying4
 a4:=Tryz.isAgg4
 z4:=Tryz.sizeOf4
 v4:=Tryz.zeroValue4
 t5:=Tryz.underlying5
 a5:=Tryz.isAgg5
 z5:=Tryz.sizeOf5
 v5:=Tryz.zeroValue5
 t9:=Tryz.underlying9
 a9:=Tryz.isAgg9
 z9:=Tryz.sizeOf9
 v9:=Tryz.zeroValue9
 t46:=Tryz.underlying311
 a46:=Tryz.isAgg311
 z46:=Tryz.sizeOf311
 v46:=Tryz.zeroValue311
 t51:=Tryz.underlying329
 a51:=Tryz.isAgg329
 z51:=Tryz.sizeOf329
 v51:=Tryz.zeroValue329
 t59:=Tryz.underlying247
 a59:=Tryz.isAgg247
 z59:=Tryz.sizeOf247
 v59:=Tryz.zeroValue247
 t146:=Tryz.underlying330
 a146:=Tryz.isAgg330
 z146:=Tryz.sizeOf330
 v146:=Tryz.zeroValue330
 g1:=by kernel_rfl }
def zJw:Go.Shelf.Ren:=⟨fun | 146=>122 | 221=>164 | 268=>200 | 138=>201 | 143=>202 | 195=>217 | 197=>218 | 218=>219 | 219=>220 | 260=>236 | 217=>216 | 225=>237 | 224=>238 | 267=>239 | 266=>235 | 314=>251 | n=>n,fun | 9=>9 | 31=>62 | 3=>3 | 4=>4 | 0=>0 | 105=>296 | 21=>21 | 5=>5 | 46=>311 | 119=>325 | 139=>328 | 138=>327 | 146=>330 | 51=>329 | n=>n,fun | 1=>0 | 3=>3 | 4=>4 | n=>n⟩
theorem zPK:Go.Proofs.Lays.n146 Tryz.prog zJw:={
 mixed:=by kernel_rfl
 f138:=Tryz.func201.trans (congrArg some (by kernel_rfl))
 f143:=Tryz.func202.trans (congrArg some (by kernel_rfl))
 f146:=Tryz.func122.trans (congrArg some (by kernel_rfl))
 f195:=Tryz.func217.trans (congrArg some (by kernel_rfl))
 f197:=Tryz.func218.trans (congrArg some (by kernel_rfl))
 f217:=Tryz.func216.trans (congrArg some (by kernel_rfl))
 f218:=Tryz.func219.trans (congrArg some (by kernel_rfl))
 f219:=Tryz.func220.trans (congrArg some (by kernel_rfl))
 f221:=Tryz.func164.trans (congrArg some (by kernel_rfl))
 f224:=Tryz.func238.trans (congrArg some (by kernel_rfl))
 f225:=Tryz.func237.trans (congrArg some (by kernel_rfl))
 f260:=Tryz.func236.trans (congrArg some (by kernel_rfl))
 f266:=Tryz.func235.trans (congrArg some (by kernel_rfl))
 f267:=Tryz.func239.trans (congrArg some (by kernel_rfl))
 f268:=Tryz.func200.trans (congrArg some (by kernel_rfl))
 f314:=Tryz.func251.trans (congrArg some (by kernel_rfl))
 t0:=Tryz.underlying0
 a0:=Tryz.isAgg0
 z0:=Tryz.sizeOf0
 v0:=Tryz.zeroValue0
 t3:=Tryz.underlying3
 a3:=Tryz.isAgg3
 z3:=Tryz.sizeOf3
 v3:=Tryz.zeroValue3
 t4:=Tryz.underlying4
 a4:=Tryz.isAgg4
 z4:=Tryz.sizeOf4
 v4:=Tryz.zeroValue4
 t5:=Tryz.underlying5
 a5:=Tryz.isAgg5
 z5:=Tryz.sizeOf5
 v5:=Tryz.zeroValue5
 t9:=Tryz.underlying9
 a9:=Tryz.isAgg9
 z9:=Tryz.sizeOf9
 v9:=Tryz.zeroValue9
 t21:=Tryz.underlying21
 a21:=Tryz.isAgg21
 z21:=Tryz.sizeOf21
 v21:=Tryz.zeroValue21
 t31:=Tryz.underlying62
 a31:=Tryz.isAgg62
 z31:=Tryz.sizeOf62
 v31:=Tryz.zeroValue62
 t46:=Tryz.underlying311
 a46:=Tryz.isAgg311
 z46:=Tryz.sizeOf311
 v46:=Tryz.zeroValue311
 t51:=Tryz.underlying329
 a51:=Tryz.isAgg329
 z51:=Tryz.sizeOf329
 v51:=Tryz.zeroValue329
 t105:=Tryz.underlying296
 a105:=Tryz.isAgg296
 z105:=Tryz.sizeOf296
 v105:=Tryz.zeroValue296
 t119:=Tryz.underlying325
 a119:=Tryz.isAgg325
 z119:=Tryz.sizeOf325
 t138:=Tryz.underlying327
 a138:=Tryz.isAgg327
 z138:=Tryz.sizeOf327
 v138:=Tryz.zeroValue327
 t139:=Tryz.underlying328
 a139:=Tryz.isAgg328
 z139:=Tryz.sizeOf328
 v139:=Tryz.zeroValue328
 t146:=Tryz.underlying330
 a146:=Tryz.isAgg330
 z146:=Tryz.sizeOf330
 v146:=Tryz.zeroValue330
 g1:=by kernel_rfl
 g3:=by kernel_rfl
 g4:=by kernel_rfl }
def zJx:Go.Shelf.Ren:=⟨fun | 172=>166 | 244=>203 | 245=>204 | 247=>221 | 279=>222 | 280=>223 | 281=>224 | 282=>225 | 287=>240 | 316=>241 | 171=>169 | 205=>242 | 321=>252 | 322=>253 | 243=>205 | 246=>226 | 283=>243 | 284=>244 | 285=>245 | 286=>246 | 129=>255 | 317=>254 | 318=>256 | 319=>257 | 320=>258 | 337=>259 | 338=>260 | n=>n,fun | 9=>9 | 3=>3 | 75=>234 | 76=>235 | 4=>4 | 5=>5 | 167=>298 | 37=>121 | 0=>0 | 85=>299 | 2=>2 | 168=>301 | 53=>312 | 175=>313 | 46=>311 | 210=>316 | 127=>280 | 145=>335 | 143=>333 | 21=>21 | 171=>318 | 173=>321 | 212=>337 | 51=>329 | 20=>20 | 213=>338 | 232=>342 | 233=>343 | 80=>241 | n=>n,fun | 15=>1 | 16=>2 | 17=>5 | 18=>6 | 19=>7 | n=>n⟩
theorem zPL:Go.Proofs.Lays.n172 Tryz.prog zJx:={
 mixed:=by kernel_rfl
 f129:=Tryz.func255.trans (congrArg some (by kernel_rfl))
 f171:=Tryz.func169.trans (congrArg some (by kernel_rfl))
 f172:=Tryz.func166.trans (congrArg some (by kernel_rfl))
 f205:=Tryz.func242.trans (congrArg some (by kernel_rfl))
 f243:=Tryz.func205.trans (congrArg some (by kernel_rfl))
 f244:=Tryz.func203.trans (congrArg some (by kernel_rfl))
 f245:=Tryz.func204.trans (congrArg some (by kernel_rfl))
 f246:=Tryz.func226.trans (congrArg some (by kernel_rfl))
 f247:=Tryz.func221.trans (congrArg some (by kernel_rfl))
 f279:=Tryz.func222.trans (congrArg some (by kernel_rfl))
 f280:=Tryz.func223.trans (congrArg some (by kernel_rfl))
 f281:=Tryz.func224.trans (congrArg some (by kernel_rfl))
 f282:=Tryz.func225.trans (congrArg some (by kernel_rfl))
 f283:=Tryz.func243.trans (congrArg some (by kernel_rfl))
 f284:=Tryz.func244.trans (congrArg some (by kernel_rfl))
 f285:=Tryz.func245.trans (congrArg some (by kernel_rfl))
 f286:=Tryz.func246.trans (congrArg some (by kernel_rfl))
 f287:=Tryz.func240.trans (congrArg some (by kernel_rfl))
 f316:=Tryz.func241.trans (congrArg some (by kernel_rfl))
 f317:=Tryz.func254.trans (congrArg some (by kernel_rfl))
 f318:=Tryz.func256.trans (congrArg some (by kernel_rfl))
 f319:=Tryz.func257.trans (congrArg some (by kernel_rfl))
 f320:=Tryz.func258.trans (congrArg some (by kernel_rfl))
 f321:=Tryz.func252.trans (congrArg some (by kernel_rfl))
 f322:=Tryz.func253.trans (congrArg some (by kernel_rfl))
 f337:=Tryz.func259.trans (congrArg some (by kernel_rfl))
 f338:=Tryz.func260.trans (congrArg some (by kernel_rfl))
 t0:=Tryz.underlying0
 a0:=Tryz.isAgg0
 z0:=Tryz.sizeOf0
 v0:=Tryz.zeroValue0
 t2:=Tryz.underlying2
 a2:=Tryz.isAgg2
 z2:=Tryz.sizeOf2
 v2:=Tryz.zeroValue2
 t3:=Tryz.underlying3
 a3:=Tryz.isAgg3
 z3:=Tryz.sizeOf3
 v3:=Tryz.zeroValue3
 t4:=Tryz.underlying4
 a4:=Tryz.isAgg4
 z4:=Tryz.sizeOf4
 v4:=Tryz.zeroValue4
 t5:=Tryz.underlying5
 a5:=Tryz.isAgg5
 z5:=Tryz.sizeOf5
 v5:=Tryz.zeroValue5
 t9:=Tryz.underlying9
 a9:=Tryz.isAgg9
 z9:=Tryz.sizeOf9
 v9:=Tryz.zeroValue9
 t20:=Tryz.underlying20
 a20:=Tryz.isAgg20
 z20:=Tryz.sizeOf20
 v20:=Tryz.zeroValue20
 t21:=Tryz.underlying21
 a21:=Tryz.isAgg21
 z21:=Tryz.sizeOf21
 v21:=Tryz.zeroValue21
 t37:=Tryz.underlying121
 a37:=Tryz.isAgg121
 z37:=Tryz.sizeOf121
 v37:=Tryz.zeroValue121
 t46:=Tryz.underlying311
 a46:=Tryz.isAgg311
 z46:=Tryz.sizeOf311
 v46:=Tryz.zeroValue311
 t51:=Tryz.underlying329
 a51:=Tryz.isAgg329
 z51:=Tryz.sizeOf329
 v51:=Tryz.zeroValue329
 t53:=Tryz.underlying312
 a53:=Tryz.isAgg312
 z53:=Tryz.sizeOf312
 v53:=Tryz.zeroValue312
 t75:=Tryz.underlying234
 a75:=Tryz.isAgg234
 z75:=Tryz.sizeOf234
 v75:=Tryz.zeroValue234
 t76:=Tryz.underlying235
 a76:=Tryz.isAgg235
 z76:=Tryz.sizeOf235
 v76:=Tryz.zeroValue235
 t85:=Tryz.underlying299
 a85:=Tryz.isAgg299
 z85:=Tryz.sizeOf299
 v85:=Tryz.zeroValue299
 t127:=Tryz.underlying280
 a127:=Tryz.isAgg280
 z127:=Tryz.sizeOf280
 v127:=Tryz.zeroValue280
 t143:=Tryz.underlying333
 a143:=Tryz.isAgg333
 z143:=Tryz.sizeOf333
 v143:=Tryz.zeroValue333
 t145:=Tryz.underlying335
 a145:=Tryz.isAgg335
 z145:=Tryz.sizeOf335
 v145:=Tryz.zeroValue335
 t167:=Tryz.underlying298
 a167:=Tryz.isAgg298
 z167:=Tryz.sizeOf298
 v167:=Tryz.zeroValue298
 t168:=Tryz.underlying301
 a168:=Tryz.isAgg301
 z168:=Tryz.sizeOf301
 v168:=Tryz.zeroValue301
 t171:=Tryz.underlying318
 a171:=Tryz.isAgg318
 z171:=Tryz.sizeOf318
 v171:=Tryz.zeroValue318
 t173:=Tryz.underlying321
 a173:=Tryz.isAgg321
 z173:=Tryz.sizeOf321
 v173:=Tryz.zeroValue321
 t175:=Tryz.underlying313
 a175:=Tryz.isAgg313
 z175:=Tryz.sizeOf313
 v175:=Tryz.zeroValue313
 t210:=Tryz.underlying316
 a210:=Tryz.isAgg316
 z210:=Tryz.sizeOf316
 v210:=Tryz.zeroValue316
 t212:=Tryz.underlying337
 a212:=Tryz.isAgg337
 z212:=Tryz.sizeOf337
 v212:=Tryz.zeroValue337
 t213:=Tryz.underlying338
 a213:=Tryz.isAgg338
 z213:=Tryz.sizeOf338
 t232:=Tryz.underlying342
 a232:=Tryz.isAgg342
 z232:=Tryz.sizeOf342
 v232:=Tryz.zeroValue342
 t233:=Tryz.underlying343
 a233:=Tryz.isAgg343
 z233:=Tryz.sizeOf343
 v233:=Tryz.zeroValue343
 g15:=by kernel_rfl
 g16:=by kernel_rfl
 g17:=by kernel_rfl
 g18:=by kernel_rfl
 g19:=by kernel_rfl }
def zEy (w:World):Prop:=∃ m:Int,w.cell? ⟨0,0,none⟩ = some (.int .i64 m)
theorem zEy.lt {w:World} (h:zEy w):0 < w.heap.size:=by
 obtain ⟨m,h⟩:=h
 exact World.block_lt_of_cell? _ _ h
theorem zEy.below {w w':World} (h:zEy w) (hb:Below w.heap.size w w'):zEy w':=by
 have hl:=h.lt
 obtain ⟨m,h⟩:=h
 exact ⟨m,(hb.cell (p:=⟨0,0,none⟩) hl).trans h⟩
theorem zIg {B:Nat} {a w:World} (h:Below B a w) (n:Nat):Below B a (w.drewN n):=h.trans ⟨rfl,rfl,rfl,Nat.le_refl _,fun _ _=>rfl⟩
theorem zQN (s r:ByteArray) (a:Nat) (hr:r = s.extract a s.size) (ha:a <= s.size) (hs:s.size <= 20000) (w:World) (hm:zEy w) :
  Calls Tryz.prog 178 #[.string r,.string ⟨#[10]⟩] w fun e w'=>e = .returned (.tuple #[.string (s.extract a (nx 10 s a)),.string (zAb s (nx 10 s a)),.bool (decide (nx 10 s a < s.size))]) /\ Below w.heap.size w w':=by
 obtain ⟨m,hm⟩:=hm
 subst hr
 obtain ⟨e1,e2,e3⟩:=zPw s a ha
 refine (Any.strings_Cut zPJ (s.extract a s.size) ⟨#[10]⟩ m w (by rw [Zp]; omega) hm).mono ?_
 rintro e w' ⟨rfl,n,rfl⟩
 refine ⟨?_,zIg (Below.refl _ _) n⟩
 have e1':(⟨(Lib.cut (s.extract a s.size).data.toList (⟨#[10]⟩:ByteArray).data.toList).1.toArray⟩:ByteArray) = s.extract a (nx 10 s a):=e1
 have e2':(⟨(Lib.cut (s.extract a s.size).data.toList (⟨#[10]⟩:ByteArray).data.toList).2.1.toArray⟩:ByteArray) = zAb s (nx 10 s a):=e2
 have e3':(Lib.cut (s.extract a s.size).data.toList (⟨#[10]⟩:ByteArray).data.toList).2.2 = decide (nx 10 s a < s.size):=e3
 rw [e1',e2',e3']
theorem zMI (s:ByteArray) (hs:s.size <= 20000) (w:World) (hm:zEy w) :
  Calls Tryz.prog 122 #[.string s,.string ⟨#[32]⟩] w fun e w'=>∃ ps:List ByteArray,Hid (zFw ps = wds s) /\ ps.length <= s.size + 1 /\ e = .returned (.slice (some ⟨w.heap.size,0,none⟩) ps.length ps.length) /\ w' = w.alloc (.cells (ps.map Value.string).toArray 9):=by
 obtain ⟨m,hm⟩:=hm
 have h1:1 <= (⟨#[32]⟩:ByteArray).size:=Nat.le_refl _
 refine (Any.strings_Split zPK (by kernel_rfl) s ⟨#[32]⟩ m w (by omega) hm h1).mono ?_
 rintro e w' ⟨rfl,rfl⟩
 have hl:=Lib.splitB_all ⟨#[32]⟩ h1 0 _ s rfl
 have hc:=Lib.countB_le ⟨#[32]⟩ h1 s.size s (Nat.le_refl _)
 refine ⟨Lib.splitB ⟨#[32]⟩ 0 (Lib.countB s ⟨#[32]⟩) s,zB (zKC s),by omega,by rw [hl],rfl⟩
theorem zJy (t:ByteArray) (h:∀ i,i < t.size -> 48 <= (bt t i).toNat /\ (bt t i).toNat <= 57):∀ k,k <= t.size -> Lib.decFrom 0 (t.data.toList.take k) = some (Zn t k)
 | 0,_=>by simp [Lib.decFrom,Zn]
 | k + 1,hk=>by
  refine Lib.decFrom_take t.data.toList k 0 (Zn t k) (bt t k) _ (zJy t h k (by omega)) (zH1 (by omega)) ?_
  unfold Lib.digitVal
  rw [if_pos (h k (by omega))]
theorem zNt (t:ByteArray) (h:zMa t):Lib.atoi t.data.toList = some (Zn t t.size:Int):=by
 obtain ⟨h1,h2,h3⟩:=h
 have hd:=zJy t h3 t.size (Nat.le_refl _)
 rw [List.take_of_length_le (by exact Nat.le_refl _)] at hd
 have h0:=zH1 (s:=t) (j:=0) (by omega)
 obtain ⟨b,r,hl⟩:∃ b r,t.data.toList = b :: r:=by
  cases hx:t.data.toList with
  | nil=>rw [hx] at h0; simp at h0
  | cons b r=>exact ⟨b,r,rfl⟩
 rw [hl] at hd h0 ⊢
 have hb:b = bt t 0:=by simpa using h0
 have hz:=h3 0 (by omega)
 rw [<- hb] at hz
 have n45:(b == 45) = false:=by
  simp only [beq_eq_false_iff_ne,ne_eq]; rintro rfl; exact absurd hz.1 (by decide)
 have n43:(b == 43) = false:=by
  simp only [beq_eq_false_iff_ne,ne_eq]; rintro rfl; exact absurd hz.1 (by decide)
 unfold Lib.atoi Lib.decNat
 simp [n45,n43,hd]
theorem zPM (t:ByteArray) (h:zC6 t = true) (w:World) :
  Calls Tryz.prog 166 #[.string t] w fun e w'=>e = .returned (.tuple #[.int .i64 (Zn t t.size:Int),.nilIface]) /\ Below w.heap.size w w':=by
 have hl:=(zCP t).1 h
 refine (Any.strconv_Atoi zPL t _ (by have:=hl.2.1; omega) (zNt t hl) w).mono ?_
 rintro e w' ⟨rfl,u,rfl⟩
 exact ⟨rfl,Joins.below_bytesWorld _ _ _ _ (Nat.le_refl _)⟩
end Go.Proofs.YtokabkhnidlcnacGreatDoor
namespace Go.Proofs.YtokabkhnidlcnacGreatDoor
set_option linter.unusedSimpArgs false
set_option linter.unusedVariables false
set_option maxHeartbeats 16000000
set_option maxRecDepth 100000
open Go.RowKit
theorem zGs (a:Option Addr) (c n:Nat) (w:World) (hn:n < 3) :
  Calls Tryz.prog 123 #[.slice a n c] w fun e w'=>(∃ o:OpR,e = .returned (.tuple #[.agg #[.string o.s,.int .i64 o.k,.int .i64 o.l,.int .i64 o.sd],.bool false])) /\ Below w.heap.size w w':=by
 have hnI:(n:Int) < 3:=by omega
 go_enter Tryz.func123,Tryz.ntmps123
 go_wp2
 refine bodyPost_ret (v:=.tuple #[.agg #[.string ⟨#[]⟩,.int .i64 0,.int .i64 0,.int .i64 0],.bool false]) ?res rfl ⟨⟨OpR.zero,rfl⟩,?_⟩
 case res=>simp [results,Tryz.results123,go_sem]
 exact zC _ _
theorem zPN {k:ByteArray}:(zBf k = 1 /\ k = zAQ) \/ (zBf k = 2 /\ k = zBL) \/ (zBf k = 3 /\ k = Zy) \/ (zBf k = 0 /\ k ≠ zAQ /\ k ≠ zBL /\ k ≠ Zy):=by
 unfold zBf
 by_cases h1:k = zAQ
 ·rw [if_pos h1]; exact Or.inl ⟨rfl,h1⟩
 by_cases h2:k = zBL
 ·rw [if_neg h1,if_pos h2]; exact Or.inr (Or.inl ⟨rfl,h2⟩)
 by_cases h3:k = Zy
 ·rw [if_neg h1,if_neg h2,if_pos h3]; exact Or.inr (Or.inr (Or.inl ⟨rfl,h3⟩))
 ·rw [if_neg h1,if_neg h2,if_neg h3]; exact Or.inr (Or.inr (Or.inr ⟨rfl,h1,h2,h3⟩))
theorem zFa (g c n:Nat) (k t l sd:ByteArray) (w:World) (hn:3 <= n) (hsl:l.size <= maxLen) (c0:w.cell? ⟨g,0,none⟩ = some (.string k)) (c1:w.cell? ⟨g,1,none⟩ = some (.string t)) (c2:w.cell? ⟨g,2,none⟩ = some (.string l)) (c3:4 <= n -> w.cell? ⟨g,3,none⟩ = some (.string sd)) :
  Calls Tryz.prog 123 #[.slice (some ⟨g,0,none⟩) n c] w (zH3 w n k t l sd):=by
 have hg:g < w.heap.size:=World.block_lt_of_cell? _ _ c0
 have hg2:g ≠ w.heap.size:=by omega
 have hnI:¬ (n:Int) < 3:=by omega
 have hnI0:(0:Int) < (n:Int):=by omega
 have hnI1:(1:Int) < (n:Int):=by omega
 have hnI2:(2:Int) < (n:Int):=by omega
 have HC3:=zB c3
 clear c3
 cases hl:zC6 l
 ·have HX:=zB (show ∀ W:World,Calls Tryz.prog 165 #[.string l] W fun e w'=>e = .returned (.bool false) /\ w' = W from fun W=>by have h:=zCz l W hsl; rw [hl] at h; exact h)
  have HA:=zB (zI7 (n:=n) (k:=k) (t:=t) (sd:=sd) hl)
  clear hl
  go_enter Tryz.func123,Tryz.ntmps123
  go_wp2_with (go_at_call 165; (with_reducible refine ((zA HX) _).mono ?_); rintro e w1 ⟨rfl,hx⟩; obtain rfl:=hx.symm; clear hx)
  refine bodyPost_ret (v:=.tuple #[.agg #[.string ⟨#[]⟩,.int .i64 0,.int .i64 0,.int .i64 0],.bool false]) ?res rfl ⟨OpR.zero,false,rfl,Or.inr ⟨rfl,zA HA⟩,?_⟩
  case res=>simp [results,Tryz.results123,go_sem]
  exact zC _ _
 obtain ⟨V,hV⟩:∃ V:Nat,V = Zn l l.size:=⟨_,rfl⟩
 have HX:=zB (show ∀ W:World,Calls Tryz.prog 165 #[.string l] W fun e w'=>e = .returned (.bool true) /\ w' = W from fun W=>by have h:=zCz l W hsl; rw [hl] at h; exact h)
 have HT:=zB (show ∀ W:World,Calls Tryz.prog 166 #[.string l] W fun e w'=>e = .returned (.tuple #[.int .i64 (V:Int),.nilIface]) /\ Below W.heap.size W w' from fun W=>by have h:=zPM l hl W; rw [<- hV] at h; exact h)
 have HLB:=zB hl
 have HV:=zB hV
 clear hl hV
 obtain ⟨KI,hKI⟩:∃ KI:Int,KI = zBf k:=⟨_,rfl⟩
 have HK:=zB (show ∀ W:World,Calls Tryz.prog 167 #[.string k] W fun e w'=>e = .returned (.int .i64 KI) /\ w' = W from fun W=>by rw [hKI]; exact zFy k W)
 have HKI:=zB hKI
 clear hKI
 have HZ:=zB (show zCj (w.alloc (.cells #[.string ⟨#[]⟩,.int .i64 0,.int .i64 0,.int .i64 0] 41)) w.heap.size OpR.zero from ⟨⟨by simp [go_sem,OpR.zero],by simp [go_sem,OpR.zero],by simp [go_sem,OpR.zero],by simp [go_sem,OpR.zero]⟩,by simp [go_sem],by simp [go_sem],by simp [go_sem],by simp [go_sem]⟩)
 go_enter Tryz.func123,Tryz.ntmps123
 go_wp2_with (first | (go_at_call 165; (with_reducible refine ((zA HX) _).mono ?_); rintro e w1 ⟨rfl,hx⟩; obtain rfl:=hx.symm; clear hx) | (go_at_call 166; (with_reducible refine ((zA HT) _).mono ?_); rintro e w1 ⟨rfl,hb1⟩; have HB1:=zB ((zC w _).trans (hb1.mono (by simp))); have HZ1:=zB ((zA HZ).below hb1 (by simp)); have z1:w.heap.size + 1 <= w1.heap.size:=(by have:=hb1.size; simp at this; omega); clear hb1))
 have d0:w1.cell? ⟨g,0,none⟩ = some (.string k):=((zA HB1).cell (p:=⟨g,0,none⟩) hg).trans c0
 have d1:w1.cell? ⟨g,1,none⟩ = some (.string t):=((zA HB1).cell (p:=⟨g,1,none⟩) hg).trans c1
 have HK3:=zB (show 4 <= n -> w1.cell? ⟨g,3,none⟩ = some (.string sd) from fun h=>((zA HB1).cell (p:=⟨g,3,none⟩) hg).trans ((zA HC3) h))
 clear c0 c1 c2 HC3 HZ HX HT
 go_cut [6] (fun s4 wc=>∃ b4:Nat,s4 = .pointer (some ⟨b4,0,none⟩) /\ w.heap.size < b4 /\ b4 < wc.heap.size /\ Hid (zCj wc b4 ⟨t,KI,(V:Int),0⟩) /\ Hid (Below w1.heap.size w1 wc))
 case first=>
  have hg3:g < w1.heap.size:=by omega
  go_region_held (fun w'=>w'.cell? ⟨g,0,none⟩ = some (.string k) /\ w'.cell? ⟨g,1,none⟩ = some (.string t)) (go_keep)
   (first | (go_at_call 167; have HX1:=(zA HK); (with_reducible refine (HX1 _).mono ?_); rintro e w2 ⟨rfl,hx⟩; obtain rfl:=hx.symm; clear hx HX1))
  all_goals
   go_wp2_with fail
   go_meet
   case rel=>
    go_light
    exact ⟨w1.heap.size,rfl,by omega,by simp,zB ⟨⟨by simp [go_sem],by simp [go_sem],by simp [go_sem],by simp [go_sem]⟩,by simp [go_sem],by simp [go_sem],by simp [go_sem],by simp [go_sem]⟩,zB ((zC _ _).drew)⟩
 case rest=>
  obtain ⟨b4,rfl,hb4,hb4l,HB4,HBC⟩:=hcut
  have HBW:=zB ((zA HB1).trans ((zA HBC).mono (by omega)))
  have HB0:=zB ((zA HZ1).below (zA HBC) (by omega))
  obtain ⟨⟨p0,p1,p2,p3⟩,f0,f1,f2,f3⟩:=zA HB4
  obtain ⟨⟨r0,r1,r2,r3⟩,z0,z1',z2,z3⟩:=zA HB0
  simp only [OpR.zero] at p0 p1 p2 p3 r0 r1 r2 r3
  have e1:b4 ≠ w.heap.size:=by omega
  have e2:w.heap.size ≠ b4:=by omega
  have e3:b4 ≠ g:=by omega
  have e4:g ≠ b4:=by omega
  have HK4:=zB (show 4 <= n -> wc.cell? ⟨g,3,none⟩ = some (.string sd) from fun h=>((zA HBC).cell (p:=⟨g,3,none⟩) (by show g < w1.heap.size; omega)).trans ((zA HK3) h))
  clear HB4 HB0 HK3 d0 d1 HK HZ1 HBC HB1
  rcases zPN (k:=k) with ⟨hk,hkw⟩ | ⟨hk,hkw⟩ | ⟨hk,hkw⟩ | ⟨hk,hk1,hk2,hk3⟩
  ·have HA0:=zB (zF3 (n:=n) (t:=t) (sd:=sd) (zA HLB) hkw)
   obtain rfl:KI = 1:=(zA HKI).trans hk
   by_cases h3:n = 3
   ·have HA:=zB (show Zi n k t l sd = some ⟨t,1,(V:Int),0⟩ by rw [zA HA0,if_pos h3,zA HV])
    have h3I:((n:Int) == 3) = true:=by simp; omega
    clear h3 HA0 hk hkw HKI
    go_wp2
    refine bodyPost_ret (v:=.tuple #[.agg #[.string t,.int .i64 1,.int .i64 (V:Int),.int .i64 0],.bool true]) ?res rfl ⟨⟨t,1,(V:Int),0⟩,true,rfl,Or.inl ⟨rfl,zA HA⟩,?_⟩
    case res=>simp [results,Tryz.results123,go_sem,r0,r1,r2,r3,e1,e2,e3,e4]
    exact zH (Nat.le_refl _) [.string t,.int .i64 1,.int .i64 (V:Int),.int .i64 0] 0 _ (zA HBW)
   ·have HA:=zB (show Zi n k t l sd = none by rw [zA HA0,if_neg h3])
    have h3I:((n:Int) == 3) = false:=by simp; omega
    clear h3 HA0 hk hkw HKI
    go_wp2
    refine bodyPost_ret (v:=.tuple #[.agg #[.string t,.int .i64 1,.int .i64 (V:Int),.int .i64 0],.bool false]) ?res rfl ⟨⟨t,1,(V:Int),0⟩,false,rfl,Or.inr ⟨rfl,zA HA⟩,?_⟩
    case res=>simp [results,Tryz.results123,go_sem,r0,r1,r2,r3,e1,e2,e3,e4]
    exact zH (Nat.le_refl _) [.string t,.int .i64 1,.int .i64 (V:Int),.int .i64 0] 0 _ (zA HBW)
  ·have HA0:=zB (zHQ (n:=n) (t:=t) (sd:=sd) (zA HLB) hkw)
   obtain rfl:KI = 2:=(zA HKI).trans hk
   by_cases h4:n = 4
   ·have h4I:((n:Int) == 4) = true:=by simp; omega
    have h4J:(3:Int) < (n:Int):=by omega
    have k3:=(zA HK4) (by omega)
    obtain ⟨S,hS⟩:∃ S:Int,S = ZS sd:=⟨_,rfl⟩
    have HS:=zB (show ∀ W:World,Calls Tryz.prog 168 #[.string sd] W fun e w'=>e = .returned (.int .i64 S) /\ w' = W from fun W=>by rw [hS]; exact zFx sd W)
    have HA:=zB (show ∀ v:Bool,v = (S != 0) -> (v = true /\ Zi n k t l sd = some ⟨t,2,(V:Int),S⟩) \/ (v = false /\ Zi n k t l sd = none) from fun v hv=>by
     rw [zA HA0]
     by_cases hs0:S = 0
     ·right
      exact ⟨by rw [hv]; simp [hs0],by rw [if_neg (fun x=>x.2 (hS.symm.trans hs0))]⟩
     ·left
      exact ⟨by rw [hv]; simp [hs0],by rw [if_pos ⟨h4,fun x=>hs0 (hS.trans x)⟩,zA HV,hS]⟩)
    clear HA0 hS h4 hk hkw HKI
    go_wp2_with (first | (go_at_call 168; (with_reducible refine ((zA HS) _).mono ?_); rintro e w2 ⟨rfl,hx⟩; obtain rfl:=hx.symm; clear hx))
    go_region
    go_wp2
    refine bodyPost_ret (v:=.tuple #[.agg #[.string t,.int .i64 2,.int .i64 (V:Int),.int .i64 S],.bool (S != 0)]) ?res rfl ⟨⟨t,2,(V:Int),S⟩,(S != 0),rfl,(zA HA) _ rfl,?_⟩
    case res=>simp [results,Tryz.results123,go_sem,r0,r1,r2,r3,e1,e2,e3,e4]
    exact zH (Nat.le_refl _) [.string t,.int .i64 2,.int .i64 (V:Int),.int .i64 S] 0 _ ((zA HBW).setCell (p:=⟨b4,3,none⟩) (by show w.heap.size <= b4; omega) _).drew
   ·have HA:=zB (show Zi n k t l sd = none by rw [zA HA0,if_neg (fun x=>h4 x.1)])
    have h4I:((n:Int) == 4) = false:=by simp; omega
    clear h4 HA0 hk hkw HKI
    go_wp2
    refine bodyPost_ret (v:=.tuple #[.agg #[.string ⟨#[]⟩,.int .i64 0,.int .i64 0,.int .i64 0],.bool false]) ?res rfl ⟨OpR.zero,false,rfl,Or.inr ⟨rfl,zA HA⟩,?_⟩
    case res=>simp [results,Tryz.results123,go_sem,r0,r1,r2,r3]
    first
     | exact zA HBW
     | exact zH (Nat.le_refl _) [.string ⟨#[]⟩,.int .i64 0,.int .i64 0,.int .i64 0] 0 _ (zA HBW)
  ·have HA0:=zB (zFC (n:=n) (t:=t) (sd:=sd) (zA HLB) hkw)
   obtain rfl:KI = 3:=(zA HKI).trans hk
   by_cases h3:n = 3
   ·have HA:=zB (show Zi n k t l sd = some ⟨t,3,(V:Int),0⟩ by rw [zA HA0,if_pos h3,zA HV])
    have h3I:((n:Int) == 3) = true:=by simp; omega
    clear h3 HA0 hk hkw HKI
    go_wp2
    refine bodyPost_ret (v:=.tuple #[.agg #[.string t,.int .i64 3,.int .i64 (V:Int),.int .i64 0],.bool true]) ?res rfl ⟨⟨t,3,(V:Int),0⟩,true,rfl,Or.inl ⟨rfl,zA HA⟩,?_⟩
    case res=>simp [results,Tryz.results123,go_sem,r0,r1,r2,r3,e1,e2,e3,e4]
    exact zH (Nat.le_refl _) [.string t,.int .i64 3,.int .i64 (V:Int),.int .i64 0] 0 _ (zA HBW)
   ·have HA:=zB (show Zi n k t l sd = none by rw [zA HA0,if_neg h3])
    have h3I:((n:Int) == 3) = false:=by simp; omega
    clear h3 HA0 hk hkw HKI
    go_wp2
    refine bodyPost_ret (v:=.tuple #[.agg #[.string t,.int .i64 3,.int .i64 (V:Int),.int .i64 0],.bool false]) ?res rfl ⟨⟨t,3,(V:Int),0⟩,false,rfl,Or.inr ⟨rfl,zA HA⟩,?_⟩
    case res=>simp [results,Tryz.results123,go_sem,r0,r1,r2,r3,e1,e2,e3,e4]
    exact zH (Nat.le_refl _) [.string t,.int .i64 3,.int .i64 (V:Int),.int .i64 0] 0 _ (zA HBW)
  ·have HA:=zB (zHR (n:=n) (t:=t) (l:=l) (sd:=sd) hk1 hk3 hk2)
   obtain rfl:KI = 0:=(zA HKI).trans hk
   clear hk hk1 hk2 hk3 HKI
   go_wp2
   refine bodyPost_ret (v:=.tuple #[.agg #[.string ⟨#[]⟩,.int .i64 0,.int .i64 0,.int .i64 0],.bool false]) ?res rfl ⟨OpR.zero,false,rfl,Or.inr ⟨rfl,zA HA⟩,?_⟩
   case res=>simp [results,Tryz.results123,go_sem,r0,r1,r2,r3]
   first
    | exact zA HBW
    | exact zH (Nat.le_refl _) [.string ⟨#[]⟩,.int .i64 0,.int .i64 0,.int .i64 0] 0 _ (zA HBW)
end Go.Proofs.YtokabkhnidlcnacGreatDoor
