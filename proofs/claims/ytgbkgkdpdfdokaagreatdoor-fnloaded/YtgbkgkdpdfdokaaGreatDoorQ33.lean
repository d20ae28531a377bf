import Derived.Shelf.Strings.Cut
import Derived.Shelf.Strings.Split
import Derived.Shelf.Strconv.Atoi
import Derived.Lib.SmallJoins
import Derived.Deep.DeepCutAuto
import Derived.Test.YtgbkgkdpdfdokaaGreatDoorQ09
namespace Go.Proofs.YtgbkgkdpdfdokaaGreatDoor
set_option linter.all false
set_option maxHeartbeats 16000000
set_option maxRecDepth 100000
open Go.RowKit Go.Shelf
variable {w:World}
def zKo:Go.Shelf.Ren:=⟨fun | 145=>81 | 220=>100 | 219=>120 | 217=>133 | 225=>134 | 224=>135 | 267=>136 | 266=>142 | 314=>143 | n=>n,fun | 9=>9 | 4=>4 | 59=>133 | 3=>3 | 5=>5 | 46=>185 | 146=>189 | 51=>188 | n=>n,fun | 1=>0 | n=>n⟩
theorem zQY:Go.Proofs.Lays.n145 Tryz.prog zKo:={
 mixed:=by kernel_rfl
 f145:=Tryz.func81.trans (yS some (by kernel_rfl))
 f217:=Tryz.func133.trans (yS some (by kernel_rfl))
 f219:=Tryz.func120.trans (yS some (by kernel_rfl))
 f220:=Tryz.func100.trans (yS some (by kernel_rfl))
 f224:=Tryz.func135.trans (yS some (by kernel_rfl))
 f225:=Tryz.func134.trans (yS some (by kernel_rfl))
 f266:=Tryz.func142.trans (yS some (by kernel_rfl))
 f267:=Tryz.func136.trans (yS some (by kernel_rfl))
 f314:=Tryz.func143.trans (yS some (by kernel_rfl))
 t3:=Tryz.underlying3
 a3:=Tryz.isAgg3
 z3:=Tryz.sizeOf3
 v3:=Tryz.zeroValue3
 t4:=Tryz.underlying4
 a4:=Tryz.isAgg4
 z4:=Tryz.sizeOf4
 v4:=Tryz.zeroValue4
 t5:=Tryz.underlying5
 a5:=Tryz.isAgg5
 z5:=Tryz.sizeOf5
 v5:=Tryz.zeroValue5
 t9:=Tryz.underlying9
 a9:=Tryz.isAgg9
 z9:=Tryz.sizeOf9
 v9:=Tryz.zeroValue9
 t46:=Tryz.underlying185
 a46:=Tryz.isAgg185
 z46:=Tryz.sizeOf185
 v46:=Tryz.zeroValue185
 t51:=Tryz.underlying188
 a51:=Tryz.isAgg188
 z51:=Tryz.sizeOf188
 v51:=Tryz.zeroValue188
 t59:=Tryz.underlying133
 a59:=Tryz.isAgg133
 z59:=Tryz.sizeOf133
 v59:=Tryz.zeroValue133
 t146:=Tryz.underlying189
 a146:=Tryz.isAgg189
 z146:=Tryz.sizeOf189
 v146:=Tryz.zeroValue189
 g1:=by kernel_rfl }
def zKp:Go.Shelf.Ren:=⟨fun | 146=>101 | 221=>121 | 268=>137 | 138=>138 | 143=>139 | 195=>144 | 197=>145 | 218=>146 | 219=>120 | 260=>152 | 217=>133 | 225=>134 | 224=>135 | 267=>136 | 266=>142 | 314=>143 | n=>n,fun | 9=>9 | 31=>39 | 3=>3 | 4=>4 | 0=>0 | 105=>191 | 21=>21 | 5=>5 | 46=>185 | 119=>206 | 139=>209 | 138=>208 | 146=>189 | 51=>188 | n=>n,fun | 1=>0 | 3=>3 | 4=>4 | n=>n⟩
theorem zQZ:Go.Proofs.Lays.n146 Tryz.prog zKp:={
 mixed:=by kernel_rfl
 f138:=Tryz.func138.trans (yS some (by kernel_rfl))
 f143:=Tryz.func139.trans (yS some (by kernel_rfl))
 f146:=Tryz.func101.trans (yS some (by kernel_rfl))
 f195:=Tryz.func144.trans (yS some (by kernel_rfl))
 f197:=Tryz.func145.trans (yS some (by kernel_rfl))
 f217:=Tryz.func133.trans (yS some (by kernel_rfl))
 f218:=Tryz.func146.trans (yS some (by kernel_rfl))
 f219:=Tryz.func120.trans (yS some (by kernel_rfl))
 f221:=Tryz.func121.trans (yS some (by kernel_rfl))
 f224:=Tryz.func135.trans (yS some (by kernel_rfl))
 f225:=Tryz.func134.trans (yS some (by kernel_rfl))
 f260:=Tryz.func152.trans (yS some (by kernel_rfl))
 f266:=Tryz.func142.trans (yS some (by kernel_rfl))
 f267:=Tryz.func136.trans (yS some (by kernel_rfl))
 f268:=Tryz.func137.trans (yS some (by kernel_rfl))
 f314:=Tryz.func143.trans (yS some (by kernel_rfl))
 t0:=Tryz.underlying0
 a0:=Tryz.isAgg0
 z0:=Tryz.sizeOf0
 v0:=Tryz.zeroValue0
 t3:=Tryz.underlying3
 a3:=Tryz.isAgg3
 z3:=Tryz.sizeOf3
 v3:=Tryz.zeroValue3
 t4:=Tryz.underlying4
 a4:=Tryz.isAgg4
 z4:=Tryz.sizeOf4
 v4:=Tryz.zeroValue4
 t5:=Tryz.underlying5
 a5:=Tryz.isAgg5
 z5:=Tryz.sizeOf5
 v5:=Tryz.zeroValue5
 t9:=Tryz.underlying9
 a9:=Tryz.isAgg9
 z9:=Tryz.sizeOf9
 v9:=Tryz.zeroValue9
 t21:=Tryz.underlying21
 a21:=Tryz.isAgg21
 z21:=Tryz.sizeOf21
 v21:=Tryz.zeroValue21
 t31:=Tryz.underlying39
 a31:=Tryz.isAgg39
 z31:=Tryz.sizeOf39
 v31:=Tryz.zeroValue39
 t46:=Tryz.underlying185
 a46:=Tryz.isAgg185
 z46:=Tryz.sizeOf185
 v46:=Tryz.zeroValue185
 t51:=Tryz.underlying188
 a51:=Tryz.isAgg188
 z51:=Tryz.sizeOf188
 v51:=Tryz.zeroValue188
 t105:=Tryz.underlying191
 a105:=Tryz.isAgg191
 z105:=Tryz.sizeOf191
 v105:=Tryz.zeroValue191
 t119:=Tryz.underlying206
 a119:=Tryz.isAgg206
 z119:=Tryz.sizeOf206
 t138:=Tryz.underlying208
 a138:=Tryz.isAgg208
 z138:=Tryz.sizeOf208
 v138:=Tryz.zeroValue208
 t139:=Tryz.underlying209
 a139:=Tryz.isAgg209
 z139:=Tryz.sizeOf209
 v139:=Tryz.zeroValue209
 t146:=Tryz.underlying189
 a146:=Tryz.isAgg189
 z146:=Tryz.sizeOf189
 v146:=Tryz.zeroValue189
 g1:=by kernel_rfl
 g3:=by kernel_rfl
 g4:=by kernel_rfl }
def zKq:Go.Shelf.Ren:=⟨fun | 172=>123 | 244=>140 | 245=>141 | 247=>147 | 279=>148 | 280=>149 | 281=>150 | 282=>151 | 287=>153 | 316=>154 | 171=>156 | 205=>155 | 321=>157 | 322=>158 | 243=>159 | 246=>160 | 283=>161 | 284=>162 | 285=>163 | 286=>164 | 129=>166 | 317=>165 | 318=>167 | 319=>168 | 320=>169 | 337=>170 | 338=>171 | n=>n,fun | 9=>9 | 3=>3 | 75=>177 | 76=>178 | 4=>4 | 5=>5 | 167=>193 | 37=>22 | 0=>0 | 85=>194 | 2=>2 | 168=>196 | 53=>199 | 175=>200 | 46=>185 | 210=>204 | 127=>211 | 145=>214 | 143=>212 | 21=>21 | 171=>216 | 173=>219 | 212=>222 | 51=>188 | 20=>20 | 213=>223 | 232=>226 | 233=>227 | 80=>228 | n=>n,fun | 15=>1 | 16=>2 | 17=>5 | 18=>6 | 19=>7 | n=>n⟩
theorem zQa:Go.Proofs.Lays.n172 Tryz.prog zKq:={
 mixed:=by kernel_rfl
 f129:=Tryz.func166.trans (yS some (by kernel_rfl))
 f171:=Tryz.func156.trans (yS some (by kernel_rfl))
 f172:=Tryz.func123.trans (yS some (by kernel_rfl))
 f205:=Tryz.func155.trans (yS some (by kernel_rfl))
 f243:=Tryz.func159.trans (yS some (by kernel_rfl))
 f244:=Tryz.func140.trans (yS some (by kernel_rfl))
 f245:=Tryz.func141.trans (yS some (by kernel_rfl))
 f246:=Tryz.func160.trans (yS some (by kernel_rfl))
 f247:=Tryz.func147.trans (yS some (by kernel_rfl))
 f279:=Tryz.func148.trans (yS some (by kernel_rfl))
 f280:=Tryz.func149.trans (yS some (by kernel_rfl))
 f281:=Tryz.func150.trans (yS some (by kernel_rfl))
 f282:=Tryz.func151.trans (yS some (by kernel_rfl))
 f283:=Tryz.func161.trans (yS some (by kernel_rfl))
 f284:=Tryz.func162.trans (yS some (by kernel_rfl))
 f285:=Tryz.func163.trans (yS some (by kernel_rfl))
 f286:=Tryz.func164.trans (yS some (by kernel_rfl))
 f287:=Tryz.func153.trans (yS some (by kernel_rfl))
 f316:=Tryz.func154.trans (yS some (by kernel_rfl))
 f317:=Tryz.func165.trans (yS some (by kernel_rfl))
 f318:=Tryz.func167.trans (yS some (by kernel_rfl))
 f319:=Tryz.func168.trans (yS some (by kernel_rfl))
 f320:=Tryz.func169.trans (yS some (by kernel_rfl))
 f321:=Tryz.func157.trans (yS some (by kernel_rfl))
 f322:=Tryz.func158.trans (yS some (by kernel_rfl))
 f337:=Tryz.func170.trans (yS some (by kernel_rfl))
 f338:=Tryz.func171.trans (yS some (by kernel_rfl))
 t0:=Tryz.underlying0
 a0:=Tryz.isAgg0
 z0:=Tryz.sizeOf0
 v0:=Tryz.zeroValue0
 t2:=Tryz.underlying2
 a2:=Tryz.isAgg2
 z2:=Tryz.sizeOf2
 v2:=Tryz.zeroValue2
 t3:=Tryz.underlying3
 a3:=Tryz.isAgg3
 z3:=Tryz.sizeOf3
 v3:=Tryz.zeroValue3
 t4:=Tryz.underlying4
 a4:=Tryz.isAgg4
 z4:=Tryz.sizeOf4
 v4:=Tryz.zeroValue4
 t5:=Tryz.underlying5
 a5:=Tryz.isAgg5
 z5:=Tryz.sizeOf5
 v5:=Tryz.zeroValue5
 t9:=Tryz.underlying9
 a9:=Tryz.isAgg9
 z9:=Tryz.sizeOf9
 v9:=Tryz.zeroValue9
 t20:=Tryz.underlying20
 a20:=Tryz.isAgg20
 z20:=Tryz.sizeOf20
 v20:=Tryz.zeroValue20
 t21:=Tryz.underlying21
 a21:=Tryz.isAgg21
 z21:=Tryz.sizeOf21
 v21:=Tryz.zeroValue21
 t37:=Tryz.underlying22
 a37:=Tryz.isAgg22
 z37:=Tryz.sizeOf22
 v37:=Tryz.zeroValue22
 t46:=Tryz.underlying185
 a46:=Tryz.isAgg185
 z46:=Tryz.sizeOf185
 v46:=Tryz.zeroValue185
 t51:=Tryz.underlying188
 a51:=Tryz.isAgg188
 z51:=Tryz.sizeOf188
 v51:=Tryz.zeroValue188
 t53:=Tryz.underlying199
 a53:=Tryz.isAgg199
 z53:=Tryz.sizeOf199
 v53:=Tryz.zeroValue199
 t75:=Tryz.underlying177
 a75:=Tryz.isAgg177
 z75:=Tryz.sizeOf177
 v75:=Tryz.zeroValue177
 t76:=Tryz.underlying178
 a76:=Tryz.isAgg178
 z76:=Tryz.sizeOf178
 v76:=Tryz.zeroValue178
 t85:=Tryz.underlying194
 a85:=Tryz.isAgg194
 z85:=Tryz.sizeOf194
 v85:=Tryz.zeroValue194
 t127:=Tryz.underlying211
 a127:=Tryz.isAgg211
 z127:=Tryz.sizeOf211
 v127:=Tryz.zeroValue211
 t143:=Tryz.underlying212
 a143:=Tryz.isAgg212
 z143:=Tryz.sizeOf212
 v143:=Tryz.zeroValue212
 t145:=Tryz.underlying214
 a145:=Tryz.isAgg214
 z145:=Tryz.sizeOf214
 v145:=Tryz.zeroValue214
 t167:=Tryz.underlying193
 a167:=Tryz.isAgg193
 z167:=Tryz.sizeOf193
 v167:=Tryz.zeroValue193
 t168:=Tryz.underlying196
 a168:=Tryz.isAgg196
 z168:=Tryz.sizeOf196
 v168:=Tryz.zeroValue196
 t171:=Tryz.underlying216
 a171:=Tryz.isAgg216
 z171:=Tryz.sizeOf216
 v171:=Tryz.zeroValue216
 t173:=Tryz.underlying219
 a173:=Tryz.isAgg219
 z173:=Tryz.sizeOf219
 v173:=Tryz.zeroValue219
 t175:=Tryz.underlying200
 a175:=Tryz.isAgg200
 z175:=Tryz.sizeOf200
 v175:=Tryz.zeroValue200
 t210:=Tryz.underlying204
 a210:=Tryz.isAgg204
 z210:=Tryz.sizeOf204
 v210:=Tryz.zeroValue204
 t212:=Tryz.underlying222
 a212:=Tryz.isAgg222
 z212:=Tryz.sizeOf222
 v212:=Tryz.zeroValue222
 t213:=Tryz.underlying223
 a213:=Tryz.isAgg223
 z213:=Tryz.sizeOf223
 t232:=Tryz.underlying226
 a232:=Tryz.isAgg226
 z232:=Tryz.sizeOf226
 v232:=Tryz.zeroValue226
 t233:=Tryz.underlying227
 a233:=Tryz.isAgg227
 z233:=Tryz.sizeOf227
 v233:=Tryz.zeroValue227
 g15:=by kernel_rfl
 g16:=by kernel_rfl
 g17:=by kernel_rfl
 g18:=by kernel_rfl
 g19:=by kernel_rfl }
def zFa (w:JY):Prop:=∃ m:Int,w.cell? ⟨0,0,none⟩=some (.int .i64 m)
theorem zFa.lt (h:zFa w):0<w.heap.size:=by
 obtain ⟨m,h⟩:=h
 exact World.block_lt_of_cell? _ _ h
theorem zFa.below {w':JY} (h:zFa w) (hb:Below w.heap.size w w'):zFa w':=by
 have hl:=h.lt
 obtain ⟨m,h⟩:=h
 exact ⟨m,(hb.cell (p:=⟨0,0,none⟩) hl).trans h⟩
theorem zJS {B:Nat} {a:JY} (h:Below B a w) (n:Nat):Below B a (w.drewN n):=h.trans ⟨rfl,rfl,rfl,yh _,fun _ _=>rfl⟩
theorem zRk (s r:JZ) (a:Nat) (hr:r=s.extract a s.size) (ha:a<=s.size) (hs:s.size<=20000) (w:JY) (hm:zFa w) :
  Calls Tryz.prog 81 #[.string r,.string ⟨#[10]⟩] w fun e w'=>e = .returned (.tuple #[.string (s.extract a (nx 10 s a)),.string (zA3 s (nx 10 s a)),.bool (decide (nx 10 s a<s.size))])/\Below w.heap.size w w':=by
 obtain ⟨m,hm⟩:=hm
 subst hr
 obtain ⟨e1,e2,e3⟩:=zQ1 s a ha
 refine (Any.strings_Cut zQY (s.extract a s.size) ⟨#[10]⟩ m w (by rw [Zs]; omega) hm).mono ?_
 rintro e w' ⟨rfl,n,rfl⟩
 refine ⟨?_,zJS (yG _ _) n⟩
 have e1':(⟨(Lib.cut (s.extract a s.size).data.toList (⟨#[10]⟩:JZ).data.toList).1.toArray⟩:JZ)=s.extract a (nx 10 s a):=e1
 have e2':(⟨(Lib.cut (s.extract a s.size).data.toList (⟨#[10]⟩:JZ).data.toList).2.1.toArray⟩:JZ)=zA3 s (nx 10 s a):=e2
 have e3':(Lib.cut (s.extract a s.size).data.toList (⟨#[10]⟩:JZ).data.toList).2.2=decide (nx 10 s a<s.size):=e3
 rw [e1',e2',e3']
theorem zNC (s:JZ) (hs:s.size<=20000) (w:JY) (hm:zFa w) :
  Calls Tryz.prog 101 #[.string s,.string ⟨#[32]⟩] w fun e w'=>∃ ps:List JZ,Hid (zGS ps=wds s)/\ps.length<=s.size+1/\e = .returned (.slice (some ⟨w.heap.size,0,none⟩) ps.length ps.length)/\w'=w.alloc (.cells (ps.map Value.string).toArray 9):=by
 obtain ⟨m,hm⟩:=hm
 have h1:1<=(⟨#[32]⟩:JZ).size:=yh _
 refine (Any.strings_Split zQZ (by kernel_rfl) s ⟨#[32]⟩ m w (by omega) hm h1).mono ?_
 rintro e w' ⟨rfl,rfl⟩
 have hl:=Lib.splitB_all ⟨#[32]⟩ h1 0 _ s rfl
 have hc:=Lib.countB_le ⟨#[32]⟩ h1 s.size s (yh _)
 refine ⟨Lib.splitB ⟨#[32]⟩ 0 (Lib.countB s ⟨#[32]⟩) s,zB (zK2 s),by omega,by rw [hl],rfl⟩
theorem zKr (t:JZ) (h:∀ i,i<t.size->48<=(bt t i).toNat/\(bt t i).toNat<=57):∀ k,k<=t.size->Lib.decFrom 0 (t.data.toList.take k)=some (Zy t k)
 | 0,_=>by simp [Lib.decFrom,Zy]
 | k+1,hk=>by
  refine Lib.decFrom_take t.data.toList k 0 (Zy t k) (bt t k) _ (zKr t h k (by omega)) (zIm (by omega)) ?_
  unfold Lib.digitVal
  rw [yO (h k (by omega))]
theorem zPC (t:JZ) (h:zNQ t):Lib.atoi t.data.toList=some (Zy t t.size:Int):=by
 obtain ⟨h1,h2,h3⟩:=h
 have hd:=zKr t h3 t.size (yh _)
 rw [List.take_of_length_le (by exact yh _)] at hd
 have h0:=zIm (s:=t) (j:=0) (by omega)
 obtain ⟨b,r,hl⟩:∃ b r,t.data.toList=b::r:=by
  cases hx:t.data.toList with
  | nil=>rw [hx] at h0; simp at h0
  | cons b r=>exact ⟨b,r,rfl⟩
 rw [hl] at hd h0 ⊢
 have hb:b=bt t 0:=by simpa using h0
 have hz:=h3 0 (by omega)
 rw [<- hb] at hz
 have n45:(b==45)=false:=by
  simp only [yU,ne_eq]; rintro rfl; exact yP hz.1 (by decide)
 have n43:(b==43)=false:=by
  simp only [yU,ne_eq]; rintro rfl; exact yP hz.1 (by decide)
 unfold Lib.atoi Lib.decNat
 simp [n45,n43,hd]
theorem zQb (t:JZ) (h:zDX t=true) (w:JY) :
  Calls Tryz.prog 123 #[.string t] w fun e w'=>e = .returned (.tuple #[.int .i64 (Zy t t.size:Int),.nilIface])/\Below w.heap.size w w':=by
 have hl:=(zCd t).1 h
 refine (Any.strconv_Atoi zQa t _ (by have:=hl.2.1; omega) (zPC t hl) w).mono ?_
 rintro e w' ⟨rfl,u,rfl⟩
 exact ⟨rfl,Joins.below_bytesWorld _ _ _ _ (yh _)⟩
theorem zHc (a:Option Addr) (c n:Nat) (w:JY) (hn:n<3) :
  Calls Tryz.prog 102 #[.slice a n c] w fun e w'=>(∃ o:OpR,e = .returned (.tuple #[.agg #[.string o.s,.int .i64 o.k,.int .i64 o.l,.int .i64 o.sd],.bool false]))/\Below w.heap.size w w':=by
 have h:(n:Int)<3:=by omega
 go_enter Tryz.func102,Tryz.ntmps102
 go_wp2
 refine yK (v:=.tuple #[.agg #[.string ⟨#[]⟩,.int .i64 0,.int .i64 0,.int .i64 0],.bool false]) ?res rfl ⟨⟨OpR.zero,rfl⟩,?_⟩
 case res=>simp [results,Tryz.results102,go_sem]
 exact zC _ _
theorem zQc {k:JZ}:(zCA k=1/\k=zAB)\/(zCA k=2/\k=zAx)\/(zCA k=3/\k=Zk)\/(zCA k=0/\k≠zAB/\k≠zAx/\k≠Zk):=by
 unfold zCA
 by_cases h1:k=zAB
 ·rw [yO h1]; exact yQ ⟨rfl,h1⟩
 by_cases h2:k=zAx
 ·rw [yN h1,yO h2]; exact yR (yQ ⟨rfl,h2⟩)
 by_cases h3:k=Zk
 ·rw [yN h1,yN h2,yO h3]; exact yR (yR (yQ ⟨rfl,h3⟩))
 ·rw [yN h1,yN h2,yN h3]; exact yR (yR (yR ⟨rfl,h1,h2,h3⟩))
theorem zF9 (g c n:Nat) (k t l sd:JZ) (w:JY) (hn:3<=n) (u:l.size<=maxLen) (c0:w.cell? ⟨g,0,none⟩=some (.string k)) (c1:w.cell? ⟨g,1,none⟩=some (.string t)) (c2:w.cell? ⟨g,2,none⟩=some (.string l)) (c3:4<=n->w.cell? ⟨g,3,none⟩=some (.string sd)) :
  Calls Tryz.prog 102 #[.slice (some ⟨g,0,none⟩) n c] w (zI9 w n k t l sd):=by
 have hg:g<w.heap.size:=World.block_lt_of_cell? _ _ c0
 have N:g≠w.heap.size:=by omega
 have M:¬ (n:Int)<3:=by omega
 have I:(0:Int)<(n:Int):=by omega
 have G:(1:Int)<(n:Int):=by omega
 have L:(2:Int)<(n:Int):=by omega
 have A:=zB c3
 clear c3
 cases hl:zDX l
 ·have HX:=zB (show ∀ W:JY,Calls Tryz.prog 122 #[.string l] W fun e w'=>e = .returned (.bool false)/\w'=W from fun W=>by have h:=zC9 l W u; rw [hl] at h; exact h)
  have HA:=zB (zKF (n:=n) (k:=k) (t:=t) (sd:=sd) hl)
  clear hl
  go_enter Tryz.func102,Tryz.ntmps102
  go_wp2_with (go_at_call 122; (with_reducible refine ((zA HX) _).mono ?_); rintro e w1 ⟨rfl,hx⟩; obtain rfl:=hx.symm; clear hx)
  refine yK (v:=.tuple #[.agg #[.string ⟨#[]⟩,.int .i64 0,.int .i64 0,.int .i64 0],.bool false]) ?res rfl ⟨OpR.zero,false,rfl,yR ⟨rfl,zA HA⟩,?_⟩
  case res=>simp [results,Tryz.results102,go_sem]
  exact zC _ _
 obtain ⟨V,hV⟩:∃ V:Nat,V=Zy l l.size:=⟨_,rfl⟩
 have HX:=zB (show ∀ W:JY,Calls Tryz.prog 122 #[.string l] W fun e w'=>e = .returned (.bool true)/\w'=W from fun W=>by have h:=zC9 l W u; rw [hl] at h; exact h)
 have HT:=zB (show ∀ W:JY,Calls Tryz.prog 123 #[.string l] W fun e w'=>e = .returned (.tuple #[.int .i64 (V:Int),.nilIface])/\Below W.heap.size W w' from fun W=>by have h:=zQb l hl W; rw [<- hV] at h; exact h)
 have j:=zB hl
 have HV:=zB hV
 clear hl hV
 obtain ⟨KI,P⟩:∃ KI:Int,KI=zCA k:=⟨_,rfl⟩
 have HK:=zB (show ∀ W:JY,Calls Tryz.prog 124 #[.string k] W fun e w'=>e = .returned (.int .i64 KI)/\w'=W from fun W=>by rw [P]; exact zG4 k W)
 have K:=zB P
 clear P
 have HZ:=zB (show zC2 (w.alloc (.cells #[.string ⟨#[]⟩,.int .i64 0,.int .i64 0,.int .i64 0] 57)) w.heap.size OpR.zero from ⟨⟨by simp [go_sem,OpR.zero],by simp [go_sem,OpR.zero],by simp [go_sem,OpR.zero],by simp [go_sem,OpR.zero]⟩,by simp [go_sem],by simp [go_sem],by simp [go_sem],by simp [go_sem]⟩)
 go_enter Tryz.func102,Tryz.ntmps102
 go_wp2_with (first | (go_at_call 122; (with_reducible refine ((zA HX) _).mono ?_); rintro e w1 ⟨rfl,hx⟩; obtain rfl:=hx.symm; clear hx) | (go_at_call 123; (with_reducible refine ((zA HT) _).mono ?_); rintro e w1 ⟨rfl,hb1⟩; have X:=zB ((zC w _).trans (hb1.mono (by simp))); have E:=zB ((zA HZ).below hb1 (by simp)); have z1:w.heap.size+1<=w1.heap.size:=(by have:=hb1.size; simp at this; omega); clear hb1))
 have d0:w1.cell? ⟨g,0,none⟩=some (.string k):=((zA X).cell (p:=⟨g,0,none⟩) hg).trans c0
 have d1:w1.cell? ⟨g,1,none⟩=some (.string t):=((zA X).cell (p:=⟨g,1,none⟩) hg).trans c1
 have a:=zB (show 4<=n->w1.cell? ⟨g,3,none⟩=some (.string sd) from fun h=>((zA X).cell (p:=⟨g,3,none⟩) hg).trans ((zA A) h))
 clear c0 c1 c2 A HZ HX HT
 go_cut [6] (fun s4 wc=>∃ b4:Nat,s4 = .pointer (some ⟨b4,0,none⟩)/\w.heap.size<b4/\b4<wc.heap.size/\Hid (zC2 wc b4 ⟨t,KI,(V:Int),0⟩)/\Hid (Below w1.heap.size w1 wc))
 case first=>
  have O:g<w1.heap.size:=by omega
  go_region_held (fun w'=>w'.cell? ⟨g,0,none⟩=some (.string k)/\w'.cell? ⟨g,1,none⟩=some (.string t)) (go_keep)
   (first | (go_at_call 124; have B:=(zA HK); (with_reducible refine (B _).mono ?_); rintro e w2 ⟨rfl,hx⟩; obtain rfl:=hx.symm; clear hx B))
  all_goals
   go_wp2_with fail
   go_meet
   case rel=>
    go_light
    exact ⟨w1.heap.size,rfl,by omega,by simp,zB ⟨⟨by simp [go_sem],by simp [go_sem],by simp [go_sem],by simp [go_sem]⟩,by simp [go_sem],by simp [go_sem],by simp [go_sem],by simp [go_sem]⟩,zB ((zC _ _).drew)⟩
 case rest=>
  obtain ⟨b4,rfl,o,i,D,y⟩:=hcut
  have Q:=zB ((zA X).trans ((zA y).mono (by omega)))
  have C:=zB ((zA E).below (zA y) (by omega))
  obtain ⟨⟨p0,p1,p2,p3⟩,f0,f1,f2,f3⟩:=zA D
  obtain ⟨⟨r0,r1,r2,r3⟩,z0,z1',z2,z3⟩:=zA C
  simp only [OpR.zero] at p0 p1 p2 p3 r0 r1 r2 r3
  have e1:b4≠w.heap.size:=by omega
  have e2:w.heap.size≠b4:=by omega
  have e3:b4≠g:=by omega
  have e4:g≠b4:=by omega
  have f:=zB (show 4<=n->wc.cell? ⟨g,3,none⟩=some (.string sd) from fun h=>((zA y).cell (p:=⟨g,3,none⟩) (by show g<w1.heap.size; omega)).trans ((zA a) h))
  clear D C a d0 d1 HK E y X
  rcases zQc (k:=k) with ⟨hk,q⟩ | ⟨hk,q⟩ | ⟨hk,q⟩ | ⟨hk,d,b,U⟩
  ·have H:=zB (zG9 (n:=n) (t:=t) (sd:=sd) (zA j) q)
   obtain rfl:KI=1:=(zA K).trans hk
   by_cases h3:n=3
   ·have HA:=zB (show Zv n k t l sd=some ⟨t,1,(V:Int),0⟩ by rw [zA H,yO h3,zA HV])
    have J:((n:Int)==3)=true:=by simp; omega
    clear h3 H hk q K
    go_wp2
    refine yK (v:=.tuple #[.agg #[.string t,.int .i64 1,.int .i64 (V:Int),.int .i64 0],.bool true]) ?res rfl ⟨⟨t,1,(V:Int),0⟩,true,rfl,yQ ⟨rfl,zA HA⟩,?_⟩
    case res=>simp [results,Tryz.results102,go_sem,r0,r1,r2,r3,e1,e2,e3,e4]
    exact zK (yh _) [.string t,.int .i64 1,.int .i64 (V:Int),.int .i64 0] 0 _ (zA Q)
   ·have HA:=zB (show Zv n k t l sd=none by rw [zA H,yN h3])
    have J:((n:Int)==3)=false:=by simp; omega
    clear h3 H hk q K
    go_wp2
    refine yK (v:=.tuple #[.agg #[.string t,.int .i64 1,.int .i64 (V:Int),.int .i64 0],.bool false]) ?res rfl ⟨⟨t,1,(V:Int),0⟩,false,rfl,yR ⟨rfl,zA HA⟩,?_⟩
    case res=>simp [results,Tryz.results102,go_sem,r0,r1,r2,r3,e1,e2,e3,e4]
    exact zK (yh _) [.string t,.int .i64 1,.int .i64 (V:Int),.int .i64 0] 0 _ (zA Q)
  ·have H:=zB (zIQ (n:=n) (t:=t) (sd:=sd) (zA j) q)
   obtain rfl:KI=2:=(zA K).trans hk
   by_cases h4:n=4
   ·have F:((n:Int)==4)=true:=by simp; omega
    have m:(3:Int)<(n:Int):=by omega
    have k3:=(zA f) (by omega)
    obtain ⟨S,hS⟩:∃ S:Int,S=Zh sd:=⟨_,rfl⟩
    have HS:=zB (show ∀ W:JY,Calls Tryz.prog 125 #[.string sd] W fun e w'=>e = .returned (.int .i64 S)/\w'=W from fun W=>by rw [hS]; exact zG3 sd W)
    have HA:=zB (show ∀ v:Bool,v=(S != 0)->(v=true/\Zv n k t l sd=some ⟨t,2,(V:Int),S⟩)\/(v=false/\Zv n k t l sd=none) from fun v hv=>by
     rw [zA H]
     by_cases Y:S=0
     ·right
      exact ⟨by rw [hv]; simp [Y],by rw [yN (fun x=>x.2 (hS.symm.trans Y))]⟩
     ·left
      exact ⟨by rw [hv]; simp [Y],by rw [yO ⟨h4,fun x=>Y (hS.trans x)⟩,zA HV,hS]⟩)
    clear H hS h4 hk q K
    go_wp2_with (first | (go_at_call 125; (with_reducible refine ((zA HS) _).mono ?_); rintro e w2 ⟨rfl,hx⟩; obtain rfl:=hx.symm; clear hx))
    go_region
    go_wp2
    refine yK (v:=.tuple #[.agg #[.string t,.int .i64 2,.int .i64 (V:Int),.int .i64 S],.bool (S != 0)]) ?res rfl ⟨⟨t,2,(V:Int),S⟩,(S != 0),rfl,(zA HA) _ rfl,?_⟩
    case res=>simp [results,Tryz.results102,go_sem,r0,r1,r2,r3,e1,e2,e3,e4]
    exact zK (yh _) [.string t,.int .i64 2,.int .i64 (V:Int),.int .i64 S] 0 _ ((zA Q).setCell (p:=⟨b4,3,none⟩) (by show w.heap.size<=b4; omega) _).drew
   ·have HA:=zB (show Zv n k t l sd=none by rw [zA H,yN (fun x=>h4 x.1)])
    have F:((n:Int)==4)=false:=by simp; omega
    clear h4 H hk q K
    go_wp2
    refine yK (v:=.tuple #[.agg #[.string ⟨#[]⟩,.int .i64 0,.int .i64 0,.int .i64 0],.bool false]) ?res rfl ⟨OpR.zero,false,rfl,yR ⟨rfl,zA HA⟩,?_⟩
    case res=>simp [results,Tryz.results102,go_sem,r0,r1,r2,r3]
    first
     | exact zA Q
     | exact zK (yh _) [.string ⟨#[]⟩,.int .i64 0,.int .i64 0,.int .i64 0] 0 _ (zA Q)
  ·have H:=zB (zFp (n:=n) (t:=t) (sd:=sd) (zA j) q)
   obtain rfl:KI=3:=(zA K).trans hk
   by_cases h3:n=3
   ·have HA:=zB (show Zv n k t l sd=some ⟨t,3,(V:Int),0⟩ by rw [zA H,yO h3,zA HV])
    have J:((n:Int)==3)=true:=by simp; omega
    clear h3 H hk q K
    go_wp2
    refine yK (v:=.tuple #[.agg #[.string t,.int .i64 3,.int .i64 (V:Int),.int .i64 0],.bool true]) ?res rfl ⟨⟨t,3,(V:Int),0⟩,true,rfl,yQ ⟨rfl,zA HA⟩,?_⟩
    case res=>simp [results,Tryz.results102,go_sem,r0,r1,r2,r3,e1,e2,e3,e4]
    exact zK (yh _) [.string t,.int .i64 3,.int .i64 (V:Int),.int .i64 0] 0 _ (zA Q)
   ·have HA:=zB (show Zv n k t l sd=none by rw [zA H,yN h3])
    have J:((n:Int)==3)=false:=by simp; omega
    clear h3 H hk q K
    go_wp2
    refine yK (v:=.tuple #[.agg #[.string t,.int .i64 3,.int .i64 (V:Int),.int .i64 0],.bool false]) ?res rfl ⟨⟨t,3,(V:Int),0⟩,false,rfl,yR ⟨rfl,zA HA⟩,?_⟩
    case res=>simp [results,Tryz.results102,go_sem,r0,r1,r2,r3,e1,e2,e3,e4]
    exact zK (yh _) [.string t,.int .i64 3,.int .i64 (V:Int),.int .i64 0] 0 _ (zA Q)
  ·have HA:=zB (zIR (n:=n) (t:=t) (l:=l) (sd:=sd) d U b)
   obtain rfl:KI=0:=(zA K).trans hk
   clear hk d b U K
   go_wp2
   refine yK (v:=.tuple #[.agg #[.string ⟨#[]⟩,.int .i64 0,.int .i64 0,.int .i64 0],.bool false]) ?res rfl ⟨OpR.zero,false,rfl,yR ⟨rfl,zA HA⟩,?_⟩
   case res=>simp [results,Tryz.results102,go_sem,r0,r1,r2,r3]
   first
    | exact zA Q
    | exact zK (yh _) [.string ⟨#[]⟩,.int .i64 0,.int .i64 0,.int .i64 0] 0 _ (zA Q)
end Go.Proofs.YtgbkgkdpdfdokaaGreatDoor
