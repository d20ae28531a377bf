import Derived.Deep.QuietTactic
import Derived.BigQuiet
import Derived.Test.YtfboipappaonhaaGreatV00
import Derived.Test.YtfboipappaonhaaGreatV01
import Derived.Test.YtfboipappaonhaaGreatV03
import Derived.Test.YtfboipappaonhaaGreatV13
import Derived.Test.YtfboipappaonhaaGreatV21
import Derived.Test.YtfboipappaonhaaGreatV23
import Derived.Test.YtfboipappaonhaaGreatV24
import Derived.Test.YtfboipappaonhaaGreatV27
namespace Go.Proofs.YtfboipappaonhaaGreat
set_option linter.unusedSimpArgs false
set_option linter.unusedVariables false
set_option maxHeartbeats 16000000
set_option maxRecDepth 100000
open Go.RowKit
def zJs (a b:zD):Bool:=(a.k == b.k) && (a.t.toList == b.t.toList) && (a.a == b.a) && (a.b == b.b)
theorem zGi (a b:zD):zJs a b = true ↔ a = b:=by
 unfold zJs
 obtain ⟨k,t,x,y⟩:=a
 obtain ⟨k',t',x',y'⟩:=b
 simp only [Bool.and_eq_true,beq_iff_eq]
 constructor
 ·rintro ⟨⟨⟨rfl,h2⟩,rfl⟩,rfl⟩
  rw [zCz h2]
 ·intro h
  injection h with h1 h2 h3 h4
  exact ⟨⟨⟨h1,by rw [h2]⟩,h3⟩,h4⟩
theorem zKO:Tryz.prog.underlying 81 = some (.struct (Tryz.prog.fieldsOf 81)):=by kernel_rfl
theorem zMu:Tryz.prog.stoodInHeld 81 = false:=by kernel_rfl
theorem zL2:Tryz.prog.eqGuardType Tryz.prog.depth 81 = false:=by kernel_rfl
theorem zIP (a b:zD) (w:World) :
  (binOp .neq 81 (.agg #[.int .i64 a.k,.string a.t,.int .i64 a.a,.int .i64 a.b]) (.agg #[.int .i64 b.k,.string b.t,.int .i64 b.a,.int .i64 b.b])).run Tryz.prog w = .ok (.bool (!zJs a b)) w:=by
 rw [run_neq_struct,run_equalIn_agg _ _ _ _ _ zKO zMu]
 unfold Program.fieldsOf zJs
 rw [Tryz.underlying81]
 cases h1:(a.k == b.k) <;> cases h2:(a.t.toList == b.t.toList) <;> cases h3:(a.a == b.a) <;> cases h4:(a.b == b.b) <;> simp [go_sem,h1,h2,h3,h4]
theorem zKP {xs ys:List zD} (hl:xs.length = ys.length) (h:∀ j,j < xs.length -> atN xs j = atN ys j):xs = ys:=
 List.ext_getElem hl fun i h1 h2=>by
  have:=h i h1
  simpa [atN,List.getD_eq_getElem?_getD,h1,h2] using this
theorem zFo (a a':Option Addr) (cap cap':Nat) (xs ys:List zD) (w:World) (hm:xs.length <= 1048576) (hm':ys.length <= 1048576) (h:zIc w a xs) (h':zIc w a' ys) :
  Calls Tryz.prog 16 #[.agg #[.slice a xs.length cap],.agg #[.slice a' ys.length cap']] w fun e w'=>(∃ v,e = .returned (.bool v) /\ (v = true ↔ xs = ys)) /\ Below w.heap.size w w':=by
 obtain ⟨W,hW⟩:∃ W,W = (w.alloc (.cells #[.slice a xs.length cap] 28)).alloc (.cells #[.slice a' ys.length cap'] 28):=⟨_,rfl⟩
 have hb:Below w.heap.size w W:=by rw [hW]; exact (zC _ _).alloc (by simp) _
 have HA:=zB (h.below hb)
 have HA':=zB (h'.below hb)
 have HB:=zB hb
 have HW:=zB hW
 have hzW:W.heap.size = w.heap.size + 2:=by rw [hW]; simp
 have t0:W.cell? ⟨w.heap.size,0,none⟩ = some (.slice a xs.length cap):=by rw [hW]; exact ((zC (w.alloc _) _).cell (p:=⟨w.heap.size,0,none⟩) (by simp)).trans (by simp [go_sem])
 have t1:W.cell? ⟨w.heap.size + 1,0,none⟩ = some (.slice a' ys.length cap'):=by rw [hW]; simp [go_sem]
 clear h h' hb hW
 by_cases hl:xs.length = ys.length
 ·have hlI:((xs.length:Int) != (ys.length:Int)) = false:=by simp [hl]
  have HL:=zB hl
  clear hl
  go_enter Tryz.func16,Tryz.ntmps16
  go_wp2_with fail
  rw [<- zA HW]
  go_loopw [5] (fun i wr=>∃ n:Nat,n <= xs.length /\ i = .int .i64 (n:Int) /\ Hid (∀ j,j < n -> atN xs j = atN ys j) /\ Below W.heap.size W wr) (fun i _=>xs.length - (intOf i).toNat)
  case atStart=>exact ⟨0,Nat.zero_le _,rfl,zB (fun j h=>by omega),Below.refl _ _⟩
  case round=>
   obtain ⟨n,hn,rfl,hno,hbel⟩:=hrel
   have d0:=(hbel.cell (p:=⟨w.heap.size,0,none⟩) (show w.heap.size < _ by omega)).trans t0
   have d1:=(hbel.cell (p:=⟨w.heap.size + 1,0,none⟩) (show w.heap.size + 1 < _ by omega)).trans t1
   by_cases hlt:n < xs.length
   ·have hltI:(n:Int) < (xs.length:Int):=by omega
    have hlt2:n < ys.length:=by rw [<- zA HL]; exact hlt
    have hltJ:(n:Int) < (ys.length:Int):=by omega
    rcases zA HA with h | ⟨b,off,rfl,ho,hB⟩
    ·omega
    rcases zA HA' with h | ⟨b',off',rfl,ho',hB'⟩
    ·omega
    obtain ⟨a0,a1,a2,a3⟩:=(ho n hlt).below hbel hB
    obtain ⟨b0,b1,b2,b3⟩:=(ho' n hlt2).below hbel hB'
    have hq:=fun V=>zIP (atN xs n) (atN ys n) V
    have hg:=zL2
    have HBE:=zB hbel
    clear ho ho' hbel hlI
    go_wp2_with fail
    go_quiet (fail)
    clear hq hg a0 a1 a2 a3 b0 b1 b2 b3
    cases hsm:zJs (atN xs n) (atN ys n)
    ·have HN:=zB (show xs ≠ ys from fun e=>by
      have:=(zGi (atN xs n) (atN ys n)).2 (by rw [e])
      rw [hsm] at this
      cases this)
     clear hsm
     go_wp2_with fail
     go_ret
     exact ⟨⟨false,rfl,fun e=>(by cases e),fun e=>absurd e (zA HN)⟩,(zA HB).trans ((below_drewN (zA HBE) _).mono (zA HB).size)⟩
    ·have HN:=zB (show ∀ j,j < n + 1 -> atN xs j = atN ys j from fun j hj=>by
      by_cases e:j = n
      ·rw [e]; exact (zGi _ _).1 hsm
      ·exact (zA hno) j (by omega))
     clear hsm
     go_wp2_with fail
     exact ⟨⟨n + 1,by omega,by go_num,HN,below_drewN (zA HBE) _⟩,by simp [intOf]; omega⟩
   ·have HE:=zB (show xs = ys from zKP (zA HL) (fun j hj=>(zA hno) j (by omega)))
    have HBE:=zB ((zA HB).trans (hbel.mono (zA HB).size))
    clear hbel hlI
    go_wp2_with fail
    go_ret
    exact ⟨⟨true,rfl,fun _=>zA HE,fun _=>rfl⟩,zA HBE⟩
 ·have hlI:((xs.length:Int) != (ys.length:Int)) = true:=by simp; omega
  have HL:=zB hl
  clear hl
  go_enter Tryz.func16,Tryz.ntmps16
  go_wp2_with fail
  go_ret
  exact ⟨⟨false,rfl,fun e=>(by cases e),fun e=>absurd (by rw [e]) (zA HL)⟩,by rw [<- zA HW]; exact zA HB⟩
theorem zI8 (b off cap:Nat) (xs:List zD) (w:World) (hm:xs.length <= 1048576) (hw:Zc w b off xs) (hs:ZX xs) (hB:b < w.heap.size) :
  Calls Tryz.prog 11 #[.agg #[.slice (some ⟨b,off,none⟩) xs.length cap]] w fun e w'=>(∃ (a:Option Addr) (c:Nat) (us:List zD) (v:Bool),e = .returned (.agg #[.slice a us.length c]) /\ Hid (Zf w' w.heap.size a us) /\ Hid (zDN xs us v)) /\ Below w.heap.size w w':=by
 have HB0:=zB (show Below w.heap.size w ((w.alloc (.cells #[.slice (some ⟨b,off,none⟩) xs.length cap] 28)).alloc (.cells #[.slice none 0 0] 28)) from (zC _ _).alloc (by simp) _)
 have HX:=zB (zCv b off cap xs _ hm (hw.below (zA HB0) hB) hs (Nat.lt_of_lt_of_le hB (zA HB0).size))
 clear hw hs
 go_enter Tryz.func11,Tryz.ntmps11
 go_wp2_with fail
 (with_reducible refine (zA HX).mono ?_)
 rintro e w1 ⟨⟨a,c,us,v,rfl,hO,hE⟩,hb1⟩
 have z1:w.heap.size + 2 <= w1.heap.size:=by have:=hb1.size; simpa using this
 have Q1:w1.cell? ⟨w.heap.size + 1,0,none⟩ = some (.slice none 0 0):=(hb1.cell (p:=⟨w.heap.size + 1,0,none⟩) (by simp)).trans (by simp [go_sem])
 have G1:w1.frozen? ⟨w.heap.size + 1,0,none⟩ = false:=(hb1.frozen (p:=⟨w.heap.size + 1,0,none⟩) (by simp)).trans (by simp [go_sem])
 have l1:w.heap.size + 1 < w1.heap.size:=by omega
 have n1:¬ w.heap.size + 1 = w1.heap.size:=by omega
 have bel:=zB ((zA HB0).trans (hb1.mono (by simp; omega)))
 clear HX
 go_wp2_with fail
 have HOF:=zB (show Zf ((w1.setCell ⟨w.heap.size + 1,0,none⟩ (.slice a us.length c)).alloc (.cells #[.slice a us.length c] 28)) w.heap.size a us from by
  have h1:=((zA hO).grown (zW (Zp [.slice a us.length c] 0 w1 (g:=w.heap.size + 1))) (fun q hq=>by injection hq with hq; subst hq; simp)).step (zC _ (.cells #[.slice a us.length c] 28))
  rcases h1 with h | ⟨g,rfl,hn,hf⟩
  ·exact Or.inl h
  ·exact Or.inr ⟨g,rfl,by simp at hn; omega,hf⟩)
 refine bodyPost_ret (v:=.agg #[.slice a us.length c]) ?res rfl ⟨⟨a,c,us,v,rfl,HOF,hE⟩,((zA bel).setCell (by simp) _).alloc (by simp [World.setCell]; omega) _⟩
 case res=>simp [results,Tryz.results11,go_sem,Q1,l1,n1]
def zIQ (us:List zN):List UInt8:=us.flatMap fun t=>t.g.data.toList ++ t.t.data.toList
theorem zEa (us:List zN):∀ k,k <= us.length -> zAO us k = zIQ (us.take k)
 | 0,_=>rfl
 | k + 1,h=>by
  have ih:=zEa us k (by omega)
  have e:us.take (k + 1) = us.take k ++ [atT us k]:=by
   rw [List.take_add_one,List.getElem?_eq_getElem (by omega)]
   simp [atT,List.getD,List.getElem?_eq_getElem (show k < us.length by omega)]
  rw [e]
  show zAO us k ++ (atT us k).g.data.toList ++ (atT us k).t.data.toList = _
  rw [ih]
  simp [zIQ]
theorem zFp (us:List zN):zAO us us.length = zIQ us:=by
 rw [zEa us us.length (Nat.le_refl _),List.take_length]
theorem zFq (s:ByteArray) (i j:Nat):(s.extract i j).data.toList = (s.data.toList.drop i).take (j - i):=by
 simp [ByteArray.data_extract,List.extract_eq_take_drop]
theorem zFr {xs:List OpR} {s:ByteArray}:∀ (us:List zN) (i:Nat),ZD xs s i us -> zIQ us = s.data.toList.drop i /\ us.length + i <= s.size + 1
 | [],_,h=>h.elim
 | t :: out,i,h=>by
  have hsl:s.data.toList.length = s.size:=by simp
  rcases h with ⟨rfl,hi,_,rfl⟩ | ⟨j,n,k,hij,hj,_,_,htok,rfl,hout⟩
  ·refine ⟨?_,by simp; omega⟩
   show (s.extract i s.size).data.toList ++ [] ++ [] = _
   rw [zFq,List.append_nil,List.append_nil,List.take_of_length_le (by rw [List.length_drop,hsl]; exact Nat.le_refl _)]
  ·obtain ⟨ih1,ih2⟩:=zFr out (j + n) hout
   have h1:=htok.1
   refine ⟨?_,by simp; omega⟩
   show (s.extract i j).data.toList ++ (s.extract j (j + n)).data.toList ++ zIQ out = _
   rw [ih1,zFq,zFq]
   have e1:s.data.toList.drop (j + n) = (s.data.toList.drop j).drop n:=by rw [List.drop_drop]
   have e2:s.data.toList.drop j = (s.data.toList.drop i).drop (j - i):=by rw [List.drop_drop]; congr 1; omega
   rw [List.append_assoc,e1,Nat.add_sub_cancel_left,List.take_append_drop,e2,List.take_append_drop]
theorem zKQ {xs:List OpR} {s:ByteArray} {us:List zN} (h:ZD xs s 0 us):(⟨(zAO us us.length).toArray⟩:ByteArray) = s /\ us.length <= s.size + 1 /\ ZW us us.length = s.size:=by
 obtain ⟨h1,h2⟩:=zFr us 0 h
 rw [List.drop_zero] at h1
 have h3:=zDg us us.length
 rw [zFp,h1] at h3
 refine ⟨?_,by omega,by rw [<- h3]; simp⟩
 rw [zFp,h1]
end Go.Proofs.YtfboipappaonhaaGreat
namespace Go.Proofs.YtfboipappaonhaaGreat
set_option linter.unusedSimpArgs false
set_option linter.unusedVariables false
set_option maxHeartbeats 16000000
set_option maxRecDepth 100000
end Go.Proofs.YtfboipappaonhaaGreat
namespace Go.Proofs.YtfboipappaonhaaGreat
set_option linter.unusedSimpArgs false
set_option linter.unusedVariables false
set_option maxHeartbeats 16000000
set_option maxRecDepth 100000
open Go.RowKit
def zi (zs:List ze):List Value:=zs.flatMap fun x=>[.string x.t,.bool x.o,.bool x.i]
theorem ZJ (xs ys:List ze):zi (xs ++ ys) = zi xs ++ zi ys:=by simp [zi]
theorem zGj:∀ (zs:List ze) (i:Nat),i < zs.length -> (zi zs)[i * 3]? = some (.string (atW zs i).t) /\ (zi zs)[i * 3 + 1]? = some (.bool (atW zs i).o) /\ (zi zs)[i * 3 + 2]? = some (.bool (atW zs i).i)
 | [],i,h=>absurd h (Nat.not_lt_zero i)
 | o :: r,0,_=>⟨rfl,rfl,rfl⟩
 | o :: r,i + 1,h=>by
  have ih:=zGj r i (by simpa using h)
  have e:∀ j,(zi (o :: r))[(i + 1) * 3 + j]? = (zi r)[i * 3 + j]?:=fun j=>by
   have:(i + 1) * 3 + j = (i * 3 + j) + 3:=by omega
   rw [this]
   rfl
  exact ⟨(e 0).trans ih.1,(e 1).trans ih.2.1,(e 2).trans ih.2.2⟩
theorem Zi (zs:List ze):∀ u ∈ zi zs,u.oneCell' = true:=by
 intro u hu
 simp only [zi,List.mem_flatMap] at hu
 obtain ⟨o,_,ho⟩:=hu
 simp at ho
 rcases ho with rfl | rfl | rfl <;> rfl
theorem zOK:(Tryz.prog.info? 54).map (fun i=>(i.zero,i.size,i.bytes)) = some (some (.agg #[.string ⟨#[]⟩,.bool false,.bool false]),3,24):=by kernel_rfl
theorem zAw (w:World) (x:ze):∀ j u,(zi [x])[j]? = some u -> (w.alloc (.cells #[.string x.t,.bool x.o,.bool x.i] 54)).cell? ((⟨w.heap.size,0,none⟩:Addr).add j) = some u:=by
 intro j u hj
 rw [Addr.add_mid]
 have:=World.rangeAt_of_block (w:=w.alloc (.cells #[.string x.t,.bool x.o,.bool x.i] 54)) (b:=w.heap.size) (heap_alloc_new w _) 0 3
 exact this j u (by simpa [zi] using hj)
def zAP (w:World) (B:Nat) (u:Value) (us:List ze):Prop:=w.ownsRow B 54 3 u us.length (zi us)
theorem zAW {w:World} {B:Nat} {u:Value} {us:List ze} (h:zAP w B u us):∃ a c,u = .slice a us.length c:=by
 obtain ⟨_,⟨h1,h2⟩ | ⟨g,cap,cur,h1,_⟩⟩:=h
 ·exact ⟨none,0,by rw [h2]; exact h1⟩
 ·exact ⟨_,_,h1⟩
theorem zAP.below {w w':World} {B:Nat} {u:Value} {us:List ze} (h:zAP w B u us) (hb:Below w.heap.size w w'):zAP w' B u us:=
 World.ownsRow.kept h (zY hb none) (by cases u.ownBlock with
 | none=>exact Or.inl rfl
 | some k=>exact Or.inr (by simp))
theorem zAP.lt {w:World} {B:Nat} {u:Value} {us:List ze} (h:zAP w B u us):∀ g,u.ownBlock = some g -> B <= g /\ g < w.heap.size:=fun g hg=>World.ownsRow.lt h g hg
def zMv (w:World) (g:Nat) (ws:List ze):Prop:=∀ i,i < ws.length -> w.cell? ⟨g,i * 3,none⟩ = some (.string (atW ws i).t) /\ w.cell? ⟨g,i * 3 + 1,none⟩ = some (.bool (atW ws i).o) /\ w.cell? ⟨g,i * 3 + 2,none⟩ = some (.bool (atW ws i).i)
theorem zMv.below {w w':World} {g:Nat} {ws:List ze} {B:Nat} (h:zMv w g ws) (hb:Below B w w') (hB:g < B):zMv w' g ws:=fun i hi=>by
 obtain ⟨h0,h1,h2⟩:=h i hi
 exact ⟨(hb.cell (p:=⟨g,_,none⟩) hB).trans h0,(hb.cell (p:=⟨g,_,none⟩) hB).trans h1,(hb.cell (p:=⟨g,_,none⟩) hB).trans h2⟩
theorem zAP.ops {w:World} {B g c:Nat} {us:List ze} (h:zAP w B (.slice (some ⟨g,0,none⟩) us.length c) us):zMv w g us:=fun i hi=>by
 obtain ⟨c0,c1,c2⟩:=zGj us i hi
 have e:=fun j (hj:j < 3)=>World.ownsRow.cellAt h (i * 3 + j) (by omega)
 exact ⟨by simpa using (e 0 (by omega)).trans c0,by simpa using (e 1 (by omega)).trans c1,by simpa using (e 2 (by omega)).trans c2⟩
def zIR (w:World) (B:Nat) (u:Value) (vs:List ze) (x:Ending) (w':World):Prop:=
 ∃ u',x = .returned u' /\ Hid (zAP w' B u' vs) /\ Hid (w.grownBy w' u.ownBlock) /\ Hid (u'.ownBlock = u.ownBlock \/ ∃ k,u'.ownBlock = some k /\ w.heap.size <= k)
theorem zIR.join {w w1:World} {B:Nat} {u u1:Value} {vs:List ze} (h2:w.grownBy w1 u.ownBlock) (h3:u1.ownBlock = u.ownBlock \/ ∃ k,u1.ownBlock = some k /\ w.heap.size <= k) {x:Ending} {w':World} (hp:zIR w1 B u1 vs x w'):zIR w B u vs x w':=by
 obtain ⟨u',rfl,p1,p2,p3⟩:=hp
 exact ⟨u',rfl,p1,zB (zS h2 (zA p2) h3),zB (ZL h2 h3 _ (zA p3))⟩
end Go.Proofs.YtfboipappaonhaaGreat
