import Derived.Maps.AppendAt
import Derived.Test.YtfboipappaonhaaGreatM00
import Derived.Test.YtfboipappaonhaaGreatM02
import Derived.Test.YtfboipappaonhaaGreatM12
namespace Go.Proofs.YtfboipappaonhaaGreat
set_option linter.unusedSimpArgs false
set_option linter.unusedVariables false
set_option maxHeartbeats 16000000
set_option maxRecDepth 100000
open Go.RowKit
theorem ZH {w:World} {B n:Nat} {e:TypeId} {u:Value} {xs:List Value} (h:w.ownsRow B e 4 u n xs):∃ a c,u = .slice a n c:=by
 obtain ⟨_,⟨rfl,rfl⟩ | ⟨g,cap,cur,rfl,_⟩⟩:=h
 ·exact ⟨none,0,rfl⟩
 ·exact ⟨_,_,rfl⟩
def ZV (w:World) (B:Nat) (u:Value) (us:List zD):Prop:=w.ownsRow B 81 4 u us.length (zH us)
theorem ZV.below {w w':World} {B:Nat} {u:Value} {us:List zD} (h:ZV w B u us) (hb:Below w.heap.size w w'):ZV w' B u us:=
 World.ownsRow.kept h (ze hb none) (by cases u.ownBlock with
 | none=>exact Or.inl rfl
 | some k=>exact Or.inr (by simp))
theorem ZV.lt {w:World} {B:Nat} {u:Value} {us:List zD} (h:ZV w B u us):∀ g,u.ownBlock = some g -> g < w.heap.size:=fun g hg=>(World.ownsRow.lt h g hg).2
def Zl (w:World) (B:Nat) (u:Value) (vs:List zD) (x:Ending) (w':World):Prop:=
 ∃ u',x = .returned u' /\ Hid (ZV w' B u' vs) /\ Hid (w.grownBy w' u.ownBlock) /\ Hid (u'.ownBlock = u.ownBlock \/ ∃ k,u'.ownBlock = some k /\ w.heap.size <= k)
def zA8 (e:Value) (F:Nat -> List zD):Prop:=∃ T v f,e = .iface T v /\ (∀ w,(method 342 T v "loop.example/s0059/impl.appendTo").run Tryz.prog w = .ok (f,v) w) /\ (∀ a w,(callFunc f a).run Tryz.prog w = .ok (.enter f a) w) /\
 ∀ (B:Nat) (u:Value) (us vs:List zD) (w:World),ZV w B u us -> B <= w.heap.size -> us.length + (F us.length).length <= 100000 -> vs = us ++ F us.length -> Calls Tryz.prog f #[v,u] w (Zl w B u vs)
theorem zJQ (t:ByteArray):zA8 (zIZ t) (fun _=>[⟨1,t,0,0⟩]):=by
 refine ⟨_,_,187,rfl,fun w=>by kernel_rfl,fun a w=>by kernel_rfl,?_⟩
 intro B u us vs w hrow hB hlen hvs
 obtain ⟨i0,hi0,hz0,hz1,hz2⟩:∃ i,Tryz.prog.info? 81 = some i /\ i.zero = some (.agg #[.int .i64 0,.string ⟨#[]⟩,.int .i64 0,.int .i64 0]) /\ i.size = 4 /\ i.bytes = 40:=by
  obtain ⟨i,hi,hz⟩:=Option.map_eq_some_iff.1 zBh
  simp only [Prod.mk.injEq] at hz
  exact ⟨i,hi,hz.1,hz.2.1,hz.2.2⟩
 have HI:=zB hi0
 have HZ:=zB (And.intro hz0 (And.intro hz1 hz2))
 clear hi0 hz0 hz1 hz2
 obtain ⟨a,c,rfl⟩:=ZH hrow
 have HR:=zB hrow
 have HV:=zB hvs
 simp only [List.length_cons,List.length_nil] at hlen
 clear hrow hvs
 go_enter Tryz.func187,Tryz.ntmps187
 go_wp2_with (at_builtin; refine wpList_append_own_at _ rfl (.tmp 5) (.tmp 10) 26 rfl B 81 i0 _ 4 40 Tryz.underlying26 (zA HI) (zA HZ).1 (zA HZ).2.1 (zA HZ).2.2 rfl (by decide) _ us.length (zH us) rfl (((zA HR).below (zC _ _)).below (zC _ _)) ⟨w.heap.size + 1,0,none⟩ 1 1 (zH [⟨1,t,0,0⟩]) rfl rfl (by simpa using zZ (w.alloc _) ⟨1,t,0,0⟩) (zL _) ?b1 ?b2 ?b3 ?next)
 case b1=>unfold maxLen; omega
 case b2=>omega
 case b3=>first | omega | (simp; omega)
 case next=>
  intro v4 w4 hown4 hgrow4 hnil4 hat4
  have HO:=zB (show ZV w4 B v4 vs by
   rw [zA HV]
   unfold ZV
   rw [ZC,List.length_append]
   exact hown4)
  have HG:=zB (zU ((zC _ _).alloc (by simp) _) hgrow4)
  have HA:=zB (show v4.ownBlock = (Value.slice a us.length c).ownBlock \/ ∃ k,v4.ownBlock = some k /\ w.heap.size <= k from hat4.imp id (fun h=>⟨_,h,by first | omega | (simp; omega)⟩))
  clear hown4 hgrow4 hnil4 hat4
  go_wp2_with fail
  go_ret
  exact ⟨v4,rfl,HO,HG,HA⟩
theorem zHp (t:ByteArray):zA8 (zFJ t) (fun _=>[⟨2,t,0,0⟩]):=by
 refine ⟨_,_,188,rfl,fun w=>by kernel_rfl,fun a w=>by kernel_rfl,?_⟩
 intro B u us vs w hrow hB hlen hvs
 obtain ⟨i0,hi0,hz0,hz1,hz2⟩:∃ i,Tryz.prog.info? 81 = some i /\ i.zero = some (.agg #[.int .i64 0,.string ⟨#[]⟩,.int .i64 0,.int .i64 0]) /\ i.size = 4 /\ i.bytes = 40:=by
  obtain ⟨i,hi,hz⟩:=Option.map_eq_some_iff.1 zBh
  simp only [Prod.mk.injEq] at hz
  exact ⟨i,hi,hz.1,hz.2.1,hz.2.2⟩
 have HI:=zB hi0
 have HZ:=zB (And.intro hz0 (And.intro hz1 hz2))
 clear hi0 hz0 hz1 hz2
 obtain ⟨a,c,rfl⟩:=ZH hrow
 have HR:=zB hrow
 have HV:=zB hvs
 simp only [List.length_cons,List.length_nil] at hlen
 clear hrow hvs
 go_enter Tryz.func188,Tryz.ntmps188
 go_wp2_with (at_builtin; refine wpList_append_own_at _ rfl (.tmp 5) (.tmp 10) 26 rfl B 81 i0 _ 4 40 Tryz.underlying26 (zA HI) (zA HZ).1 (zA HZ).2.1 (zA HZ).2.2 rfl (by decide) _ us.length (zH us) rfl (((zA HR).below (zC _ _)).below (zC _ _)) ⟨w.heap.size + 1,0,none⟩ 1 1 (zH [⟨2,t,0,0⟩]) rfl rfl (by simpa using zZ (w.alloc _) ⟨2,t,0,0⟩) (zL _) ?b1 ?b2 ?b3 ?next)
 case b1=>unfold maxLen; omega
 case b2=>omega
 case b3=>first | omega | (simp; omega)
 case next=>
  intro v4 w4 hown4 hgrow4 hnil4 hat4
  have HO:=zB (show ZV w4 B v4 vs by
   rw [zA HV]
   unfold ZV
   rw [ZC,List.length_append]
   exact hown4)
  have HG:=zB (zU ((zC _ _).alloc (by simp) _) hgrow4)
  have HA:=zB (show v4.ownBlock = (Value.slice a us.length c).ownBlock \/ ∃ k,v4.ownBlock = some k /\ w.heap.size <= k from hat4.imp id (fun h=>⟨_,h,by first | omega | (simp; omega)⟩))
  clear hown4 hgrow4 hnil4 hat4
  go_wp2_with fail
  go_ret
  exact ⟨v4,rfl,HO,HG,HA⟩
def zAZ (F:Nat -> List zD) (k:Int) (t:ByteArray) (s:Nat):List zD:=F s ++ [⟨k,t,((s + (F s).length:Nat):Int) - 1,0⟩]
theorem zBQ {e:Value} {F:Nat -> List zD} (h:zA8 e F) (k:Int) (t:ByteArray) (B:Nat) (u:Value) (us vs:List zD) (w:World) (hrow:ZV w B u us) (hB:B <= w.heap.size) (hlen:us.length + (zAZ F k t us.length).length <= 100000) (hvs:vs = us ++ zAZ F k t us.length) :
  Calls Tryz.prog 192 #[.agg #[e],u,.int .i64 k,.string t] w (Zl w B u vs):=by
 obtain ⟨i0,hi0,hz0,hz1,hz2⟩:∃ i,Tryz.prog.info? 81 = some i /\ i.zero = some (.agg #[.int .i64 0,.string ⟨#[]⟩,.int .i64 0,.int .i64 0]) /\ i.size = 4 /\ i.bytes = 40:=by
  obtain ⟨i,hi,hz⟩:=Option.map_eq_some_iff.1 zBh
  simp only [Prod.mk.injEq] at hz
  exact ⟨i,hi,hz.1,hz.2.1,hz.2.2⟩
 have HI:=zB hi0
 have HZ:=zB (And.intro hz0 (And.intro hz1 hz2))
 clear hi0 hz0 hz1 hz2
 obtain ⟨T,v,f,rfl,hm,hcf,hcall⟩:=h
 have HC:=zB hcall
 obtain ⟨a,c,rfl⟩:=ZH hrow
 have HR:=zB hrow
 obtain ⟨us1,HU1⟩:∃ us1,Hid (us1 = us ++ F us.length):=⟨_,zB rfl⟩
 have hl1:us1.length = us.length + (F us.length).length:=by rw [zA HU1,List.length_append]
 have hlen1:us1.length + 1 <= 100000:=by
  simp only [zAZ,List.length_append,List.length_cons,List.length_nil] at hlen
  omega
 have HL0:=zB (show us.length + (F us.length).length <= 100000 by omega)
 have HV:=zB (show vs = us1 ++ [⟨k,t,(us1.length:Int) - 1,0⟩] by
  rw [hvs,zA HU1,zAZ,List.length_append,List.append_assoc])
 clear hcall hrow hvs hlen hl1
 go_enter Tryz.func192,Tryz.ntmps192
 go_wp2_with fail
 refine ((zA HC) B _ us us1 _ ((zA HR).below (zC _ _)) (by simp; omega) (zA HL0) (zA HU1)).mono ?_
 rintro x w1 ⟨u1,rfl,hr1,hg1,ho1⟩
 obtain ⟨a1,c1,rfl⟩:=ZH (zA hr1)
 have HG1:=zB (zU (zC _ _) (zA hg1))
 have HA1:=zB (show (Value.slice a1 us1.length c1).ownBlock = (Value.slice a us.length c).ownBlock \/ ∃ k,(Value.slice a1 us1.length c1).ownBlock = some k /\ w.heap.size <= k from (zA ho1).imp id (fun ⟨k,h1,h2⟩=>⟨k,h1,by simp at h2; omega⟩))
 have hz:=(zA HG1).size
 clear hg1 ho1 hm hcf
 go_wp2_with (at_builtin; refine wpList_append_own_at _ rfl (.tmp 13) (.tmp 20) 26 rfl B 81 i0 _ 4 40 Tryz.underlying26 (zA HI) (zA HZ).1 (zA HZ).2.1 (zA HZ).2.2 rfl (by decide) _ us1.length (zH us1) rfl ((zA hr1).below (zC _ _)) ⟨w1.heap.size,0,none⟩ 1 1 (zH [⟨k,t,(us1.length:Int) - 1,0⟩]) rfl rfl (by simpa using zZ w1 ⟨k,t,(us1.length:Int) - 1,0⟩) (zL _) ?b1 ?b2 ?b3 ?next)
 case b1=>unfold maxLen; omega
 case b2=>omega
 case b3=>first | omega | (simp; omega)
 case next=>
  intro v4 w4 hown4 hgrow4 hnil4 hat4
  have HO:=zB (show ZV w4 B v4 vs by
   rw [zA HV]
   unfold ZV
   rw [ZC,List.length_append]
   exact hown4)
  have HG2:=zB (zU (zC _ _) hgrow4)
  have HG:=zB (zV (zA HG1) (zA HG2) (zA HA1))
  have HA:=zB (Zc (zA HG1) (zA HA1) v4.ownBlock (hat4.imp id (fun h=>⟨_,h,by first | omega | simp⟩)))
  clear hown4 hgrow4 hnil4 hat4 HG1 HG2 HA1
  go_wp2_with fail
  go_ret
  exact ⟨v4,rfl,HO,HG,HA⟩
theorem zGu {w w1:World} {B:Nat} {u:Value} {vs:List zD} (h:Below w.heap.size w w1) {x:Ending} {w':World} (hp:Zl w1 B u vs x w'):Zl w B u vs x w':=by
 obtain ⟨u',rfl,hr,hg,ho⟩:=hp
 have:=h.size
 exact ⟨u',rfl,hr,zB (zU h (zA hg)),zB ((zA ho).imp id (fun ⟨k,h1,h2⟩=>⟨k,h1,by omega⟩))⟩
theorem zJR {e:Value} {F:Nat -> List zD} (h:zA8 e F):zA8 (zEd e) (zAZ F 6 ByteArray.empty):=by
 refine ⟨_,_,196,rfl,fun w=>by kernel_rfl,fun a w=>by kernel_rfl,?_⟩
 intro B u us vs w hrow hB hlen hvs
 have HH:=zB h
 obtain ⟨T,v,f,rfl,hm,hcf,hcall⟩:=h
 have HR:=zB hrow
 have HV:=zB hvs
 clear hcall hrow hvs hm hcf
 go_enter Tryz.func196,Tryz.ntmps196
 go_wp2_with fail
 refine (zBQ (zA HH) 6 ByteArray.empty B _ us vs _ ((zA HR).below (zC _ _)) (by simp; omega) hlen (zA HV)).mono ?_
 intro x w1 hp
 obtain ⟨u',rfl,hr,hg,ho⟩:=zGu (zC _ _) hp
 go_wp2_with fail
 go_ret
 exact ⟨u',rfl,hr,hg,ho⟩
theorem zJS {e:Value} {F:Nat -> List zD} (h:zA8 e F) (p:OpR):zA8 (zD7 p e) (zAZ F 3 p.s):=by
 refine ⟨_,_,191,rfl,fun w=>by kernel_rfl,fun a w=>by kernel_rfl,?_⟩
 intro B u us vs w hrow hB hlen hvs
 have HH:=zB h
 obtain ⟨T,v,f,rfl,hm,hcf,hcall⟩:=h
 have HR:=zB hrow
 have HV:=zB hvs
 clear hcall hrow hvs hm hcf
 go_enter Tryz.func191,Tryz.ntmps191
 go_wp2_with fail
 refine (zBQ (zA HH) 3 p.s B _ us vs _ ((zA HR).below (zC _ _)) (by simp; omega) hlen (zA HV)).mono ?_
 intro x w1 hp
 obtain ⟨u',rfl,hr,hg,ho⟩:=zGu (zC _ _) hp
 go_wp2_with fail
 go_ret
 exact ⟨u',rfl,hr,hg,ho⟩
theorem zHq {e:Value} {F:Nat -> List zD} (h:zA8 e F) (p:OpR):zA8 (zBk p e) (zAZ F 5 p.s):=by
 refine ⟨_,_,195,rfl,fun w=>by kernel_rfl,fun a w=>by kernel_rfl,?_⟩
 intro B u us vs w hrow hB hlen hvs
 have HH:=zB h
 obtain ⟨T,v,f,rfl,hm,hcf,hcall⟩:=h
 have HR:=zB hrow
 have HV:=zB hvs
 clear hcall hrow hvs hm hcf
 go_enter Tryz.func195,Tryz.ntmps195
 go_wp2_with fail
 refine (zBQ (zA HH) 5 p.s B _ us vs _ ((zA HR).below (zC _ _)) (by simp; omega) hlen (zA HV)).mono ?_
 intro x w1 hp
 obtain ⟨u',rfl,hr,hg,ho⟩:=zGu (zC _ _) hp
 go_wp2_with fail
 go_ret
 exact ⟨u',rfl,hr,hg,ho⟩
def zFK (F G:Nat -> List zD) (t:ByteArray) (s:Nat):List zD:=(F s ++ G (s + (F s).length)) ++ [⟨4,t,((s + (F s).length:Nat):Int) - 1,((s + (F s).length + (G (s + (F s).length)).length:Nat):Int) - 1⟩]
theorem zJT {e e':Value} {F G:Nat -> List zD} (h:zA8 e F) (h':zA8 e' G) (p:OpR):zA8 (zDC p e e') (zFK F G p.s):=by
 refine ⟨_,_,193,rfl,fun w=>by kernel_rfl,fun a w=>by kernel_rfl,?_⟩
 intro B u us vs w hrow hB hlen hvs
 obtain ⟨i0,hi0,hz0,hz1,hz2⟩:∃ i,Tryz.prog.info? 81 = some i /\ i.zero = some (.agg #[.int .i64 0,.string ⟨#[]⟩,.int .i64 0,.int .i64 0]) /\ i.size = 4 /\ i.bytes = 40:=by
  obtain ⟨i,hi,hz⟩:=Option.map_eq_some_iff.1 zBh
  simp only [Prod.mk.injEq] at hz
  exact ⟨i,hi,hz.1,hz.2.1,hz.2.2⟩
 have HI:=zB hi0
 have HZ:=zB (And.intro hz0 (And.intro hz1 hz2))
 clear hi0 hz0 hz1 hz2
 obtain ⟨T,v,f,rfl,hm,hcf,hcall⟩:=h
 obtain ⟨T',v',f',rfl,hm',hcf',hcall'⟩:=h'
 have HC:=zB hcall
 have HC':=zB hcall'
 obtain ⟨a,c,rfl⟩:=ZH hrow
 have HR:=zB hrow
 obtain ⟨us1,HU1⟩:∃ us1,Hid (us1 = us ++ F us.length):=⟨_,zB rfl⟩
 have hl1:us1.length = us.length + (F us.length).length:=by rw [zA HU1,List.length_append]
 obtain ⟨us2,HU2⟩:∃ us2,Hid (us2 = us1 ++ G us1.length):=⟨_,zB rfl⟩
 have hl2:us2.length = us1.length + (G us1.length).length:=by rw [zA HU2,List.length_append]
 have hlen1:us2.length + 1 <= 100000:=by
  simp only [zFK,List.length_append,List.length_cons,List.length_nil,<- hl1] at hlen
  omega
 have HL0:=zB (show us.length + (F us.length).length <= 100000 by omega)
 have HL1:=zB (show us1.length + (G us1.length).length <= 100000 by omega)
 have hlen2:us1.length <= 100000:=by omega
 have HV:=zB (show vs = us2 ++ [⟨4,p.s,(us1.length:Int) - 1,(us2.length:Int) - 1⟩] by
  have e:us2 = us ++ (F us.length ++ G us1.length):=(zA HU2).trans ((congrArg (· ++ G us1.length) (zA HU1)).trans (List.append_assoc _ _ _))
  rw [hvs]
  unfold zFK
  rw [<- hl1,<- hl2,<- List.append_assoc,<- e])
 clear hcall hrow hvs hlen hcall' hl1 hl2
 go_enter Tryz.func193,Tryz.ntmps193
 go_wp2_with fail
 refine ((zA HC) B _ us us1 _ ((zA HR).below (zC _ _)) (by simp; omega) (zA HL0) (zA HU1)).mono ?_
 rintro x w1 ⟨u1,rfl,hr1,hg1,ho1⟩
 obtain ⟨a1,c1,rfl⟩:=ZH (zA hr1)
 have hnb:(Value.slice a us.length c).ownBlock ≠ some w.heap.size:=fun e=>by have:=(zA HR).lt _ e; omega
 have q0:w1.cell? ⟨w.heap.size,0,none⟩ = some (.string p.s):=(zh (zA hg1) (b:=w.heap.size) (by simp) hnb 0).trans (by simp [go_sem])
 have q5:w1.cell? ⟨w.heap.size,5,none⟩ = some (.iface T' v'):=(zh (zA hg1) (b:=w.heap.size) (by simp) hnb 5).trans (by simp [go_sem])
 have HG1:=zB (zU (zC _ _) (zA hg1))
 have HA0:=zB (zA ho1)
 have HA1:=zB (show (Value.slice a1 us1.length c1).ownBlock = (Value.slice a us.length c).ownBlock \/ ∃ k,(Value.slice a1 us1.length c1).ownBlock = some k /\ w.heap.size <= k from (zA ho1).imp id (fun ⟨k,h1,h2⟩=>⟨k,h1,by simp at h2; omega⟩))
 have hz:=(zA HG1).size
 have hz1:w.heap.size + 1 <= w1.heap.size:=by have:=(zA hg1).size; simp at this; omega
 have hnb1:(Value.slice a1 us1.length c1).ownBlock ≠ some w.heap.size:=fun e=>by
  rcases zA HA0 with h | ⟨k,h1,h2⟩
  ·exact hnb (h.symm.trans e)
  ·rw [h1] at e; injection e with e; simp at h2; omega
 clear hg1 ho1 hm hcf HA0
 go_wp2_with fail
 refine ((zA HC') B _ us1 us2 _ (zA hr1) (by omega) (zA HL1) (zA HU2)).mono ?_
 rintro x w2 ⟨u2,rfl,hr2,hg2,ho2⟩
 obtain ⟨a2,c2,rfl⟩:=ZH (zA hr2)
 have r0:w2.cell? ⟨w.heap.size,0,none⟩ = some (.string p.s):=(zh (zA hg2) (b:=w.heap.size) (by omega) hnb1 0).trans q0
 have HG2:=zB (zV (zA HG1) (zA hg2) (zA HA1))
 have HA2:=zB (Zc (zA HG1) (zA HA1) _ (zA ho2))
 have hz2:=(zA HG2).size
 clear hg2 ho2 hm' hcf' HG1 HA1 q0 q5 hr1
 go_wp2_with (at_builtin; refine wpList_append_own_at _ rfl (.tmp 17) (.tmp 27) 26 rfl B 81 i0 _ 4 40 Tryz.underlying26 (zA HI) (zA HZ).1 (zA HZ).2.1 (zA HZ).2.2 rfl (by decide) _ us2.length (zH us2) rfl ((zA hr2).below (zC _ _)) ⟨w2.heap.size,0,none⟩ 1 1 (zH [⟨4,p.s,(us1.length:Int) - 1,(us2.length:Int) - 1⟩]) rfl rfl (by simpa using zZ w2 ⟨4,p.s,(us1.length:Int) - 1,(us2.length:Int) - 1⟩) (zL _) ?b1 ?b2 ?b3 ?next)
 case b1=>unfold maxLen; omega
 case b2=>omega
 case b3=>first | omega | (simp; omega)
 case next=>
  intro v4 w4 hown4 hgrow4 hnil4 hat4
  have HO:=zB (show ZV w4 B v4 vs by
   rw [zA HV]
   unfold ZV
   rw [ZC,List.length_append]
   exact hown4)
  have HG3:=zB (zU (zC _ _) hgrow4)
  have HG:=zB (zV (zA HG2) (zA HG3) (zA HA2))
  have HA:=zB (Zc (zA HG2) (zA HA2) v4.ownBlock (hat4.imp id (fun h=>⟨_,h,by first | omega | simp⟩)))
  clear hown4 hgrow4 hnil4 hat4 HG2 HG3 HA2
  go_wp2_with fail
  go_ret
  exact ⟨v4,rfl,HO,HG,HA⟩
theorem zGv (ns:List OpR) (xs:List zD) (htx:∀ i,i < xs.length -> Zk (atN xs i)) (hkn:zAY ns xs):∀ n i f,i < n -> i < xs.length -> frS xs i = some f -> ∀ l,zA8 (fS ns xs i l) (gS ns xs i l)
 | 0,_,_,h,_,_=>absurd h (Nat.not_lt_zero _)
 | n + 1,i,f,h,hi,hf=>by
  intro l
  have hcl:∀ (e:Value) (F:Nat -> List zD),zA8 e F -> (∀ s,gS ns xs i l s = zAk ns (atN xs i) l s (F s)) -> zA8 (zA7 ns (atN xs i) l e) (gS ns xs i l):=by
   intro e F he hF
   unfold zA7
   by_cases hl:ZI ns (atN xs i) < l
   ·rw [if_pos hl]
    have:gS ns xs i l = zAZ F 6 ByteArray.empty:=by
     funext s
     rw [hF s,zAk,if_pos hl,zAZ]
    rw [this]
    exact zJR he
   ·rw [if_neg hl]
    have:gS ns xs i l = F:=by
     funext s
     rw [hF s,zAk,if_neg hl]
    rw [this]
    exact he
  have hop:∀ j,fnd ns (atN xs i).t ((atN xs i).k - 2) = some j -> (opA ns (atN xs i)).s = (atN xs i).t:=fun j hj=>by
   unfold opA
   rw [hj]
   exact (Ze hj).2.1
  have hso:zq (atN xs i) -> (opA ns (atN xs i)).s = (atN xs i).t:=fun ho=>by
   cases e:fnd ns (atN xs i).t ((atN xs i).k - 2) with
   | none=>exact absurd e (hkn i hi ho)
   | some j=>exact hop j e
  rcases Z1 hf with ⟨hk,ha,hb,hfi⟩ | ⟨hk,h1i,ha,hbb,hf1⟩ | ⟨hk,h1i,hbb,f2,hf2,h2f,ha,hf1⟩
  ·rw [zDb hk]
   rcases (htx i hi).2 with ⟨h1,_⟩ | ⟨h2,_⟩ | ⟨h6,_⟩ | ⟨h345,_⟩
   ·refine hcl _ _ ?_ (fun s=>zBD hk l s)
    simp only [exN,h1,if_true]
    exact zJQ _
   ·refine hcl _ _ ?_ (fun s=>zBD hk l s)
    simp only [exN,h2,if_true]
    exact zHp _
   ·rw [h6] at hk; simp [zR] at hk
   ·rcases h345 with h | h | h <;> rw [h] at hk <;> simp [zR] at hk
  ·have ih:=zGv ns xs htx hkn n (i - 1) f (by omega) (by omega) hf1
   rcases (htx i hi).2 with ⟨h1,_⟩ | ⟨h2,_⟩ | ⟨h6,_⟩ | ⟨h345,_⟩
   ·rw [h1] at hk; simp [zR] at hk
   ·rw [h2] at hk; simp [zR] at hk
   ·rw [zDc h6 h1i hf1]
    have:gS ns xs i l = gS ns xs (i - 1) l:=by funext s; exact zBO h6 h1i hf1 l s
    rw [this]
    exact ih l
   ·rcases h345 with h | h | h
    ·rw [zD8 hk (by omega) h1i hf1]
     refine hcl _ (zAZ (gS ns xs (i - 1) (zT ns (atN xs i) false)) 3 (atN xs i).t) ?_ (fun s=>by rw [zCO hk (by omega) h1i hf1 l s rfl,zAZ,h])
     simp only [exN,h]
     rw [<- hso ⟨by omega,by omega⟩]
     exact zJS (ih _) _
    ·rw [h] at hk; simp [zR] at hk
    ·rw [zD8 hk (by omega) h1i hf1]
     refine hcl _ (zAZ (gS ns xs (i - 1) (zT ns (atN xs i) false)) 5 (atN xs i).t) ?_ (fun s=>by rw [zCO hk (by omega) h1i hf1 l s rfl,zAZ,h])
     simp only [exN,h]
     rw [<- hso ⟨by omega,by omega⟩]
     exact zHq (ih _) _
  ·have hle:=ZU hf2
   have h4:(atN xs i).k = 4:=by
    unfold zR at hk
    split at hk
    ·assumption
    ·split at hk <;> omega
   rw [zGt hk h1i hf2 h2f ha hf1]
   refine hcl _ (zFK (gS ns xs (f2 - 1) (zT ns (atN xs i) false)) (gS ns xs (i - 1) (zT ns (atN xs i) true)) (atN xs i).t) ?_ (fun s=>by rw [zDB hk h1i hf2 h2f ha hf1 l s rfl rfl,zFK,h4])
   simp only [exN,h4]
   rw [<- hso ⟨by omega,by omega⟩]
   exact zJT (zGv ns xs htx hkn n (f2 - 1) f (by omega) (by omega) hf1 _) (zGv ns xs htx hkn n (i - 1) f2 (by omega) (by omega) hf2 _) _
end Go.Proofs.YtfboipappaonhaaGreat
