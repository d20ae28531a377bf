import Derived.Maps.AppendAt
import Derived.Test.YtfboipappaonhaaGreatF00
import Derived.Test.YtfboipappaonhaaGreatF02
import Derived.Test.YtfboipappaonhaaGreatF09
import Derived.Test.YtfboipappaonhaaGreatF10
namespace Go.Proofs.YtfboipappaonhaaGreat
set_option linter.unusedSimpArgs false
set_option linter.unusedVariables false
set_option maxHeartbeats 16000000
set_option maxRecDepth 100000
open Go.RowKit
theorem zq {w:World} {B n:Nat} {e:TypeId} {u:Value} {xs:List Value} (h:w.ownsRow B e 4 u n xs):∃ a c,u = .slice a n c:=by
 obtain ⟨_,⟨rfl,rfl⟩ | ⟨g,cap,cur,rfl,_⟩⟩:=h
 ·exact ⟨none,0,rfl⟩
 ·exact ⟨_,_,rfl⟩
def zx (w:World) (B:Nat) (u:Value) (us:List zD):Prop:=w.ownsRow B 81 4 u us.length (zJ us)
theorem zx.below {w w':World} {B:Nat} {u:Value} {us:List zD} (h:zx w B u us) (hb:Below w.heap.size w w'):zx w' B u us:=
 World.ownsRow.kept h (zZ hb none) (by cases u.ownBlock with
 | none=>exact Or.inl rfl
 | some k=>exact Or.inr (by simp))
theorem zx.lt {w:World} {B:Nat} {u:Value} {us:List zD} (h:zx w B u us):∀ g,u.ownBlock=some g->g<w.heap.size:=fun g hg=>(World.ownsRow.lt h g hg).2
def Z3 (w:World) (B:Nat) (u:Value) (vs:List zD) (x:Ending) (w':World):Prop:=
 ∃ u',x = .returned u'/\Hid (zx w' B u' vs)/\Hid (w.grownBy w' u.ownBlock)/\Hid (u'.ownBlock=u.ownBlock\/∃ k,u'.ownBlock=some k/\w.heap.size<=k)
def zC4 (e:Value) (F:Nat->List zD):Prop:=∃ T v f,e = .iface T v/\(∀ w,(method 342 T v "loop.example/s0059/impl.appendTo").run Tryz.prog w = .ok (f,v) w)/\(∀ a w,(callFunc f a).run Tryz.prog w = .ok (.enter f a) w) /\
 ∀ (B:Nat) (u:Value) (us vs:List zD) (w:World),zx w B u us->B<=w.heap.size->us.length+(F us.length).length<=100000->vs=us++F us.length->Calls Tryz.prog f #[v,u] w (Z3 w B u vs)
theorem zOv (t:ByteArray):zC4 (zIu t) (fun _=>[⟨1,t,0,0⟩]):=by
 refine ⟨_,_,187,rfl,fun w=>by kernel_rfl,fun a w=>by kernel_rfl,?_⟩
 intro B u us vs w hrow hB hlen hvs
 obtain ⟨i0,hi0,hz0,hz1,hz2⟩:∃ i,Tryz.prog.info? 81=some i/\i.zero=some (.agg #[.int .i64 0,.string ⟨#[]⟩,.int .i64 0,.int .i64 0])/\i.size=4/\i.bytes=40:=by
  obtain ⟨i,hi,hz⟩:=Option.map_eq_some_iff.1 zBu
  simp only [Prod.mk.injEq] at hz
  exact ⟨i,hi,hz.1,hz.2.1,hz.2.2⟩
 have HI:=zB hi0
 have HZ:=zB (And.intro hz0 (And.intro hz1 hz2))
 clear hi0 hz0 hz1 hz2
 obtain ⟨a,c,rfl⟩:=zq hrow
 have HR:=zB hrow
 have HV:=zB hvs
 simp only [List.length_cons,List.length_nil] at hlen
 clear hrow hvs
 go_enter Tryz.func187,Tryz.ntmps187
 go_wp2_with (at_builtin; refine wpList_append_own_at _ rfl (.tmp 5) (.tmp 10) 26 rfl B 81 i0 _ 4 40 Tryz.underlying26 (zA HI) (zA HZ).1 (zA HZ).2.1 (zA HZ).2.2 rfl (by decide) _ us.length (zJ us) rfl (((zA HR).below (zC _ _)).below (zC _ _)) ⟨w.heap.size+1,0,none⟩ 1 1 (zJ [⟨1,t,0,0⟩]) rfl rfl (by simpa using ZB (w.alloc _) ⟨1,t,0,0⟩) (zX _) ?b1 ?b2 ?b3 ?next)
 case b1=>unfold maxLen; omega
 case b2=>omega
 case b3=>first | omega | (simp; omega)
 case next=>
  intro v4 w4 hown4 hgrow4 hnil4 hat4
  have HO:=zB (show zx w4 B v4 vs by
   rw [zA HV]
   unfold zx
   rw [zh,List.length_append]
   exact hown4)
  have HG:=zB (zN ((zC _ _).alloc (by simp) _) hgrow4)
  have HA:=zB (show v4.ownBlock=(Value.slice a us.length c).ownBlock\/∃ k,v4.ownBlock=some k/\w.heap.size<=k from hat4.imp id (fun h=>⟨_,h,by first | omega | (simp; omega)⟩))
  clear hown4 hgrow4 hnil4 hat4
  go_wp2_with fail
  go_ret
  exact ⟨v4,rfl,HO,HG,HA⟩
theorem zNc (t:ByteArray):zC4 (zE5 t) (fun _=>[⟨2,t,0,0⟩]):=by
 refine ⟨_,_,188,rfl,fun w=>by kernel_rfl,fun a w=>by kernel_rfl,?_⟩
 intro B u us vs w hrow hB hlen hvs
 obtain ⟨i0,hi0,hz0,hz1,hz2⟩:∃ i,Tryz.prog.info? 81=some i/\i.zero=some (.agg #[.int .i64 0,.string ⟨#[]⟩,.int .i64 0,.int .i64 0])/\i.size=4/\i.bytes=40:=by
  obtain ⟨i,hi,hz⟩:=Option.map_eq_some_iff.1 zBu
  simp only [Prod.mk.injEq] at hz
  exact ⟨i,hi,hz.1,hz.2.1,hz.2.2⟩
 have HI:=zB hi0
 have HZ:=zB (And.intro hz0 (And.intro hz1 hz2))
 clear hi0 hz0 hz1 hz2
 obtain ⟨a,c,rfl⟩:=zq hrow
 have HR:=zB hrow
 have HV:=zB hvs
 simp only [List.length_cons,List.length_nil] at hlen
 clear hrow hvs
 go_enter Tryz.func188,Tryz.ntmps188
 go_wp2_with (at_builtin; refine wpList_append_own_at _ rfl (.tmp 5) (.tmp 10) 26 rfl B 81 i0 _ 4 40 Tryz.underlying26 (zA HI) (zA HZ).1 (zA HZ).2.1 (zA HZ).2.2 rfl (by decide) _ us.length (zJ us) rfl (((zA HR).below (zC _ _)).below (zC _ _)) ⟨w.heap.size+1,0,none⟩ 1 1 (zJ [⟨2,t,0,0⟩]) rfl rfl (by simpa using ZB (w.alloc _) ⟨2,t,0,0⟩) (zX _) ?b1 ?b2 ?b3 ?next)
 case b1=>unfold maxLen; omega
 case b2=>omega
 case b3=>first | omega | (simp; omega)
 case next=>
  intro v4 w4 hown4 hgrow4 hnil4 hat4
  have HO:=zB (show zx w4 B v4 vs by
   rw [zA HV]
   unfold zx
   rw [zh,List.length_append]
   exact hown4)
  have HG:=zB (zN ((zC _ _).alloc (by simp) _) hgrow4)
  have HA:=zB (show v4.ownBlock=(Value.slice a us.length c).ownBlock\/∃ k,v4.ownBlock=some k/\w.heap.size<=k from hat4.imp id (fun h=>⟨_,h,by first | omega | (simp; omega)⟩))
  clear hown4 hgrow4 hnil4 hat4
  go_wp2_with fail
  go_ret
  exact ⟨v4,rfl,HO,HG,HA⟩
def zC5 (F:Nat->List zD) (k:Int) (t:ByteArray) (s:Nat):List zD:=F s++[⟨k,t,((s+(F s).length:Nat):Int)-1,0⟩]
theorem zCC {e:Value} {F:Nat->List zD} (h:zC4 e F) (k:Int) (t:ByteArray) (B:Nat) (u:Value) (us vs:List zD) (w:World) (hrow:zx w B u us) (hB:B<=w.heap.size) (hlen:us.length+(zC5 F k t us.length).length<=100000) (hvs:vs=us++zC5 F k t us.length) :
  Calls Tryz.prog 192 #[.agg #[e],u,.int .i64 k,.string t] w (Z3 w B u vs):=by
 obtain ⟨i0,hi0,hz0,hz1,hz2⟩:∃ i,Tryz.prog.info? 81=some i/\i.zero=some (.agg #[.int .i64 0,.string ⟨#[]⟩,.int .i64 0,.int .i64 0])/\i.size=4/\i.bytes=40:=by
  obtain ⟨i,hi,hz⟩:=Option.map_eq_some_iff.1 zBu
  simp only [Prod.mk.injEq] at hz
  exact ⟨i,hi,hz.1,hz.2.1,hz.2.2⟩
 have HI:=zB hi0
 have HZ:=zB (And.intro hz0 (And.intro hz1 hz2))
 clear hi0 hz0 hz1 hz2
 obtain ⟨T,v,f,rfl,hm,hcf,hcall⟩:=h
 have HC:=zB hcall
 obtain ⟨a,c,rfl⟩:=zq hrow
 have HR:=zB hrow
 obtain ⟨us1,HU1⟩:∃ us1,Hid (us1=us++F us.length):=⟨_,zB rfl⟩
 have hl1:us1.length=us.length+(F us.length).length:=by rw [zA HU1,List.length_append]
 have hlen1:us1.length+1<=100000:=by
  simp only [zC5,List.length_append,List.length_cons,List.length_nil] at hlen
  omega
 have HL0:=zB (show us.length+(F us.length).length<=100000 by omega)
 have HV:=zB (show vs=us1++[⟨k,t,(us1.length:Int)-1,0⟩] by
  rw [hvs,zA HU1,zC5,List.length_append,List.append_assoc])
 clear hcall hrow hvs hlen hl1
 go_enter Tryz.func192,Tryz.ntmps192
 go_wp2_with fail
 refine ((zA HC) B _ us us1 _ ((zA HR).below (zC _ _)) (by simp; omega) (zA HL0) (zA HU1)).mono ?_
 rintro x w1 ⟨u1,rfl,hr1,hg1,ho1⟩
 obtain ⟨a1,c1,rfl⟩:=zq (zA hr1)
 have HG1:=zB (zN (zC _ _) (zA hg1))
 have HA1:=zB (show (Value.slice a1 us1.length c1).ownBlock=(Value.slice a us.length c).ownBlock\/∃ k,(Value.slice a1 us1.length c1).ownBlock=some k/\w.heap.size<=k from (zA ho1).imp id (fun ⟨k,h1,h2⟩=>⟨k,h1,by simp at h2; omega⟩))
 have hz:=(zA HG1).size
 clear hg1 ho1 hm hcf
 go_wp2_with (at_builtin; refine wpList_append_own_at _ rfl (.tmp 13) (.tmp 20) 26 rfl B 81 i0 _ 4 40 Tryz.underlying26 (zA HI) (zA HZ).1 (zA HZ).2.1 (zA HZ).2.2 rfl (by decide) _ us1.length (zJ us1) rfl ((zA hr1).below (zC _ _)) ⟨w1.heap.size,0,none⟩ 1 1 (zJ [⟨k,t,(us1.length:Int)-1,0⟩]) rfl rfl (by simpa using ZB w1 ⟨k,t,(us1.length:Int)-1,0⟩) (zX _) ?b1 ?b2 ?b3 ?next)
 case b1=>unfold maxLen; omega
 case b2=>omega
 case b3=>first | omega | (simp; omega)
 case next=>
  intro v4 w4 hown4 hgrow4 hnil4 hat4
  have HO:=zB (show zx w4 B v4 vs by
   rw [zA HV]
   unfold zx
   rw [zh,List.length_append]
   exact hown4)
  have HG2:=zB (zN (zC _ _) hgrow4)
  have HG:=zB (zO (zA HG1) (zA HG2) (zA HA1))
  have HA:=zB (ZN (zA HG1) (zA HA1) v4.ownBlock (hat4.imp id (fun h=>⟨_,h,by first | omega | simp⟩)))
  clear hown4 hgrow4 hnil4 hat4 HG1 HG2 HA1
  go_wp2_with fail
  go_ret
  exact ⟨v4,rfl,HO,HG,HA⟩
theorem zI2 {w w1:World} {B:Nat} {u:Value} {vs:List zD} (h:Below w.heap.size w w1) {x:Ending} {w':World} (hp:Z3 w1 B u vs x w'):Z3 w B u vs x w':=by
 obtain ⟨u',rfl,hr,hg,ho⟩:=hp
 have:=h.size
 exact ⟨u',rfl,hr,zB (zN h (zA hg)),zB ((zA ho).imp id (fun ⟨k,h1,h2⟩=>⟨k,h1,by omega⟩))⟩
theorem zOw {e:Value} {F:Nat->List zD} (h:zC4 e F):zC4 (zE6 e) (zC5 F 6 ByteArray.empty):=by
 refine ⟨_,_,196,rfl,fun w=>by kernel_rfl,fun a w=>by kernel_rfl,?_⟩
 intro B u us vs w hrow hB hlen hvs
 have HH:=zB h
 obtain ⟨T,v,f,rfl,hm,hcf,hcall⟩:=h
 have HR:=zB hrow
 have HV:=zB hvs
 clear hcall hrow hvs hm hcf
 go_enter Tryz.func196,Tryz.ntmps196
 go_wp2_with fail
 refine (zCC (zA HH) 6 ByteArray.empty B _ us vs _ ((zA HR).below (zC _ _)) (by simp; omega) hlen (zA HV)).mono ?_
 intro x w1 hp
 obtain ⟨u',rfl,hr,hg,ho⟩:=zI2 (zC _ _) hp
 go_wp2_with fail
 go_ret
 exact ⟨u',rfl,hr,hg,ho⟩
theorem zOx {e:Value} {F:Nat->List zD} (h:zC4 e F) (p:OpR):zC4 (zEd p e) (zC5 F 3 p.s):=by
 refine ⟨_,_,191,rfl,fun w=>by kernel_rfl,fun a w=>by kernel_rfl,?_⟩
 intro B u us vs w hrow hB hlen hvs
 have HH:=zB h
 obtain ⟨T,v,f,rfl,hm,hcf,hcall⟩:=h
 have HR:=zB hrow
 have HV:=zB hvs
 clear hcall hrow hvs hm hcf
 go_enter Tryz.func191,Tryz.ntmps191
 go_wp2_with fail
 refine (zCC (zA HH) 3 p.s B _ us vs _ ((zA HR).below (zC _ _)) (by simp; omega) hlen (zA HV)).mono ?_
 intro x w1 hp
 obtain ⟨u',rfl,hr,hg,ho⟩:=zI2 (zC _ _) hp
 go_wp2_with fail
 go_ret
 exact ⟨u',rfl,hr,hg,ho⟩
theorem zNd {e:Value} {F:Nat->List zD} (h:zC4 e F) (p:OpR):zC4 (zBw p e) (zC5 F 5 p.s):=by
 refine ⟨_,_,195,rfl,fun w=>by kernel_rfl,fun a w=>by kernel_rfl,?_⟩
 intro B u us vs w hrow hB hlen hvs
 have HH:=zB h
 obtain ⟨T,v,f,rfl,hm,hcf,hcall⟩:=h
 have HR:=zB hrow
 have HV:=zB hvs
 clear hcall hrow hvs hm hcf
 go_enter Tryz.func195,Tryz.ntmps195
 go_wp2_with fail
 refine (zCC (zA HH) 5 p.s B _ us vs _ ((zA HR).below (zC _ _)) (by simp; omega) hlen (zA HV)).mono ?_
 intro x w1 hp
 obtain ⟨u',rfl,hr,hg,ho⟩:=zI2 (zC _ _) hp
 go_wp2_with fail
 go_ret
 exact ⟨u',rfl,hr,hg,ho⟩
def zKB (F G:Nat->List zD) (t:ByteArray) (s:Nat):List zD:=(F s++G (s+(F s).length))++[⟨4,t,((s+(F s).length:Nat):Int)-1,((s+(F s).length+(G (s+(F s).length)).length:Nat):Int)-1⟩]
theorem zOy {e e':Value} {F G:Nat->List zD} (h:zC4 e F) (h':zC4 e' G) (p:OpR):zC4 (zDt p e e') (zKB F G p.s):=by
 refine ⟨_,_,193,rfl,fun w=>by kernel_rfl,fun a w=>by kernel_rfl,?_⟩
 intro B u us vs w hrow hB hlen hvs
 obtain ⟨i0,hi0,hz0,hz1,hz2⟩:∃ i,Tryz.prog.info? 81=some i/\i.zero=some (.agg #[.int .i64 0,.string ⟨#[]⟩,.int .i64 0,.int .i64 0])/\i.size=4/\i.bytes=40:=by
  obtain ⟨i,hi,hz⟩:=Option.map_eq_some_iff.1 zBu
  simp only [Prod.mk.injEq] at hz
  exact ⟨i,hi,hz.1,hz.2.1,hz.2.2⟩
 have HI:=zB hi0
 have HZ:=zB (And.intro hz0 (And.intro hz1 hz2))
 clear hi0 hz0 hz1 hz2
 obtain ⟨T,v,f,rfl,hm,hcf,hcall⟩:=h
 obtain ⟨T',v',f',rfl,hm',hcf',hcall'⟩:=h'
 have HC:=zB hcall
 have HC':=zB hcall'
 obtain ⟨a,c,rfl⟩:=zq hrow
 have HR:=zB hrow
 obtain ⟨us1,HU1⟩:∃ us1,Hid (us1=us++F us.length):=⟨_,zB rfl⟩
 have hl1:us1.length=us.length+(F us.length).length:=by rw [zA HU1,List.length_append]
 obtain ⟨us2,HU2⟩:∃ us2,Hid (us2=us1++G us1.length):=⟨_,zB rfl⟩
 have hl2:us2.length=us1.length+(G us1.length).length:=by rw [zA HU2,List.length_append]
 have hlen1:us2.length+1<=100000:=by
  simp only [zKB,List.length_append,List.length_cons,List.length_nil,<- hl1] at hlen
  omega
 have HL0:=zB (show us.length+(F us.length).length<=100000 by omega)
 have HL1:=zB (show us1.length+(G us1.length).length<=100000 by omega)
 have hlen2:us1.length<=100000:=by omega
 have HV:=zB (show vs=us2++[⟨4,p.s,(us1.length:Int)-1,(us2.length:Int)-1⟩] by
  have e:us2=us++(F us.length++G us1.length):=(zA HU2).trans ((congrArg (·++G us1.length) (zA HU1)).trans (List.append_assoc _ _ _))
  rw [hvs]
  unfold zKB
  rw [<- hl1,<- hl2,<- List.append_assoc,<- e])
 clear hcall hrow hvs hlen hcall' hl1 hl2
 go_enter Tryz.func193,Tryz.ntmps193
 go_wp2_with fail
 refine ((zA HC) B _ us us1 _ ((zA HR).below (zC _ _)) (by simp; omega) (zA HL0) (zA HU1)).mono ?_
 rintro x w1 ⟨u1,rfl,hr1,hg1,ho1⟩
 obtain ⟨a1,c1,rfl⟩:=zq (zA hr1)
 have hnb:(Value.slice a us.length c).ownBlock≠some w.heap.size:=fun e=>by have:=(zA HR).lt _ e; omega
 have q0:w1.cell? ⟨w.heap.size,0,none⟩=some (.string p.s):=(zH (zA hg1) (b:=w.heap.size) (by simp) hnb 0).trans (by simp [go_sem])
 have q5:w1.cell? ⟨w.heap.size,5,none⟩=some (.iface T' v'):=(zH (zA hg1) (b:=w.heap.size) (by simp) hnb 5).trans (by simp [go_sem])
 have HG1:=zB (zN (zC _ _) (zA hg1))
 have HA0:=zB (zA ho1)
 have HA1:=zB (show (Value.slice a1 us1.length c1).ownBlock=(Value.slice a us.length c).ownBlock\/∃ k,(Value.slice a1 us1.length c1).ownBlock=some k/\w.heap.size<=k from (zA ho1).imp id (fun ⟨k,h1,h2⟩=>⟨k,h1,by simp at h2; omega⟩))
 have hz:=(zA HG1).size
 have hz1:w.heap.size+1<=w1.heap.size:=by have:=(zA hg1).size; simp at this; omega
 have hnb1:(Value.slice a1 us1.length c1).ownBlock≠some w.heap.size:=fun e=>by
  rcases zA HA0 with h | ⟨k,h1,h2⟩
  ·exact hnb (h.symm.trans e)
  ·rw [h1] at e; injection e with e; simp at h2; omega
 clear hg1 ho1 hm hcf HA0
 go_wp2_with fail
 refine ((zA HC') B _ us1 us2 _ (zA hr1) (by omega) (zA HL1) (zA HU2)).mono ?_
 rintro x w2 ⟨u2,rfl,hr2,hg2,ho2⟩
 obtain ⟨a2,c2,rfl⟩:=zq (zA hr2)
 have r0:w2.cell? ⟨w.heap.size,0,none⟩=some (.string p.s):=(zH (zA hg2) (b:=w.heap.size) (by omega) hnb1 0).trans q0
 have HG2:=zB (zO (zA HG1) (zA hg2) (zA HA1))
 have HA2:=zB (ZN (zA HG1) (zA HA1) _ (zA ho2))
 have hz2:=(zA HG2).size
 clear hg2 ho2 hm' hcf' HG1 HA1 q0 q5 hr1
 go_wp2_with (at_builtin; refine wpList_append_own_at _ rfl (.tmp 17) (.tmp 27) 26 rfl B 81 i0 _ 4 40 Tryz.underlying26 (zA HI) (zA HZ).1 (zA HZ).2.1 (zA HZ).2.2 rfl (by decide) _ us2.length (zJ us2) rfl ((zA hr2).below (zC _ _)) ⟨w2.heap.size,0,none⟩ 1 1 (zJ [⟨4,p.s,(us1.length:Int)-1,(us2.length:Int)-1⟩]) rfl rfl (by simpa using ZB w2 ⟨4,p.s,(us1.length:Int)-1,(us2.length:Int)-1⟩) (zX _) ?b1 ?b2 ?b3 ?next)
 case b1=>unfold maxLen; omega
 case b2=>omega
 case b3=>first | omega | (simp; omega)
 case next=>
  intro v4 w4 hown4 hgrow4 hnil4 hat4
  have HO:=zB (show zx w4 B v4 vs by
   rw [zA HV]
   unfold zx
   rw [zh,List.length_append]
   exact hown4)
  have HG3:=zB (zN (zC _ _) hgrow4)
  have HG:=zB (zO (zA HG2) (zA HG3) (zA HA2))
  have HA:=zB (ZN (zA HG2) (zA HA2) v4.ownBlock (hat4.imp id (fun h=>⟨_,h,by first | omega | simp⟩)))
  clear hown4 hgrow4 hnil4 hat4 HG2 HG3 HA2
  go_wp2_with fail
  go_ret
  exact ⟨v4,rfl,HO,HG,HA⟩
end Go.Proofs.YtfboipappaonhaaGreat
namespace Go.Proofs.YtfboipappaonhaaGreat
set_option linter.unusedSimpArgs false
set_option linter.unusedVariables false
set_option maxHeartbeats 16000000
set_option maxRecDepth 100000
open Go.RowKit
open Go.Deep (BT)
def zOz (s:SyR):Bool:=decide (s.1=6/\s.2.data=opn.data)
def zNe (s:SyR):Bool:=decide (s.1=7/\s.2.data=zA1.data)
theorem zPv {a b:ByteArray} (h:a.data=b.data):a=b:=by cases a; cases b; simp_all
theorem zO0 {s:SyR} (h:zOz s=true):s=(6,opn):=by
 unfold zOz at h
 have:=of_decide_eq_true h
 obtain ⟨a,b⟩:=s
 exact Prod.ext this.1 (zPv this.2)
theorem zO1 {s:SyR} (h:zNe s=true):s=(7,zA1):=by
 unfold zNe at h
 have:=of_decide_eq_true h
 obtain ⟨a,b⟩:=s
 exact Prod.ext this.1 (zPv this.2)
def auS (ns:List OpR) (st:Bool×Nat) (s:SyR):Option (Bool×Nat):=
 if st.1=false then
  (if s.1=1\/s.1=2 then some (true,st.2) else if s.1=3/\knB ns s=true then some (false,st.2) else if zOz s=true then some (false,st.2+1) else none)
 else
  (if s.1=4/\knB ns s=true then some (false,st.2) else if s.1=5/\knB ns s=true then some (true,st.2) else if zNe s=true/\0<st.2 then some (true,st.2-1) else none)
def Zp (ns:List OpR):Bool×Nat->List SyR->Option (Bool×Nat)
 | st,[]=>some st
 | st,s::r=>(match auS ns st s with
  | none=>none
  | some st'=>Zp ns st' r)
theorem zBm (ns:List OpR):∀ (a b:List SyR) (st:Bool×Nat),Zp ns st (a++b)=(match Zp ns st a with
  | none=>none
  | some st'=>Zp ns st' b)
 | [],b,st=>rfl
 | s::r,b,st=>by
  simp only [List.cons_append,Zp]
  cases auS ns st s with
  | none=>rfl
  | some st'=>exact zBm ns r b st'
theorem zC6 {ns:List OpR} {d:Nat} {s:SyR} {st:Bool×Nat} (h:auS ns (false,d) s=some st) :
  ((s.1=1\/s.1=2)/\st=(true,d))\/(s.1=3/\knB ns s=true/\st=(false,d))\/(s=(6,opn)/\st=(false,d+1)):=by
 unfold auS at h
 simp only [if_true] at h
 split at h
 ·injection h with h; exact Or.inl ⟨by assumption,h.symm⟩
 ·split at h
  ·rename_i hc; injection h with h; exact Or.inr (Or.inl ⟨hc.1,hc.2,h.symm⟩)
  ·split at h
   ·rename_i hc; injection h with h; exact Or.inr (Or.inr ⟨zO0 hc,h.symm⟩)
   ·cases h
theorem zEE {ns:List OpR} {d:Nat} {s:SyR} {st:Bool×Nat} (h:auS ns (true,d) s=some st) :
  (s.1=4/\knB ns s=true/\st=(false,d))\/(s.1=5/\knB ns s=true/\st=(true,d))\/(s=(7,zA1)/\0<d/\st=(true,d-1)):=by
 unfold auS at h
 simp only [Bool.true_eq_false,if_false] at h
 split at h
 ·rename_i hc; injection h with h; exact Or.inl ⟨hc.1,hc.2,h.symm⟩
 ·split at h
  ·rename_i hc; injection h with h; exact Or.inr (Or.inl ⟨hc.1,hc.2,h.symm⟩)
  ·split at h
   ·rename_i hc; injection h with h; exact Or.inr (Or.inr ⟨zO1 hc.1,hc.2,h.symm⟩)
   ·cases h
theorem zI3 {ns:List OpR} {d:Nat} {s:SyR} (h:s.1=1\/s.1=2):auS ns (false,d) s=some (true,d):=by
 unfold auS
 simp only [if_true]
 rw [if_pos h]
theorem zK1 {ns:List OpR} {d:Nat} {s:SyR} (h:s.1=3) (hk:knB ns s=true):auS ns (false,d) s=some (false,d):=by
 unfold auS
 simp only [if_true]
 rw [if_neg (by omega),if_pos ⟨h,hk⟩]
theorem zI4 {ns:List OpR} {d:Nat}:auS ns (false,d) (6,opn)=some (false,d+1):=by
 unfold auS
 simp [zOz]
theorem zK2 {ns:List OpR} {d:Nat} {s:SyR} (h:s.1=4) (hk:knB ns s=true):auS ns (true,d) s=some (false,d):=by
 unfold auS
 simp only [Bool.true_eq_false,if_false]
 rw [if_pos ⟨h,hk⟩]
theorem zI5 {ns:List OpR} {d:Nat} {s:SyR} (h:s.1=5) (hk:knB ns s=true):auS ns (true,d) s=some (true,d):=by
 unfold auS
 simp only [Bool.true_eq_false,if_false]
 rw [if_neg (by omega),if_pos ⟨h,hk⟩]
theorem zG4 {ns:List OpR} {d:Nat}:auS ns (true,d+1) (7,zA1)=some (true,d):=by
 unfold auS
 simp [zNe]
def eoS:SyR:=(8,ByteArray.empty)
def Zt (ns:List OpR) (st:Bool×Nat) (ss:List SyR):Prop:=∃ q,ss=q++[eoS]/\Zp ns st q=some (true,0)
theorem zCD {ns:List OpR} {st:Bool×Nat} (h:Zt ns st []):False:=by
 obtain ⟨q,h,_⟩:=h
 simp at h
theorem zIJ {ns:List OpR} {st:Bool×Nat} {s:SyR} {r:List SyR} (h:Zt ns st (s::r)):(s=eoS/\r=[]/\st=(true,0))\/∃ st',auS ns st s=some st'/\Zt ns st' r:=by
 obtain ⟨q,h,hr⟩:=h
 cases q with
 | nil=>
  simp only [List.nil_append] at h
  injection h with h1 h2
  simp only [Zp,Option.some.injEq] at hr
  exact Or.inl ⟨h1,h2,hr⟩
 | cons a q=>
  rw [List.cons_append] at h
  injection h with h1 h2
  subst h1
  simp only [Zp] at hr
  cases e:auS ns st s with
  | none=>rw [e] at hr; cases hr
  | some st'=>rw [e] at hr; exact Or.inr ⟨st',rfl,q,h2,hr⟩
theorem zCE {ns:List OpR} {d:Nat} {s:SyR} {r:List SyR} (h:Zt ns (false,d) (s::r)) :
  ((s.1=1\/s.1=2)/\Zt ns (true,d) r)\/(s.1=3/\knB ns s=true/\Zt ns (false,d) r)\/(s=(6,opn)/\Zt ns (false,d+1) r):=by
 rcases zIJ h with ⟨_,_,h⟩ | ⟨st',h1,h2⟩
 ·cases h
 ·rcases zC6 h1 with ⟨a,rfl⟩ | ⟨a,b,rfl⟩ | ⟨a,rfl⟩
  ·exact Or.inl ⟨a,h2⟩
  ·exact Or.inr (Or.inl ⟨a,b,h2⟩)
  ·exact Or.inr (Or.inr ⟨a,h2⟩)
theorem zBA {ns:List OpR} {d:Nat} {s:SyR} {r:List SyR} (h:Zt ns (true,d) (s::r)) :
  (s=eoS/\r=[]/\d=0)\/(s.1=4/\knB ns s=true/\Zt ns (false,d) r)\/(s.1=5/\knB ns s=true/\Zt ns (true,d) r)\/(s=(7,zA1)/\0<d/\Zt ns (true,d-1) r):=by
 rcases zIJ h with ⟨h1,h2,h3⟩ | ⟨st',h1,h2⟩
 ·simp only [Prod.mk.injEq,true_and] at h3
  exact Or.inl ⟨h1,h2,h3⟩
 ·rcases zEE h1 with ⟨a,b,rfl⟩ | ⟨a,b,rfl⟩ | ⟨a,b,rfl⟩
  ·exact Or.inr (Or.inl ⟨a,b,h2⟩)
  ·exact Or.inr (Or.inr (Or.inl ⟨a,b,h2⟩))
  ·exact Or.inr (Or.inr (Or.inr ⟨a,b,h2⟩))
def yM:Option ET->List SyR
 | none=>[]
 | some T=>ySy T
theorem Ze {ns:List OpR} (hv:zM ns 0):∀ (n:Nat) (least:Int) (md:Option ET) (ss:List SyR) (d:Nat) (x:ET×List SyR),least<=1001->Zt ns (md.isSome,d) ss->(∀ L,md=some L->zf ns L/\least<=lvT ns L)->rd ns n least md ss=some x ->
  Zt ns (true,d) x.2/\zf ns x.1/\least<=lvT ns x.1/\zF6 ns least x.2/\yM md++ss=ySy x.1++x.2
 | 0,_,_,_,_,_,_,_,_,h=>by simp [rd] at h
 | n+1,least,none,[],d,x,_,hf,_,h=>(zCD hf).elim
 | n+1,least,some T,[],d,x,_,hf,_,h=>(zCD hf).elim
 | n+1,least,none,s::r,d,x,hl,hf,hm,h=>by
  simp only [rd] at h
  rcases zCE hf with ⟨hs,hf'⟩ | ⟨hs,hk,hf'⟩ | ⟨hs,hf'⟩
  ·rw [if_neg (by omega),if_neg (by omega)] at h
   have hlv:lvT ns (.node s.1 0 s.2 .nil .nil)=1001:=zAW ns _ _ (by omega)
   have:=Ze hv n least (some (.node s.1 0 s.2 .nil .nil)) r d x hl hf' (fun L e=>by
    injection e with e; subst e
    exact ⟨⟨rfl,Or.inl ⟨hs,rfl,rfl⟩⟩,by omega⟩) h
   refine ⟨this.1,this.2.1,this.2.2.1,this.2.2.2.1,?_⟩
   rw [<- this.2.2.2.2]
   simp only [yM,ySy]
   rw [if_neg (by omega),if_neg (by omega),if_neg (by omega),if_neg (by omega)]
   rfl
  ·rw [if_pos hs] at h
   have f:=(opF hv (s:=s) (Or.inl hs) hk)
   have fp:=f.pre hs
   have fh:=f.hi
   split at h
   ·cases h
   ·rename_i hlt
    split at h
    ·cases h
    ·rename_i y hy
     obtain ⟨a1,a2,a3,a4,a5⟩:=Ze hv n _ none r d y (by omega) hf' (fun L e=>by cases e) hy
     have es:((3,s.2):SyR)=s:=Prod.ext hs.symm rfl
     have hlv:lvT ns (.node 3 0 s.2 y.1 .nil)=sLv ns s:=by simp only [lvT,es]
     have:=Ze hv n least (some (.node 3 0 s.2 y.1 .nil)) y.2 d x hl a1 (fun L e=>by
      injection e with e; subst e
      exact ⟨⟨rfl,Or.inr (Or.inr (Or.inl ⟨Or.inl rfl,by rw [es]; exact hk,a2,rfl,by rw [es]; exact a3⟩))⟩,by omega⟩) h
     refine ⟨this.1,this.2.1,this.2.2.1,this.2.2.2.1,?_⟩
     rw [<- this.2.2.2.2]
     simp only [yM,List.nil_append] at a5 ⊢
     rw [a5]
     simp [ySy,es]
  ·subst hs
   simp only at h
   rw [if_neg (by decide),if_pos trivial] at h
   split at h
   ·cases h
   ·rename_i y hy
    obtain ⟨a1,a2,a3,a4,a5⟩:=Ze hv n 0 none r (d+1) y (by omega) hf' (fun L e=>by cases e) hy
    obtain ⟨T,q⟩:=y
    simp only at a1 a2 a3 a4 a5 h
    cases q with
    | nil=>exact (zCD a1).elim
    | cons z q=>
     have hz:z=(7,zA1)/\Zt ns (true,d) q:=by
      rcases zBA a1 with ⟨_,_,h0⟩ | ⟨h4,hkk,_⟩ | ⟨h5,hkk,_⟩ | ⟨h7,_,h8⟩
      ·omega
      ·have:=a4 z q rfl (Or.inl h4)
       have:=(opF hv (s:=z) (Or.inr (Or.inl h4)) hkk).lo
       omega
      ·have:=a4 z q rfl (Or.inr h5)
       have:=(opF hv (s:=z) (Or.inr (Or.inr h5)) hkk).lo
       omega
      ·exact ⟨h7,h8⟩
     obtain ⟨rfl,hq⟩:=hz
     simp only [List.tail_cons] at h
     have hlv:lvT ns (.node 6 0 ByteArray.empty T .nil)=1001:=zAW ns _ _ (by omega)
     have:=Ze hv n least (some (.node 6 0 ByteArray.empty T .nil)) q d x hl hq (fun L e=>by
      injection e with e; subst e
      exact ⟨⟨rfl,Or.inr (Or.inl ⟨rfl,rfl,a2,rfl⟩)⟩,by omega⟩) h
     refine ⟨this.1,this.2.1,this.2.2.1,this.2.2.2.1,?_⟩
     rw [<- this.2.2.2.2]
     simp only [yM,List.nil_append] at a5 ⊢
     rw [a5]
     simp [ySy]
 | n+1,least,some T,s::r,d,x,hl,hf,hm,h=>by
  obtain ⟨hT,hTl⟩:=hm T rfl
  simp only [rd] at h
  have stop:(¬ (s.1=4/\least<=sLv ns s))->(¬ (s.1=5/\least<=sLv ns s))->Zt ns (true,d) x.2/\zf ns x.1/\least<=lvT ns x.1/\zF6 ns least x.2/\yM (some T)++s::r=ySy x.1++x.2:=fun c1 c2=>by
   rw [if_neg c1,if_neg c2] at h
   injection h with h
   subst h
   refine ⟨hf,hT,hTl,fun s' r' e hs=>?_,rfl⟩
   injection e with e1 e2
   subst e1
   omega
  by_cases c1:s.1=4/\least<=sLv ns s
  ·rw [if_pos c1] at h
   have hf4:knB ns s=true/\Zt ns (false,d) r:=by
    rcases zBA hf with ⟨h1,_⟩ | ⟨_,h1,h2⟩ | ⟨h1,_⟩ | ⟨h1,_⟩
    ·rw [h1] at c1; exact absurd c1.1 (by decide)
    ·exact ⟨h1,h2⟩
    ·omega
    ·rw [h1] at c1; exact absurd c1.1 (by decide)
   obtain ⟨hk,hf'⟩:=hf4
   have f:=(opF hv (s:=s) (Or.inr (Or.inl c1.1)) hk)
   have fp:=f.mid c1.1
   have fh:=f.hi
   split at h
   ·cases h
   ·rename_i hlt
    split at h
    ·cases h
    ·rename_i y hy
     obtain ⟨a1,a2,a3,a4,a5⟩:=Ze hv n _ none r d y (by omega) hf' (fun L e=>by cases e) hy
     have es:((4,s.2):SyR)=s:=Prod.ext c1.1.symm rfl
     have hlv:lvT ns (.node 4 0 s.2 T y.1)=sLv ns s:=by simp only [lvT,es]
     have:=Ze hv n least (some (.node 4 0 s.2 T y.1)) y.2 d x hl a1 (fun L e=>by
      injection e with e; subst e
      exact ⟨⟨rfl,Or.inr (Or.inr (Or.inr ⟨rfl,by rw [es]; exact hk,hT,a2,by rw [es]; omega,by rw [es]; exact a3⟩))⟩,by omega⟩) h
     refine ⟨this.1,this.2.1,this.2.2.1,this.2.2.2.1,?_⟩
     rw [<- this.2.2.2.2]
     simp only [yM,List.nil_append] at a5 ⊢
     rw [a5]
     simp [ySy,es]
  ·by_cases c2:s.1=5/\least<=sLv ns s
   ·rw [if_neg c1,if_pos c2] at h
    have hf4:knB ns s=true/\Zt ns (true,d) r:=by
     rcases zBA hf with ⟨h1,_⟩ | ⟨h1,_⟩ | ⟨_,h1,h2⟩ | ⟨h1,_⟩
     ·rw [h1] at c2; exact absurd c2.1 (by decide)
     ·omega
     ·exact ⟨h1,h2⟩
     ·rw [h1] at c2; exact absurd c2.1 (by decide)
    obtain ⟨hk,hf'⟩:=hf4
    have f:=(opF hv (s:=s) (Or.inr (Or.inr c2.1)) hk)
    split at h
    ·cases h
    ·rename_i hlt
     have es:((5,s.2):SyR)=s:=Prod.ext c2.1.symm rfl
     have hlv:lvT ns (.node 5 0 s.2 T .nil)=sLv ns s:=by simp only [lvT,es]
     have:=Ze hv n least (some (.node 5 0 s.2 T .nil)) r d x hl hf' (fun L e=>by
      injection e with e; subst e
      exact ⟨⟨rfl,Or.inr (Or.inr (Or.inl ⟨Or.inr rfl,by rw [es]; exact hk,hT,rfl,by rw [es]; omega⟩))⟩,by omega⟩) h
     refine ⟨this.1,this.2.1,this.2.2.1,this.2.2.2.1,?_⟩
     rw [<- this.2.2.2.2]
     simp [yM,ySy,es]
   ·exact stop c1 c2
theorem zK3 {ns:List OpR} (hv:zM ns 0) {ss:List SyR} (hf:Zp ns (false,0) ss=some (true,0)) (T:ET):(zf ns T/\ySy T=ss)↔RD ns 0 none (ss++[eoS])=some (T,[eoS]):=by
 constructor
 ·rintro ⟨hT,rfl⟩
  have h0:(0:Int)<=lvT ns T:=by
   cases T with
   | nil=>exact hT.elim
   | node bb oo tt ll rr=>
    simp only [lvT]
    by_cases hb:bb=3\/bb=4\/bb=5
    ·have hkn:knB ns (bb,tt)=true:=by
      rcases hT.2 with ⟨h | h,_⟩ | ⟨h,_⟩ | ⟨_,hk,_⟩ | ⟨_,hk,_⟩
      ·omega
      ·omega
      ·omega
      ·exact hk
      ·exact hk
     have:=(opF hv (s:=(bb,tt)) hb hkn).lo
     omega
    ·rw [zAW ns bb tt hb]; omega
  have hn:¬ (eoS.1=4\/eoS.1=5):=by decide
  rw [zNX hv T hT 0 [eoS] h0 (zCY hn T),zGb (zDU hn)]
 ·intro h
  obtain ⟨_,a2,_,_,a5⟩:=Ze hv _ 0 none (ss++[eoS]) 0 (T,[eoS]) (by omega) ⟨ss,rfl,hf⟩ (fun L e=>by cases e) h
  refine ⟨a2,?_⟩
  simp only [yM,List.nil_append] at a5
  exact (List.append_cancel_right a5).symm
theorem zNf {ns:List OpR} (hv:zM ns 0) {ss:List SyR} (hf:Zp ns (false,0) ss=some (true,0)) {x:ET×List SyR} (h:RD ns 0 none (ss++[eoS])=some x):x.2=[eoS]:=by
 obtain ⟨a1,_,_,a4,_⟩:=Ze hv _ 0 none (ss++[eoS]) 0 x (by omega) ⟨ss,rfl,hf⟩ (fun L e=>by cases e) h
 obtain ⟨T,q⟩:=x
 simp only at a1 a4 ⊢
 cases q with
 | nil=>exact (zCD a1).elim
 | cons z q=>
  rcases zBA a1 with ⟨h1,h2,_⟩ | ⟨h4,hkk,_⟩ | ⟨h5,hkk,_⟩ | ⟨_,h7,_⟩
  ·rw [h1,h2]
  ·have:=a4 z q rfl (Or.inl h4)
   have:=(opF hv (s:=z) (Or.inr (Or.inl h4)) hkk).lo
   omega
  ·have:=a4 z q rfl (Or.inr h5)
   have:=(opF hv (s:=z) (Or.inr (Or.inr h5)) hkk).lo
   omega
  ·omega
end Go.Proofs.YtfboipappaonhaaGreat
