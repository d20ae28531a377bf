import Derived.Test.YtfboipappaonhaaGreatF10
import Derived.Test.YtfboipappaonhaaGreatF47
namespace Go.Proofs.YtfboipappaonhaaGreat
set_option linter.unusedSimpArgs false
set_option linter.unusedVariables false
set_option maxHeartbeats 16000000
set_option maxRecDepth 100000
open Go.RowKit Go.Maps
def zGQ (e:Value) (W:List zu):Prop:=(∃ T v,e = .iface T v)/\∀ (b:Nat) (v:Value) (ps:List ByteArray) (last:Int) (w:World) (st:List ByteArray×Int),zDj w b v ps last->ps.length+2*W.length<=200000->st=W.foldl put1 (ps,last) ->
 Calls Tryz.prog 32 #[.pointer (some ⟨b,0,none⟩),e] w (zD5 w b v st)
def zL:Value:=.agg #[.string ⟨#[]⟩]
theorem zQX (v:Value):∀ w,(Instr.typeAssert (.iface 119 v) 56 119 true).run Tryz.prog w = .ok (.tuple #[v,.bool true]) w:=fun w=>by kernel_rfl
theorem zPf (v:Value):∀ w,(Instr.typeAssert (.iface 121 v) 56 121 true).run Tryz.prog w = .ok (.tuple #[v,.bool true]) w:=fun w=>by kernel_rfl
theorem zPg (v:Value):Zg 121 v 119 zL:=fun w=>by kernel_rfl
theorem zQY (v:Value):Zg 129 v 119 zL/\Zg 129 v 121 zL:=⟨fun w=>by kernel_rfl,fun w=>by kernel_rfl⟩
theorem zQZ (v:Value):Zg 131 v 119 zL/\Zg 131 v 121 zL:=⟨fun w=>by kernel_rfl,fun w=>by kernel_rfl⟩
theorem zPh (v:Value):Zg 132 v 119 zL/\Zg 132 v 121 zL:=⟨fun w=>by kernel_rfl,fun w=>by kernel_rfl⟩
theorem zQa (v:Value):Zg 134 v 119 zL/\Zg 134 v 121 zL/\Zg 134 v 129 zP/\Zg 134 v 131 zI/\Zg 134 v 132 zP:=
 ⟨fun w=>by kernel_rfl,fun w=>by kernel_rfl,fun w=>by kernel_rfl,fun w=>by kernel_rfl,fun w=>by kernel_rfl⟩
theorem zHn (st:List ByteArray×Int) (x:zu):(put1 st x).1.length<=st.1.length+2:=by
 unfold put1
 simp only [List.length_append,List.length_cons,List.length_nil]
 split <;> simp
theorem zDG:∀ (W:List zu) (st:List ByteArray×Int),(W.foldl put1 st).1.length<=st.1.length+2*W.length
 | [],st=>by simp
 | x::r,st=>by
  have h1:=zHn st x
  have h2:=zDG r (put1 st x)
  simp only [List.foldl_cons,List.length_cons] at *
  omega
theorem zD5.up {w w1:World} {b:Nat} {v:Value} {st:List ByteArray×Int} (h:Below w.heap.size w w1) {x:Ending} {w':World} (hp:zD5 w1 b v st x w'):zD5 w b v st x w':=by
 obtain ⟨rfl,v',h1,h2,h3⟩:=hp
 have:=h.size
 exact ⟨rfl,v',h1,zB (zAB.below h (zA h2)),zB ((zA h3).imp id (fun ⟨k,a,b⟩=>⟨k,a,by omega⟩))⟩
theorem zD5.join {w w1:World} {b:Nat} {v v1:Value} {st:List ByteArray×Int} (h2:zAB w w1 b v.ownBlock) (h3:v1.ownBlock=v.ownBlock\/∃ k,v1.ownBlock=some k/\w.heap.size<=k) {x:Ending} {w':World} (hp:zD5 w1 b v1 st x w'):zD5 w b v st x w':=by
 obtain ⟨rfl,v',p1,p2,p3⟩:=hp
 exact ⟨rfl,v',p1,zB (h2.trans (zA p2) h3),zB (h2.at h3 _ (zA p3))⟩
theorem zQb (t:ByteArray):zGQ (zIu t) [⟨t,false,false⟩]:=by
 refine ⟨⟨_,_,rfl⟩,?_⟩
 intro b v ps last w st h hl hst
 have n0:=zQX (.agg #[.string t])
 have HP:=zB h
 have HST:=zB (show st=(ps++((if zAY last 1 then [blk] else [])++[t]),1) from hst)
 simp only [List.length_cons,List.length_nil] at hl
 clear h hst
 unfold zIu
 go_enter Tryz.func32,Tryz.ntmps32
 go_wp2_with fail
 refine (zDk b v ps last 1 t _ ((zA HP).below (zC _ _)) (by omega)).mono ?_
 intro x w1 hp
 rw [<- zA HST] at hp
 obtain ⟨rfl,v1,p1,p2,p3⟩:=hp.up (zC _ _)
 go_wp2_with fail
 go_end0
 exact ⟨rfl,v1,p1,p2,p3⟩
theorem zPi (t:ByteArray):zGQ (zE5 t) [⟨t,false,false⟩]:=by
 refine ⟨⟨_,_,rfl⟩,?_⟩
 intro b v ps last w st h hl hst
 have n0:=zPf (.agg #[.string t])
 have n1:=zPg (.agg #[.string t])
 unfold Zg zL at n1
 have HP:=zB h
 have HST:=zB (show st=(ps++((if zAY last 1 then [blk] else [])++[t]),1) from hst)
 simp only [List.length_cons,List.length_nil] at hl
 clear h hst
 unfold zE5
 go_enter Tryz.func32,Tryz.ntmps32
 go_wp2_with fail
 refine (zDk b v ps last 1 t _ ((zA HP).below (zC _ _)) (by omega)).mono ?_
 intro x w1 hp
 rw [<- zA HST] at hp
 obtain ⟨rfl,v1,p1,p2,p3⟩:=hp.up (zC _ _)
 go_wp2_with fail
 go_end0
 exact ⟨rfl,v1,p1,p2,p3⟩
theorem zQc {e:Value} {W:List zu} (he:zGQ e W) (p:OpR):zGQ (zEd p e) (⟨p.s,true,false⟩::W):=by
 refine ⟨⟨_,_,rfl⟩,?_⟩
 intro b v ps last w st h hl hst
 obtain ⟨⟨T,u,rfl⟩,hcall⟩:=he
 have n0:=zNa (.agg #[.string p.s,.int .i64 p.k,.int .i64 p.l,.int .i64 p.sd,.iface T u])
 have n1:=zQY (.agg #[.string p.s,.int .i64 p.k,.int .i64 p.l,.int .i64 p.sd,.iface T u])
 unfold Zg zL at n1
 obtain ⟨n1,n2⟩:=n1
 have HP:=zB h
 have hlt:b<w.heap.size:=block_lt_of_cell h.c0
 have hv:v.ownBlock≠some w.heap.size:=fun e=>by have:=(h.row.lt _ e).2; omega
 have hl1:=zDG [⟨p.s,true,false⟩] (ps,last)
 obtain ⟨st1,HS1⟩:∃ st1,Hid (st1=put1 (ps,last) ⟨p.s,true,false⟩):=⟨_,zB rfl⟩
 have HS1':=zB (show st1=(ps++((if zAY last 2 then [blk] else [])++[p.s]),2) from zA HS1)
 have HST:=zB (show st=W.foldl put1 (st1.1,st1.2) by rw [hst,List.foldl_cons,<- zA HS1])
 have hl2:st1.1.length+2*W.length<=200000:=by
  simp only [List.foldl_cons,List.foldl_nil,List.length_cons,List.length_nil] at hl hl1
  rw [<- zA HS1] at hl1
  omega
 simp only [List.length_cons] at hl
 have HC:=zB hcall
 clear h hst hcall hl1
 unfold zEd
 go_enter Tryz.func32,Tryz.ntmps32
 go_wp2_with fail
 refine (zDk b v ps last 2 p.s _ ((zA HP).below (zC _ _)) (by omega)).mono ?_
 intro x w1 hp
 rw [<- zA HS1'] at hp
 obtain ⟨rfl,v1,p1,p2,p3⟩:=hp
 have q4:w1.cell? ⟨w.heap.size,4,none⟩=some (.iface T u):=((zA p2).cell (b:=w.heap.size) (by simp) (by omega) hv 4).trans (by simp [go_sem])
 have HK:=zB (zAB.below (zC _ _) (zA p2))
 have HA:=zB ((zA p3).imp id (fun ⟨k,a,b⟩=>⟨k,a,by simp at b; omega⟩):v1.ownBlock=v.ownBlock\/∃ k,v1.ownBlock=some k/\w.heap.size<=k)
 clear p2 p3 n0 n1 n2
 go_wp2_with fail
 refine ((zA HC) b v1 st1.1 st1.2 _ st (zA p1) hl2 (zA HST)).mono ?_
 intro x w2 hp
 obtain ⟨rfl,v2,r1,r2,r3⟩:=hp.join (zA HK) (zA HA)
 clear q4
 go_wp2_with fail
 go_end0
 exact ⟨rfl,v2,r1,r2,r3⟩
theorem zPj {e:Value} {W:List zu} (he:zGQ e W) (p:OpR):zGQ (zBw p e) (W++[⟨p.s,true,false⟩]):=by
 refine ⟨⟨_,_,rfl⟩,?_⟩
 intro b v ps last w st h hl hst
 obtain ⟨⟨T,u,rfl⟩,hcall⟩:=he
 have n0:=zLs (.agg #[.string p.s,.int .i64 p.k,.int .i64 p.l,.int .i64 p.sd,.iface T u])
 have n1:=zPh (.agg #[.string p.s,.int .i64 p.k,.int .i64 p.l,.int .i64 p.sd,.iface T u])
 have n3:=zLr (.agg #[.string p.s,.int .i64 p.k,.int .i64 p.l,.int .i64 p.sd,.iface T u])
 unfold Zg zL at n1
 obtain ⟨n1,n2⟩:=n1
 obtain ⟨_,n3,n4⟩:=n3
 unfold Zg zP at n3
 unfold Zg zI at n4
 have HP:=zB h
 have hlt:b<w.heap.size:=block_lt_of_cell h.c0
 have hv:v.ownBlock≠some w.heap.size:=fun e=>by have:=(h.row.lt _ e).2; omega
 obtain ⟨st1,HS1⟩:∃ st1,Hid (st1=W.foldl put1 (ps,last)):=⟨_,zB rfl⟩
 have hl1:=zDG W (ps,last)
 rw [<- zA HS1] at hl1
 have HST:=zB (show st=(st1.1++((if zAY st1.2 2 then [blk] else [])++[p.s]),2) by rw [hst,List.foldl_append,<- zA HS1]; rfl)
 simp only [List.length_append,List.length_cons,List.length_nil] at hl hl1
 have hl2:st1.1.length+2<=200000:=by omega
 have HC:=zB hcall
 clear h hst hcall hl1
 unfold zBw
 go_enter Tryz.func32,Tryz.ntmps32
 go_wp2_with fail
 refine ((zA HC) b v ps last _ st1 ((zA HP).below (zC _ _)) (by omega) (zA HS1)).mono ?_
 intro x w1 hp
 obtain ⟨rfl,v1,p1,p2,p3⟩:=hp
 have q4:w1.cell? ⟨w.heap.size,0,none⟩=some (.string p.s):=((zA p2).cell (b:=w.heap.size) (by simp) (by omega) hv 0).trans (by simp [go_sem])
 have HK:=zB (zAB.below (zC _ _) (zA p2))
 have HA:=zB ((zA p3).imp id (fun ⟨k,a,b⟩=>⟨k,a,by simp at b; omega⟩):v1.ownBlock=v.ownBlock\/∃ k,v1.ownBlock=some k/\w.heap.size<=k)
 clear p2 p3 n0 n1 n2 n3 n4
 go_wp2_with fail
 refine (zDk b v1 st1.1 st1.2 2 p.s _ (zA p1) hl2).mono ?_
 intro x w2 hp
 rw [<- zA HST] at hp
 obtain ⟨rfl,v2,r1,r2,r3⟩:=hp.join (zA HK) (zA HA)
 clear q4
 go_wp2_with fail
 go_end0
 exact ⟨rfl,v2,r1,r2,r3⟩
theorem zQd {e e':Value} {W W':List zu} (he:zGQ e W) (he':zGQ e' W') (p:OpR):zGQ (zDt p e e') (W++(⟨p.s,true,true⟩::W')):=by
 refine ⟨⟨_,_,rfl⟩,?_⟩
 intro b v ps last w st h hl hst
 obtain ⟨⟨T,u,rfl⟩,hcall⟩:=he
 obtain ⟨⟨T',u',rfl⟩,hcall'⟩:=he'
 have n0:=zNb (.agg #[.string p.s,.int .i64 p.k,.int .i64 p.l,.int .i64 p.sd,.iface T u,.iface T' u'])
 have n1:=zQZ (.agg #[.string p.s,.int .i64 p.k,.int .i64 p.l,.int .i64 p.sd,.iface T u,.iface T' u'])
 have n3:=zNY (.agg #[.string p.s,.int .i64 p.k,.int .i64 p.l,.int .i64 p.sd,.iface T u,.iface T' u'])
 unfold Zg zL at n1
 obtain ⟨n1,n2⟩:=n1
 obtain ⟨_,n3⟩:=n3
 unfold Zg zP at n3
 have HP:=zB h
 have hlt:b<w.heap.size:=block_lt_of_cell h.c0
 have hv:v.ownBlock≠some w.heap.size:=fun e=>by have:=(h.row.lt _ e).2; omega
 obtain ⟨st1,HS1⟩:∃ st1,Hid (st1=W.foldl put1 (ps,last)):=⟨_,zB rfl⟩
 have hl1:=zDG W (ps,last)
 rw [<- zA HS1] at hl1
 obtain ⟨st2,HS2⟩:∃ st2,Hid (st2=put1 st1 ⟨p.s,true,true⟩):=⟨_,zB rfl⟩
 have hl2:=zHn st1 ⟨p.s,true,true⟩
 rw [<- zA HS2] at hl2
 have HS2':=zB (show st2=(st1.1++((if zAY st1.2 3 then [blk] else [])++[p.s]),3) from zA HS2)
 have HST:=zB (show st=W'.foldl put1 (st2.1,st2.2) by rw [hst,List.foldl_append,<- zA HS1,List.foldl_cons,<- zA HS2])
 simp only [List.length_append,List.length_cons,List.length_nil] at hl hl1
 have hl3:st1.1.length+2<=200000:=by omega
 have hl4:st2.1.length+2*W'.length<=200000:=by omega
 have HC:=zB hcall
 have HC':=zB hcall'
 clear h hst hcall hcall' hl1 hl2
 unfold zDt
 go_enter Tryz.func32,Tryz.ntmps32
 go_wp2_with fail
 refine ((zA HC) b v ps last _ st1 ((zA HP).below (zC _ _)) (by omega) (zA HS1)).mono ?_
 intro x w1 hp
 obtain ⟨rfl,v1,p1,p2,p3⟩:=hp
 have q0:w1.cell? ⟨w.heap.size,0,none⟩=some (.string p.s):=((zA p2).cell (b:=w.heap.size) (by simp) (by omega) hv 0).trans (by simp [go_sem])
 have q5:w1.cell? ⟨w.heap.size,5,none⟩=some (.iface T' u'):=((zA p2).cell (b:=w.heap.size) (by simp) (by omega) hv 5).trans (by simp [go_sem])
 have HK:=zB (zAB.below (zC _ _) (zA p2))
 have hz:w.heap.size<w1.heap.size:=by have:=(zA p2).size; simp at this; omega
 have hv1:v1.ownBlock≠some w.heap.size:=fun e=>by
  rcases zA p3 with h | ⟨k,h1,h2⟩
  ·exact hv (h.symm.trans e)
  ·rw [h1] at e; injection e with e; simp at h2; omega
 have HA:=zB ((zA p3).imp id (fun ⟨k,a,b⟩=>⟨k,a,by simp at b; omega⟩):v1.ownBlock=v.ownBlock\/∃ k,v1.ownBlock=some k/\w.heap.size<=k)
 clear p2 p3 n0 n1 n2 n3
 go_wp2_with fail
 refine (zDk b v1 st1.1 st1.2 3 p.s _ (zA p1) hl3).mono ?_
 intro x w2 hp
 rw [<- zA HS2'] at hp
 obtain ⟨rfl,v2,r1,r2,r3⟩:=hp
 have s5:w2.cell? ⟨w.heap.size,5,none⟩=some (.iface T' u'):=((zA r2).cell (b:=w.heap.size) hz (by omega) hv1 5).trans q5
 have HK2:=zB ((zA HK).trans (zA r2) (zA HA))
 have HA2:=zB ((zA HK).at (zA HA) _ (zA r3))
 clear r2 r3 HK HA q0 q5
 go_wp2_with fail
 refine ((zA HC') b v2 st2.1 st2.2 _ st (zA r1) hl4 (zA HST)).mono ?_
 intro x w3 hp
 obtain ⟨rfl,v3,t1,t2,t3⟩:=hp.join (zA HK2) (zA HA2)
 clear s5
 go_wp2_with fail
 go_end0
 exact ⟨rfl,v3,t1,t2,t3⟩
theorem zQe {e:Value} {W:List zu} (he:zGQ e W):zGQ (zE6 e) (⟨opn,false,false⟩::(W++[⟨zA1,false,false⟩])):=by
 refine ⟨⟨_,_,rfl⟩,?_⟩
 intro b v ps last w st h hl hst
 obtain ⟨⟨T,u,rfl⟩,hcall⟩:=he
 have n0:=zNZ (.agg #[.iface T u])
 have n1:=zQa (.agg #[.iface T u])
 obtain ⟨n1,n2,n3,n4,n5⟩:=n1
 unfold Zg zL at n1 n2
 unfold Zg zP at n3 n5
 unfold Zg zI at n4
 have HP:=zB h
 have hlt:b<w.heap.size:=block_lt_of_cell h.c0
 have hv:v.ownBlock≠some w.heap.size:=fun e=>by have:=(h.row.lt _ e).2; omega
 obtain ⟨st1,HS1⟩:∃ st1,Hid (st1=put1 (ps,last) ⟨opn,false,false⟩):=⟨_,zB rfl⟩
 have hl1:=zHn (ps,last) ⟨opn,false,false⟩
 rw [<- zA HS1] at hl1
 have HS1':=zB (show st1=(ps++((if zAY last 1 then [blk] else [])++[⟨#[40]⟩]),1) from zA HS1)
 obtain ⟨st2,HS2⟩:∃ st2,Hid (st2=W.foldl put1 (st1.1,st1.2)):=⟨_,zB rfl⟩
 have hl2:=zDG W (st1.1,st1.2)
 rw [<- zA HS2] at hl2
 have HST:=zB (show st=(st2.1++((if zAY st2.2 1 then [blk] else [])++[⟨#[41]⟩]),1) by
  rw [hst,List.foldl_cons,<- zA HS1,List.foldl_append]
  show List.foldl put1 (List.foldl put1 (st1.1,st1.2) W) _=_
  rw [<- zA HS2]
  rfl)
 simp only [List.length_append,List.length_cons,List.length_nil] at hl hl1 hl2
 have hl3:st1.1.length+2*W.length<=200000:=by omega
 have hl4:st2.1.length+2<=200000:=by omega
 have HC:=zB hcall
 clear h hst hcall hl1 hl2
 unfold zE6
 go_enter Tryz.func32,Tryz.ntmps32
 go_wp2_with fail
 refine (zDk b v ps last 1 ⟨#[40]⟩ _ ((zA HP).below (zC _ _)) (by omega)).mono ?_
 intro x w1 hp
 rw [<- zA HS1'] at hp
 obtain ⟨rfl,v1,p1,p2,p3⟩:=hp
 have q4:w1.cell? ⟨w.heap.size,0,none⟩=some (.iface T u):=((zA p2).cell (b:=w.heap.size) (by simp) (by omega) hv 0).trans (by simp [go_sem])
 have HK:=zB (zAB.below (zC _ _) (zA p2))
 have HA:=zB ((zA p3).imp id (fun ⟨k,a,b⟩=>⟨k,a,by simp at b; omega⟩):v1.ownBlock=v.ownBlock\/∃ k,v1.ownBlock=some k/\w.heap.size<=k)
 clear p2 p3 n0 n1 n2 n3 n4 n5
 go_wp2_with fail
 refine ((zA HC) b v1 st1.1 st1.2 _ st2 (zA p1) hl3 (zA HS2)).mono ?_
 intro x w2 hp
 obtain ⟨rfl,v2,r1,r2,r3⟩:=hp
 have HK2:=zB ((zA HK).trans (zA r2) (zA HA))
 have HA2:=zB ((zA HK).at (zA HA) _ (zA r3))
 clear r2 r3 HK HA q4
 go_wp2_with fail
 refine (zDk b v2 st2.1 st2.2 1 ⟨#[41]⟩ _ (zA r1) hl4).mono ?_
 intro x w3 hp
 rw [<- zA HST] at hp
 obtain ⟨rfl,v3,t1,t2,t3⟩:=hp.join (zA HK2) (zA HA2)
 go_wp2_with fail
 go_end0
 exact ⟨rfl,v3,t1,t2,t3⟩
theorem zPk (ns:List OpR):∀ T:ET,zA9 ns T->zGQ (exT ns T) (yT T):=by
 intro T
 induction T with
 | nil=>intro h; exact h.elim
 | node b o t l r ihl ihr=>
  rintro ⟨rfl,h⟩
  rcases h with ⟨h | h,rfl,rfl⟩ | ⟨rfl,rfl,hl,rfl⟩ | ⟨h | h,hk,hl,rfl⟩ | ⟨rfl,hk,hl,hr⟩
  ·subst h
   exact zQb t
  ·subst h
   exact zPi t
  ·have e:yT (.node 6 0 ByteArray.empty l .nil)=⟨opn,false,false⟩::(yT l++[⟨zA1,false,false⟩]):=by simp [yT,ySy,wS]
   rw [e]
   exact zQe (ihl hl)
  ·subst h
   have e:yT (.node 3 0 t l .nil)=⟨(opA ns (rt 3 t)).s,true,false⟩::yT l:=by rw [zFA hk]; simp [yT,ySy,wS]
   rw [e]
   exact zQc (ihl hl) _
  ·subst h
   have e:yT (.node 5 0 t l .nil)=yT l++[⟨(opA ns (rt 5 t)).s,true,false⟩]:=by rw [zFA hk]; simp [yT,ySy,wS]
   rw [e]
   exact zPj (ihl hl) _
  ·have e:yT (.node 4 0 t l r)=yT l++(⟨(opA ns (rt 4 t)).s,true,true⟩::yT r):=by rw [zFA hk]; simp [yT,ySy,wS]
   rw [e]
   exact zQd (ihl hl) (ihr hr) _
end Go.Proofs.YtfboipappaonhaaGreat
namespace Go.Proofs.YtfboipappaonhaaGreat
set_option linter.unusedSimpArgs false
set_option linter.unusedVariables false
set_option maxHeartbeats 16000000
set_option maxRecDepth 100000
open Go.RowKit
def zDH (w:World) (N:Nat) (p:OpR) (e:Value):Prop:=w.cell? ⟨N,0,none⟩=some (.string p.s)/\w.cell? ⟨N,1,none⟩=some (.int .i64 p.k)/\w.cell? ⟨N,2,none⟩=some (.int .i64 p.l)/\w.cell? ⟨N,3,none⟩=some (.int .i64 p.sd)/\w.cell? ⟨N,4,none⟩=some e/\w.frozen? ⟨N,4,none⟩=false
theorem zDH.kept {w w':World} {N g:Nat} {p:OpR} {e:Value} (h:zDH w N p e) (hk:zE w w' g) (hne:N≠g):zDH w' N p e:=by
 obtain ⟨h0,h1,h2,h3,h4,h5⟩:=h
 have hlt:=block_lt_of_cell h0
 have c:=hk.cell hlt hne
 exact ⟨(c 0).trans h0,(c 1).trans h1,(c 2).trans h2,(c 3).trans h3,(c 4).trans h4,(hk.frozen hlt hne 4).trans h5⟩
theorem zDH.below {w w':World} {N:Nat} {p:OpR} {e:Value} (h:zDH w N p e) (hb:Below w.heap.size w w'):zDH w' N p e:=
 h.kept (g:=w.heap.size) (zE.of_below hb) (by have:N<w.heap.size:=block_lt_of_cell h.1; omega)
theorem zDH.set {w:World} {N:Nat} {p:OpR} {e:Value} (h:zDH w N p e) (e':Value):zDH (w.setCell ⟨N,4,none⟩ e') N p e':=by
 obtain ⟨h0,h1,h2,h3,h4,h5⟩:=h
 have c:∀ o,o≠4->(w.setCell ⟨N,4,none⟩ e').cell? ⟨N,o,none⟩=w.cell? ⟨N,o,none⟩:=fun o ho=>World.cell?_setCell_other _ _ _ _ (fun x=>ho (by injection x with _ x; exact x.symm))
 exact ⟨(c 0 (by omega)).trans h0,(c 1 (by omega)).trans h1,(c 2 (by omega)).trans h2,(c 3 (by omega)).trans h3,World.cell?_setCell_same _ _ _ h4,(World.frozen?_setCell _ _ _ _).trans h5⟩
theorem zBt.other {w:World} {g m N o:Nat} (h:zBt w g m) (hne:N≠g) (v:Value):zBt (w.setCell ⟨N,o,none⟩ v) g m:=
 ⟨(World.cell?_setCell_other _ _ _ _ (fun x=>hne (by injection x))).trans h.1,(World.frozen?_setCell _ _ _ _).trans h.2⟩
theorem zE.far {w w1:World} {g N:Nat} (h:zE w w1 g) (o:Nat) (v:Value) (hN:w.heap.size<=N):zE w (w1.setCell ⟨N,o,none⟩ v) g:=
 ⟨h.os,h.tape,h.output,by simpa [World.setCell] using h.size,fun i hi a=>(Below.heap_setCell _ _ _ _ (fun e=>by have:i=N:=e; omega)).trans (h.block i hi a)⟩
theorem zPl {T:TypeId} {v:Value} (p:OpR) (g m m1:Nat) (least:Int) {e1:Value} (w:World) (he:∃ T' v',e1 = .iface T' v') (hg:zBt w g m) (hsz:p.s.size<=maxLen) (hm1:m1<=100000)
  (hc:∀ W,zBt W g m->Calls Tryz.prog 66 #[.pointer (some ⟨g,0,none⟩),.iface T v,.int .i64 (ZJ p.s p.k p.l p.sd false)] W (zAr W g m1 e1)) :
  Calls Tryz.prog 66 #[.pointer (some ⟨g,0,none⟩),zEd p (.iface T v),.int .i64 least] w (zAr w g (m1+zI1 p.l least) (zFB p.l least (zEd p e1))):=by
 obtain ⟨T',v',rfl⟩:=he
 have n1:=zP7 (.agg #[.string p.s,.int .i64 p.k,.int .i64 p.l,.int .i64 p.sd,.iface T v])
 have i1:=zNa (.agg #[.string p.s,.int .i64 p.k,.int .i64 p.l,.int .i64 p.sd,.iface T v])
 unfold Zg zG at n1
 have hlt:=block_lt_of_cell hg.1
 have HC:=zB hc
 have HGC:=zB (show zBt (w.alloc (.cells #[.string p.s,.int .i64 p.k,.int .i64 p.l,.int .i64 p.sd,.iface T v] 129)).drew g m from hg.below ((zC _ _).drew))
 have HPC:=zB (show zDH (w.alloc (.cells #[.string p.s,.int .i64 p.k,.int .i64 p.l,.int .i64 p.sd,.iface T v] 129)).drew w.heap.size p (.iface T v) from
  (show zDH (w.alloc (.cells #[.string p.s,.int .i64 p.k,.int .i64 p.l,.int .i64 p.sd,.iface T v] 129)) w.heap.size p (.iface T v) from ⟨by simp [go_sem],by simp [go_sem],by simp [go_sem],by simp [go_sem],by simp [go_sem],by simp [go_sem]⟩).below ((Below.refl _ _).drew))
 have HKC:=zB (show zE w (w.alloc (.cells #[.string p.s,.int .i64 p.k,.int .i64 p.l,.int .i64 p.sd,.iface T v] 129)).drew g from zE.of_below ((zC _ _).drew))
 clear hc hg
 unfold zEd
 go_enter Tryz.func66,Tryz.ntmps66
 go_wp2_with fail
 clear n1 i1
 obtain ⟨k0,k1,k2,k3,k4,k5⟩:=zA HPC
 go_region_with
  (first | (go_at_call 90; refine (zAO p.s p.k p.l p.sd false _ hsz).mono ?_; rintro e w3 ⟨rfl,hb3⟩; replace HPC:=zB ((zA HPC).below hb3); replace ⟨k0,k1,k2,k3,k4,k5⟩:=zA HPC; replace HGC:=zB ((zA HGC).below hb3); replace HKC:=zB ((zA HKC).trans (zE.of_below hb3)); clear hb3) | (go_at_call 66; refine ((zA HC) _ (zA HGC)).mono ?_; rintro e w4 ⟨rfl,hg4,hk4⟩; replace HPC:=zB ((zA HPC).kept (zA hk4) (by omega)); replace HGC:=hg4; replace HKC:=zB ((zA HKC).trans (zA hk4)); clear hk4 hg4; replace ⟨k0,k1,k2,k3,k4,k5⟩:=zA HPC))
 all_goals
  replace HPC:=zB ((zA HPC).set (.iface T' v'))
  replace HGC:=zB ((zA HGC).other (N:=w.heap.size) (o:=4) (by omega) (.iface T' v'))
  replace HKC:=zB ((zA HKC).far 4 (.iface T' v') (Nat.le_refl _))
  clear k0 k1 k2 k3 k4 k5
  obtain ⟨k0,k1,k2,k3,k4,k5⟩:=zA HPC
  go_wp2_with fail
  refine (zCZ (zLp p (.iface T' v')) g m1 least _ (zA HGC) hm1).mono ?_
  rintro x w6 ⟨rfl,h1,h2⟩
  obtain ⟨T6,v6,hTv⟩:=zCB p.l least 129 (.agg #[.string p.s,.int .i64 p.k,.int .i64 p.l,.int .i64 p.sd,.iface T' v'])
  have HK6:=zB ((zA HKC).trans (zA h2))
  unfold zEd
  rw [hTv]
  clear k0 k1 k2 k3 k4 k5 HPC HGC HKC h2
  go_wp2_with fail
  go_ret
  exact ⟨by first | rfl | (rw [hTv]; rfl),h1,HK6⟩
theorem zOd {T:TypeId} {v:Value} (p:OpR) (g m m1:Nat) (least:Int) {e1:Value} (w:World) (he:∃ T' v',e1 = .iface T' v') (hg:zBt w g m) (hsz:p.s.size<=maxLen) (hm1:m1<=100000)
  (hc:∀ W,zBt W g m->Calls Tryz.prog 66 #[.pointer (some ⟨g,0,none⟩),.iface T v,.int .i64 (ZJ p.s p.k p.l p.sd false)] W (zAr W g m1 e1)) :
  Calls Tryz.prog 66 #[.pointer (some ⟨g,0,none⟩),zBw p (.iface T v),.int .i64 least] w (zAr w g (m1+zI1 p.l least) (zFB p.l least (zBw p e1))):=by
 obtain ⟨T',v',rfl⟩:=he
 obtain ⟨n1,n2,n3⟩:=zLr (.agg #[.string p.s,.int .i64 p.k,.int .i64 p.l,.int .i64 p.sd,.iface T v])
 have i1:=zLs (.agg #[.string p.s,.int .i64 p.k,.int .i64 p.l,.int .i64 p.sd,.iface T v])
 unfold Zg zG at n1
 unfold Zg zP at n2
 unfold Zg zI at n3
 have hlt:=block_lt_of_cell hg.1
 have HC:=zB hc
 have HGC:=zB (show zBt (w.alloc (.cells #[.string p.s,.int .i64 p.k,.int .i64 p.l,.int .i64 p.sd,.iface T v] 132)).drew g m from hg.below ((zC _ _).drew))
 have HPC:=zB (show zDH (w.alloc (.cells #[.string p.s,.int .i64 p.k,.int .i64 p.l,.int .i64 p.sd,.iface T v] 132)).drew w.heap.size p (.iface T v) from
  (show zDH (w.alloc (.cells #[.string p.s,.int .i64 p.k,.int .i64 p.l,.int .i64 p.sd,.iface T v] 132)) w.heap.size p (.iface T v) from ⟨by simp [go_sem],by simp [go_sem],by simp [go_sem],by simp [go_sem],by simp [go_sem],by simp [go_sem]⟩).below ((Below.refl _ _).drew))
 have HKC:=zB (show zE w (w.alloc (.cells #[.string p.s,.int .i64 p.k,.int .i64 p.l,.int .i64 p.sd,.iface T v] 132)).drew g from zE.of_below ((zC _ _).drew))
 clear hc hg
 unfold zBw
 go_enter Tryz.func66,Tryz.ntmps66
 go_wp2_with fail
 clear n1 n2 n3 i1
 obtain ⟨k0,k1,k2,k3,k4,k5⟩:=zA HPC
 go_region_with
  (first | (go_at_call 90; refine (zAO p.s p.k p.l p.sd false _ hsz).mono ?_; rintro e w3 ⟨rfl,hb3⟩; replace HPC:=zB ((zA HPC).below hb3); replace ⟨k0,k1,k2,k3,k4,k5⟩:=zA HPC; replace HGC:=zB ((zA HGC).below hb3); replace HKC:=zB ((zA HKC).trans (zE.of_below hb3)); clear hb3) | (go_at_call 66; refine ((zA HC) _ (zA HGC)).mono ?_; rintro e w4 ⟨rfl,hg4,hk4⟩; replace HPC:=zB ((zA HPC).kept (zA hk4) (by omega)); replace HGC:=hg4; replace HKC:=zB ((zA HKC).trans (zA hk4)); clear hk4 hg4; replace ⟨k0,k1,k2,k3,k4,k5⟩:=zA HPC))
 all_goals
  replace HPC:=zB ((zA HPC).set (.iface T' v'))
  replace HGC:=zB ((zA HGC).other (N:=w.heap.size) (o:=4) (by omega) (.iface T' v'))
  replace HKC:=zB ((zA HKC).far 4 (.iface T' v') (Nat.le_refl _))
  clear k0 k1 k2 k3 k4 k5
  obtain ⟨k0,k1,k2,k3,k4,k5⟩:=zA HPC
  go_wp2_with fail
  refine (zCZ (zJ9 p (.iface T' v')) g m1 least _ (zA HGC) hm1).mono ?_
  rintro x w6 ⟨rfl,h1,h2⟩
  obtain ⟨T6,v6,hTv⟩:=zCB p.l least 132 (.agg #[.string p.s,.int .i64 p.k,.int .i64 p.l,.int .i64 p.sd,.iface T' v'])
  have HK6:=zB ((zA HKC).trans (zA h2))
  unfold zBw
  rw [hTv]
  clear k0 k1 k2 k3 k4 k5 HPC HGC HKC h2
  go_wp2_with fail
  go_ret
  exact ⟨by first | rfl | (rw [hTv]; rfl),h1,HK6⟩
def zCh (w:World) (N:Nat) (p:OpR) (e e':Value):Prop:=w.cell? ⟨N,0,none⟩=some (.string p.s)/\w.cell? ⟨N,1,none⟩=some (.int .i64 p.k)/\w.cell? ⟨N,2,none⟩=some (.int .i64 p.l)/\w.cell? ⟨N,3,none⟩=some (.int .i64 p.sd)/\w.cell? ⟨N,4,none⟩=some e/\w.cell? ⟨N,5,none⟩=some e'/\w.frozen? ⟨N,4,none⟩=false/\w.frozen? ⟨N,5,none⟩=false
theorem zCh.kept {w w':World} {N g:Nat} {p:OpR} {e e':Value} (h:zCh w N p e e') (hk:zE w w' g) (hne:N≠g):zCh w' N p e e':=by
 obtain ⟨h0,h1,h2,h3,h4,h5,h6,h7⟩:=h
 have hlt:=block_lt_of_cell h0
 have c:=hk.cell hlt hne
 exact ⟨(c 0).trans h0,(c 1).trans h1,(c 2).trans h2,(c 3).trans h3,(c 4).trans h4,(c 5).trans h5,(hk.frozen hlt hne 4).trans h6,(hk.frozen hlt hne 5).trans h7⟩
theorem zCh.below {w w':World} {N:Nat} {p:OpR} {e e':Value} (h:zCh w N p e e') (hb:Below w.heap.size w w'):zCh w' N p e e':=
 h.kept (g:=w.heap.size) (zE.of_below hb) (by have:N<w.heap.size:=block_lt_of_cell h.1; omega)
theorem zCh.set4 {w:World} {N:Nat} {p:OpR} {e e':Value} (h:zCh w N p e e') (u:Value):zCh (w.setCell ⟨N,4,none⟩ u) N p u e':=by
 obtain ⟨h0,h1,h2,h3,h4,h5,h6,h7⟩:=h
 have c:∀ o,o≠4->(w.setCell ⟨N,4,none⟩ u).cell? ⟨N,o,none⟩=w.cell? ⟨N,o,none⟩:=fun o ho=>World.cell?_setCell_other _ _ _ _ (fun x=>ho (by injection x with _ x; exact x.symm))
 exact ⟨(c 0 (by omega)).trans h0,(c 1 (by omega)).trans h1,(c 2 (by omega)).trans h2,(c 3 (by omega)).trans h3,World.cell?_setCell_same _ _ _ h4,(c 5 (by omega)).trans h5,(World.frozen?_setCell _ _ _ _).trans h6,(World.frozen?_setCell _ _ _ _).trans h7⟩
theorem zCh.set5 {w:World} {N:Nat} {p:OpR} {e e':Value} (h:zCh w N p e e') (u:Value):zCh (w.setCell ⟨N,5,none⟩ u) N p e u:=by
 obtain ⟨h0,h1,h2,h3,h4,h5,h6,h7⟩:=h
 have c:∀ o,o≠5->(w.setCell ⟨N,5,none⟩ u).cell? ⟨N,o,none⟩=w.cell? ⟨N,o,none⟩:=fun o ho=>World.cell?_setCell_other _ _ _ _ (fun x=>ho (by injection x with _ x; exact x.symm))
 exact ⟨(c 0 (by omega)).trans h0,(c 1 (by omega)).trans h1,(c 2 (by omega)).trans h2,(c 3 (by omega)).trans h3,(c 4 (by omega)).trans h4,World.cell?_setCell_same _ _ _ h5,(World.frozen?_setCell _ _ _ _).trans h6,(World.frozen?_setCell _ _ _ _).trans h7⟩
theorem zPm {T T2:TypeId} {v v2:Value} (p:OpR) (g m m1 m2:Nat) (least:Int) {e1 e2:Value} (w:World) (he:∃ T' v',e1 = .iface T' v') (he2:∃ T' v',e2 = .iface T' v') (hg:zBt w g m) (hsz:p.s.size<=maxLen) (hm2:m2<=100000)
  (hc:∀ W,zBt W g m->Calls Tryz.prog 66 #[.pointer (some ⟨g,0,none⟩),.iface T v,.int .i64 (ZJ p.s p.k p.l p.sd false)] W (zAr W g m1 e1))
  (hc2:∀ W,zBt W g m1->Calls Tryz.prog 66 #[.pointer (some ⟨g,0,none⟩),.iface T2 v2,.int .i64 (ZJ p.s p.k p.l p.sd true)] W (zAr W g m2 e2)) :
  Calls Tryz.prog 66 #[.pointer (some ⟨g,0,none⟩),zDt p (.iface T v) (.iface T2 v2),.int .i64 least] w (zAr w g (m2+zI1 p.l least) (zFB p.l least (zDt p e1 e2))):=by
 obtain ⟨T',v',rfl⟩:=he
 obtain ⟨T2',v2',rfl⟩:=he2
 obtain ⟨n1,n2⟩:=zNY (.agg #[.string p.s,.int .i64 p.k,.int .i64 p.l,.int .i64 p.sd,.iface T v,.iface T2 v2])
 have i1:=zNb (.agg #[.string p.s,.int .i64 p.k,.int .i64 p.l,.int .i64 p.sd,.iface T v,.iface T2 v2])
 unfold Zg zG at n1
 unfold Zg zP at n2
 have hlt:=block_lt_of_cell hg.1
 have HC:=zB hc
 have HC2:=zB hc2
 have HGC:=zB (show zBt (w.alloc (.cells #[.string p.s,.int .i64 p.k,.int .i64 p.l,.int .i64 p.sd,.iface T v,.iface T2 v2] 131)).drew g m from hg.below ((zC _ _).drew))
 have HPC:=zB (show zCh (w.alloc (.cells #[.string p.s,.int .i64 p.k,.int .i64 p.l,.int .i64 p.sd,.iface T v,.iface T2 v2] 131)).drew w.heap.size p (.iface T v) (.iface T2 v2) from
  (show zCh (w.alloc (.cells #[.string p.s,.int .i64 p.k,.int .i64 p.l,.int .i64 p.sd,.iface T v,.iface T2 v2] 131)) w.heap.size p (.iface T v) (.iface T2 v2) from ⟨by simp [go_sem],by simp [go_sem],by simp [go_sem],by simp [go_sem],by simp [go_sem],by simp [go_sem],by simp [go_sem],by simp [go_sem]⟩).below ((Below.refl _ _).drew))
 have HKC:=zB (show zE w (w.alloc (.cells #[.string p.s,.int .i64 p.k,.int .i64 p.l,.int .i64 p.sd,.iface T v,.iface T2 v2] 131)).drew g from zE.of_below ((zC _ _).drew))
 clear hc hc2 hg
 unfold zDt
 go_enter Tryz.func66,Tryz.ntmps66
 go_wp2_with fail
 clear n1 n2 i1
 obtain ⟨k0,k1,k2,k3,k4,k5,k6,k7⟩:=zA HPC
 go_region_with
  (first | (go_at_call 90; refine (zAO p.s p.k p.l p.sd false _ hsz).mono ?_; rintro e w3 ⟨rfl,hb3⟩; replace HPC:=zB ((zA HPC).below hb3); replace ⟨k0,k1,k2,k3,k4,k5,k6,k7⟩:=zA HPC; replace HGC:=zB ((zA HGC).below hb3); replace HKC:=zB ((zA HKC).trans (zE.of_below hb3)); clear hb3) | (go_at_call 66; refine ((zA HC) _ (zA HGC)).mono ?_; rintro e w4 ⟨rfl,hg4,hk4⟩; replace HPC:=zB ((zA HPC).kept (zA hk4) (by omega)); replace HGC:=hg4; replace HKC:=zB ((zA HKC).trans (zA hk4)); clear hk4 hg4; replace ⟨k0,k1,k2,k3,k4,k5,k6,k7⟩:=zA HPC))
 all_goals
  replace HPC:=zB (((zA HPC).set4 (.iface T' v')).below ((Below.refl _ _).drew))
  replace HGC:=zB (((zA HGC).other (N:=w.heap.size) (o:=4) (by omega) (.iface T' v')).below ((Below.refl _ _).drew))
  replace HKC:=zB (((zA HKC).far 4 (.iface T' v') (Nat.le_refl _)).trans (zE.of_below ((Below.refl _ _).drew)))
  clear k0 k1 k2 k3 k4 k5 k6 k7 HC
  obtain ⟨k0,k1,k2,k3,k4,k5,k6,k7⟩:=zA HPC
  go_wp2_with fail
  go_region_with
   (first | (go_at_call 90; refine (zAO p.s p.k p.l p.sd true _ hsz).mono ?_; rintro e w5 ⟨rfl,hb3⟩; replace HPC:=zB ((zA HPC).below hb3); replace ⟨k0,k1,k2,k3,k4,k5,k6,k7⟩:=zA HPC; replace HGC:=zB ((zA HGC).below hb3); replace HKC:=zB ((zA HKC).trans (zE.of_below hb3)); clear hb3) | (go_at_call 66; refine ((zA HC2) _ (zA HGC)).mono ?_; rintro e w6 ⟨rfl,hg4,hk4⟩; replace HPC:=zB ((zA HPC).kept (zA hk4) (by omega)); replace HGC:=hg4; replace HKC:=zB ((zA HKC).trans (zA hk4)); clear hk4 hg4; replace ⟨k0,k1,k2,k3,k4,k5,k6,k7⟩:=zA HPC))
 all_goals
  replace HPC:=zB ((zA HPC).set5 (.iface T2' v2'))
  replace HGC:=zB ((zA HGC).other (N:=w.heap.size) (o:=5) (by omega) (.iface T2' v2'))
  replace HKC:=zB ((zA HKC).far 5 (.iface T2' v2') (Nat.le_refl _))
  clear k0 k1 k2 k3 k4 k5 k6 k7 HC2
  obtain ⟨k0,k1,k2,k3,k4,k5,k6,k7⟩:=zA HPC
  go_wp2_with fail
  refine (zCZ (zLq p (.iface T' v') (.iface T2' v2')) g m2 least _ (zA HGC) hm2).mono ?_
  rintro x w7 ⟨rfl,h1,h2⟩
  obtain ⟨T6,v6,hTv⟩:=zCB p.l least 131 (.agg #[.string p.s,.int .i64 p.k,.int .i64 p.l,.int .i64 p.sd,.iface T' v',.iface T2' v2'])
  have HK6:=zB ((zA HKC).trans (zA h2))
  unfold zDt
  rw [hTv]
  clear k0 k1 k2 k3 k4 k5 k6 k7 HPC HGC HKC h2
  go_wp2_with fail
  go_ret
  exact ⟨by first | rfl | (rw [hTv]; rfl),h1,HK6⟩
end Go.Proofs.YtfboipappaonhaaGreat
