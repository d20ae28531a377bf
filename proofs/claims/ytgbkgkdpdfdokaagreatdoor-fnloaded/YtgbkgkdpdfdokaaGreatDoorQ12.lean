import Derived.Test.YtgbkgkdpdfdokaaGreatDoorQ11
namespace Go.Proofs.YtgbkgkdpdfdokaaGreatDoor
set_option linter.all false
set_option maxHeartbeats 16000000
set_option maxRecDepth 100000
open Go.RowKit
variable {B c g i n:Nat} {T:Nat -> List OpR} {U:List UnR} {a:Option Addr} {b:Nat -> ByteArray} {ms:List zF} {out t:List (List zD)} {ta:List (Option Addr)} {tv:List Value} {us:List zD} {v:Value} {w w':World}
theorem zLR (w:JY):zA9 (w.alloc (.cells #[] 41)) w.heap.size (.slice (some ⟨w.heap.size,0,none⟩) 0 0) []:=by
 have:=yD (base:=w.heap.size) (e:=41) (size:=3) w #[] 0 (yh _) (yj _) rfl
 simpa [zA9,Ze] using this
def zP0 (w:JY) (ms:List zF) (e:Ending) (w':JY):Prop:=∃ (g c:Nat) (vs:List UvR) (U:List UnR),e = .returned (.slice (some ⟨g,0,none⟩) vs.length c)/\w.heap.size<=g/\g<w'.heap.size/\vs.length=ms.length/\Hid (zLN w' g vs)/\Hid (zCB w' w'.heap.size vs U)/\Hid (Zd ms U)/\Below w.heap.size w w'
def zRx (ms:List zF) (U:List UnR) (k:Nat):Prop:=U.length=k/\∀ i,i<k->zy (atM ms i).t (atU U i).us (atU U i).os (atU U i).b 0 0
theorem zFu (a:Option Addr) (c0:Nat) (ms:List zF) (w:JY) (hn:ms.length<=100) (hM:zEJ w a ms) (hz:zG2 ms) (Y:∀ i,i<ms.length->¬ B2 ms i) :
  Calls Tryz.prog 14 #[.slice a ms.length c0] w (zP0 w ms):=by
 obtain ⟨i0,E,F,m,M⟩:=zN zOG
 have HI:=zB E
 have HZ:=zB (yH F (yH m M))
 have HM:=zB hM
 have HG:=zB Y
 have r:=zB hz
 clear E F m M hM Y hz
 have HE:=zB (zLR w)
 go_enter Tryz.func14,Tryz.ntmps14
 go_wp2
 go_loopw [3,4] (fun out i wr=>∃ (k g c:Nat) (vs:List UvR) (U:List UnR),k<=ms.length/\i = .int .i64 (k:Int)/\out = .slice (some ⟨g,0,none⟩) vs.length c/\vs.length<=k/\Hid (vs.length=k)/\Hid (zRx ms U k)/\Hid (zA9 wr w.heap.size (.slice (some ⟨g,0,none⟩) vs.length c) vs)/\Hid (zFq wr (.slice (some ⟨g,0,none⟩) vs.length c) vs U)/\Below w.heap.size w wr) (fun _ i _=>ms.length-(intOf i).toNat)
 case atStart=>exact ⟨0,w.heap.size,0,[],[],yj _,rfl,rfl,yh _,zB rfl,zB ⟨rfl,fun i hi=>by omega⟩,HE,zB ⟨rfl,fun i hi=>yP hi (yt i)⟩,zC _ _⟩
 case round=>
  clear HE
  obtain ⟨k,g,c,vs,U,hk,rfl,rfl,T,n,v,HR,C,H⟩:=hrel
  by_cases B:k<ms.length
  ·have S:(k:Int)<(ms.length:Int):=by omega
   rcases zA HM with h | ⟨b,z,rfl,P,hB⟩
   ·omega
   obtain ⟨m0,m1⟩:=(P k B).below H hB
   have hg:=((zA HR).lt g rfl).2
   have L:=zB (zCf (atM ms k).t wr ((zA r) k B).2)
   clear P
   go_wp2_with fail
   (with_reducible refine (zA L).mono ?_)
   rintro e w1 ⟨vu,vo,us,os,b',c',l',rfl,hi1,ru1,ro1,hne1,hlu,hlo,hb1⟩
   obtain ⟨rfl,rfl,_,_⟩:=zOB ((zA HG) k B) hi1
   obtain ⟨a1,c1,rfl⟩:=zO ru1
   obtain ⟨a2,c2,rfl⟩:∃ a c,vo = .slice a os.length c:=zO ro1
   have z1:=hb1.size
   have J:=zB hb1
   have G:=zB ru1.strs
   have I:=zB ro1.ops
   have o:=zB (fun q e=>ru1.lt q e)
   have N:=zB (fun q e=>ro1.lt q e)
   have R:=zB hi1
   clear hi1 ru1 ro1 hne1 hb1 L m0 m1
   go_wp2_with (at_builtin; refine yJ _ rfl (.tmp 25) (.tmp 27) 46 rfl w.heap.size 41 i0 _ 3 64 Tryz.underlying46 (zA HI) (zA HZ).1 (zA HZ).2.1 (zA HZ).2.2 rfl (by decide) _ vs.length (Ze vs) rfl (((zA HR).below (zA J)).below ((zC _ _).alloc (by simp) _)) ⟨w1.heap.size+1,0,none⟩ 1 1 (Ze [⟨.slice a1 us.length c1,.slice a2 os.length c2,b'⟩]) rfl rfl (fun j u hj=>(by simpa using zFP (w1.alloc (.cells #[.slice a1 us.length c1,.slice a2 os.length c2,.string b'] 41)) ⟨.slice a1 us.length c1,.slice a2 os.length c2,b'⟩ j u hj)) (fun u hu=>by simp [Ze] at hu; rcases hu with rfl | rfl | rfl <;> rfl) ?b1 ?b2 ?b3 ?next)
   case b1=>unfold maxLen; omega
   case b2=>omega
   case b3=>have:=H.size; simp; omega
   case next=>
    intro v4 w4 Q K A p
    have X:Below w1.heap.size w1 ((w1.alloc (.cells #[.slice a1 us.length c1,.slice a2 os.length c2,.string b'] 41)).alloc (.cells #[.slice a1 us.length c1,.slice a2 os.length c2,.string b'] 41)):=(zC _ _).alloc (by simp) _
    have HO:=zB (show zA9 w4 w.heap.size v4 (vs++[⟨.slice a1 us.length c1,.slice a2 os.length c2,b'⟩]) by
     unfold zA9
     rw [zD4,ym]
     exact Q)
    have l:=zB (zFq.step (x:=⟨.slice a1 us.length c1,.slice a2 os.length c2,b'⟩) (y:=⟨us,os,b'⟩) (zA C) ((zA J).trans (X.mono z1)) (fun q e=>by have e':g=q:=(by simpa [Value.ownBlock] using e); omega) ((zA G).below X) ((zA I).below X) rfl (fun q e=>by have:=(zA o) q e; simp; omega) (fun q e=>by have:=(zA N) q e; simp; omega) K (p.imp id (fun h=>⟨_,h,by simp⟩)))
    have d:Below w.heap.size w w4:=(H.trans (((zA J).trans (X.mono z1)).mono H.size)).grown K (by have:=H.size; simp; omega) (fun q hq=>((zA HR).lt q hq).1)
    obtain ⟨g4,c4,rfl⟩:∃ g4 c4,v4 = .slice (some ⟨g4,0,none⟩) (vs++[(⟨.slice a1 us.length c1,.slice a2 os.length c2,b'⟩:UvR)]).length c4:=by
     obtain ⟨_,⟨_,h2⟩ | ⟨g',cap,W,h1,_⟩⟩:=zA HO
     ·simp at h2
     ·exact ⟨g',cap,h1⟩
    have f:=zB (show zRx ms (U++[⟨us,os,b'⟩]) (k+1) by
     obtain ⟨t1,t2⟩:=zA v
     refine ⟨by simp [t1],fun i hi=>?_⟩
     by_cases e:i<k
     ·rw [zHB (by omega)]; exact t2 i e
     ·have e1:i=U.length:=by omega
      have e2:atU (U++[⟨us,os,b'⟩]) i=⟨us,os,b'⟩:=by rw [e1]; exact zHC
      rw [e2]
      have e3:i=k:=by omega
      rw [e3]
      exact zA R)
    obtain ⟨D,V⟩:∃ D,Hid (D=vs++[(⟨.slice a1 us.length c1,.slice a2 os.length c2,b'⟩:UvR)]):=⟨_,zB rfl⟩
    have e4:=zA V
    rw [<- e4] at HO l
    rw [<- e4]
    clear e4 Q K A p G I o N J HR C v X
    go_wp2
    refine ⟨⟨k+1,g4,c4,D,U++[⟨us,os,b'⟩],by omega,by go_num,rfl,?_,zB ?_,f,HO,l,d⟩,by simp [intOf]; omega⟩
    ·rw [zA V]; simp; omega
    ·have:=zA n; rw [zA V]; simp; omega
  ·have s:k=ms.length:=by omega
   have HF:=zB (show Zd ms U by
    obtain ⟨t1,t2⟩:=zA v
    exact ⟨by omega,fun i hi=>t2 i (by omega)⟩)
   have O:=zB (show vs.length=ms.length by have:=zA n; omega)
   clear s
   go_wp2
   go_ret
   have hg:=(zA HR).lt g rfl
   exact ⟨g,c,vs,U,rfl,hg.1,hg.2,zA O,zB (zA HR).ops,zB (zA C).at,HF,H⟩
def nmI (ms:List zF) (u:JZ):Int:=if nmF ms u<ms.length then (nmF ms u:Int) else -1
theorem zRL {a b:JZ} (h:a≠b):(a.toList==b.toList)=false:=by
 cases e:(a.toList==b.toList)
 ·rfl
 ·exact yP (zCZ (by simpa using e)) h
theorem zDa (a:Option Addr) (c:Nat) (ms:List zF) (u:JZ) (w:JY) (hn:ms.length<=1048576) (hM:zEJ w a ms) :
  Calls Tryz.prog 13 #[.slice a ms.length c,.string u] w fun e w'=>e = .returned (.int .i64 (nmI ms u))/\w'=w:=by
 have HM:=zB hM
 clear hM
 go_enter Tryz.func13,Tryz.ntmps13
 go_wp2
 go_loop [5] (fun i=>∃ k:Nat,k<=ms.length/\i = .int .i64 (k:Int)/\Hid (∀ j,j<k->(atM ms j).n≠u)) (fun i=>ms.length-(intOf i).toNat)
 case atStart=>exact ⟨0,yj _,rfl,zB (fun j h=>by omega)⟩
 case round=>
  obtain ⟨k,hk,rfl,hb⟩:=hrel
  by_cases H:k<ms.length
  ·have q:(k:Int)<(ms.length:Int):=by omega
   rcases zA HM with h | ⟨b,Q,rfl,K,hB⟩
   ·omega
   obtain ⟨m0,m1⟩:=K k H
   by_cases e:(atM ms k).n=u
   ·subst e
    have HR:=zB (show nmI ms (atM ms k).n=(k:Int) by
     unfold nmI
     rw [zI8 H rfl (zA hb),yO H])
    go_wp2
    go_ret
    exact ⟨zJ (zA HR).symm,rfl⟩
   ·have ne:=zRL e
    have HX:=zB (show ∀ j,j<k+1->(atM ms j).n≠u from fun j hj=>by
     by_cases e2:j=k
     ·subst e2; exact e
     ·exact (zA hb) j (by omega))
    clear e
    go_wp2
    exact ⟨⟨k+1,by omega,by go_num,HX⟩,by simp [intOf]; omega⟩
  ·have HR:=zB (show nmI ms u = -1 by
    unfold nmI
    rw [zN8 (fun j hj=>(zA hb) j (by omega)),yN (Nat.lt_irrefl _)])
   go_wp2
   go_ret
   exact ⟨zJ (zA HR).symm,rfl⟩
def zDb (ms:List zF) (U:List UnR) (i j:Nat):Bool:=decide (i<ms.length)&&(decide (j<ms.length)&&(atU U i).us.any (fun u=>nmF ms u==j))
theorem zIU:(Tryz.prog.info? 4).map (fun i=>(i.zero,i.size,i.bytes))=some (some (.bool false),1,1):=by kernel_rfl
def zP1 (w:JY) (n:Nat) (W:Nat->Nat->Bool) (e:Ending) (w':JY):Prop:=∃ (g c:Nat) (rs:List Nat),e = .returned (.slice (some ⟨g,0,none⟩) n c)/\w.heap.size<=g/\g<w'.heap.size/\Hid (∀ i,i<n->w'.cell? ⟨g,i,none⟩=some (.slice (some ⟨atR rs i,0,none⟩) n n))/\Hid (∀ i,i<n->zCG w' (atR rs i) n (W i))/\Below w.heap.size w w'
theorem zCB.uses {vs:List UvR} (h:zCB w B vs U) (hi:i<vs.length):zq w (atV vs i).vu (atU U i).us:=(h.2 i hi).1.1
theorem zOL {j:Nat} (hi:i<ms.length) (hj:j<ms.length):zDb ms U i j=((atU U i).us.take (atU U i).us.length).any (fun u=>nmF ms u==j):=by
 rw [List.take_length]
 simp [zDb,hi,hj]
theorem zOM {us:List JZ} {k:Nat} {u:JZ} (h:us[k]?=some u) (ms:List zF) (j:Nat):(us.take (k+1)).any (fun u=>nmF ms u==j)=(if j=nmF ms u then true else (us.take k).any (fun u=>nmF ms u==j)):=by
 rw [List.take_add_one,h,List.any_append]
 by_cases e:j=nmF ms u
 ·subst e; simp
 ·have:(nmF ms u==j)=false:=by simp; omega
  simp [e,this]
theorem zKK (a:Option Addr) (c0 gU cU:Nat) (ms:List zF) (vs:List UvR) (U:List UnR) (w:JY) (hn:ms.length<=100) (hM:zEJ w a ms) (R:zLN w gU vs) (hI:gU<w.heap.size) (ho:zCB w w.heap.size vs U) (hl:Zd ms U) (s:vs.length=ms.length) (h4:∀ i,i<ms.length->¬ B4 ms U i) :
  Calls Tryz.prog 15 #[.slice a ms.length c0,.slice (some ⟨gU,0,none⟩) ms.length cU] w (zP1 w ms.length (wrN (zDb ms U) ms.length)):=by
 obtain ⟨i0,h3,hb,hh,h8⟩:=zN zRI
 have HI:=zB h3
 have HZ:=zB (yH hb (yH hh h8))
 obtain ⟨n,l⟩:∃ n,n=ms.length:=⟨_,rfl⟩
 have T:∀ W:JY,(Instr.makeSlice 50 (.int .i64 (n:Int)) (.int .i64 (n:Int))).run Tryz.prog W = .ok (.slice (some ⟨W.heap.size,0,none⟩) n n) (W.alloc (.cells (madeCells #[.bool false] n) 4)):=by
  obtain ⟨inf,hi,hz⟩:=Option.map_eq_some_iff.1 zIU
  simp only [Prod.mk.injEq] at hz
  obtain ⟨hz,hB,hD⟩:=hz
  intro W
  have:=run_make (P:=Tryz.prog) W 50 4 inf _ Tryz.underlying50 hi hz .i64 .i64 n n (by omega) (by omega) (by rw [hD]; omega) (by omega)
  simpa [hB,Value.cells] using this
 have hG:=zB T
 have HM:=zB hM
 have hJ:=zB R
 have hN:=zB ho
 have hp:=zB s
 have hy:=zB (fun u=>zDa a c0 ms u)
 have z:=zB (show ∀ i,i<ms.length->∀ u∈(atU U i).us,nmF ms u<ms.length from fun i hi u hu=>by
  have He:=zFO ms u
  by_cases e:nmF ms u<ms.length
  ·exact e
  ·refine yP ⟨u,hu,fun j hj=>?_⟩ (h4 i hi)
   exact (Z5 ms u).2 j (by omega))
 have hd:=zB (show ∀ i,i<ms.length->(atU U i).us.length<=20001 from fun i hi=>(zCc (hl.2 i hi)).1)
 have HE:=zB (show zDA (w.alloc (.cells #[] 50)) w.heap.size n (.slice (some ⟨w.heap.size,0,none⟩) 0 0) [] by
  have:=yD (base:=w.heap.size) (e:=50) (size:=1) w #[] 0 (yh _) (yj _) rfl
  simpa [zDA,zAw] using this)
 rw [<- l] at hy z hd hp hn ⊢
 have o:=zB l
 clear h3 hb hh h8 hM R ho hl s h4 T l
 go_enter Tryz.func15,Tryz.ntmps15
 go_wp2
 go_loopw [6,7] (fun out i wr=>∃ (k g c:Nat) (rs:List Nat),k<=n/\i = .int .i64 (k:Int)/\out = .slice (some ⟨g,0,none⟩) rs.length c/\rs.length<=k/\Hid (rs.length=k)/\Hid (zDA wr w.heap.size n (.slice (some ⟨g,0,none⟩) rs.length c) rs)/\Hid (zBi wr w.heap.size n (.slice (some ⟨g,0,none⟩) rs.length c) rs (zDb ms U))/\Below w.heap.size w wr) (fun _ i _=>n-(intOf i).toNat)
 case atStart=>exact ⟨0,w.heap.size,0,[],yj _,rfl,rfl,yh _,zB rfl,HE,zB ⟨fun i hi=>yP hi (yt i),fun i j hi=>yP hi (yt i),fun i hi=>yP hi (yt i)⟩,zC _ _⟩
 case round=>
  clear HE
  obtain ⟨k,g,c,rs,hk,rfl,rfl,Hd,A,HR,K,H⟩:=hrel
  obtain ⟨wo,rfl⟩:∃ wo,wo=wr:=⟨_,rfl⟩
  have B:=H.size
  by_cases C:k<n
  ·have hS:(k:Int)<(n:Int):=by omega
   have Z:=(zA hG) wo
   obtain ⟨us,d⟩:∃ us,us=(atU U k).us:=⟨_,rfl⟩
   have h9:=zB d
   have Hc:us.length<=20001:=by rw [d]; exact (zA hd) k C
   have h6:=zB (show ∀ u∈us,nmF ms u<n by rw [d]; exact (zA z) k C)
   clear d
   go_wp2_with fail
   clear Z
   obtain ⟨W1,v⟩:∃ W1,W1=wo.alloc (.cells (madeCells #[.bool false] n) 4):=⟨_,rfl⟩
   have J:Below wo.heap.size wo W1:=by rw [v]; exact zC _ _
   have D:=zB (show zCG W1 wo.heap.size n (fun _=>false) by rw [v]; exact zIS wo n)
   have hA:=zB (H.trans (J.mono B))
   have ha:=zB J
   have zW1:wo.heap.size+1<=W1.heap.size:=by rw [v]; simp
   rw [<- v]
   clear v J
   go_loopw [9] (fun i wr=>∃ q:Nat,q<=us.length/\i = .int .i64 (q:Int)/\Hid (zCG wr wo.heap.size n (fun j=>(us.take q).any (fun u=>nmF ms u==j)))/\Hid (zG W1 wr wo.heap.size)) (fun i _=>us.length-(intOf i).toNat)
   case atStart=>exact ⟨0,yj _,rfl,zB ((zA D).congr (fun j _=>by simp)),zB (zG.refl _ _)⟩
   case round=>
    clear D
    obtain ⟨q,hq,rfl,HB,HK⟩:=hrel
    have I:Below w.heap.size w wr:=(zA hA).trans ((zA HK).below (by omega) B)
    have h5:k<vs.length:=by rw [zA hp]; exact C
    obtain ⟨v0,_,_⟩:=((zA hJ).below I hI) k h5
    have G:zq wr (atV vs k).vu us:=by
     have h:=((zA hN).belowB I (yh _)).uses h5
     rw [<- zA h9] at h
     exact h
    by_cases h0:q<us.length
    ·have hX:(q:Int)<(us.length:Int):=by omega
     obtain ⟨gw,cw,hv,Ha,hc⟩:=G.lt (by omega)
     rw [hv] at v0
     obtain ⟨u,hu⟩:∃ u,us[q]?=some u:=⟨_,yn h0⟩
     have k0:=hc q u hu
     have r:u∈us:=yy hu
     obtain ⟨m,hm⟩:∃ m,m=nmF ms u:=⟨_,rfl⟩
     have y:m<n:=by rw [hm]; exact (zA h6) u r
     have hQ:(m:Int)<(n:Int):=by omega
     have X:=zB ((zA hy) u wr (by omega) ((zA HM).below I))
     have hf:nmI ms u=(m:Int):=by
      unfold nmI
      rw [<- hm,<- zA o,yO y]
     rw [hf] at X
     obtain ⟨b0,b1⟩:=(zA HB).2 m y
     have hK:=zB (show zCG (wr.setCell ⟨wo.heap.size,m,none⟩ (.bool true)) wo.heap.size n (fun j=>(us.take (q+1)).any (fun u=>nmF ms u==j)) from ((zA HB).set y true).congr (fun j _=>by rw [zOM hu ms j,<- hm]))
     have hH:=zB (show zG W1 (wr.setCell ⟨wo.heap.size,m,none⟩ (.bool true)) wo.heap.size from (zA HK).trans (zBH [.bool true] m wr))
     clear hc G hu r hm hf hv HB HK
     go_wp2_with fail
     (with_reducible refine (zA X).mono ?_)
     rintro e w2 ⟨rfl,hx⟩
     obtain rfl:=hx.symm
     clear hx X
     go_wp2_with fail
     exact ⟨⟨q+1,by omega,by go_num,hK,hH⟩,by simp [intOf]; omega⟩
    ·obtain ⟨aw,cw,hv,_⟩:=G
     rw [hv] at v0
     have ht:q=us.length:=by omega
     have hR:=zB (show zCG wr wo.heap.size n (zDb ms U k) by
      refine (zA HB).congr (fun j hj=>?_)
      rw [zOL (by rw [<- zA o]; exact C) (by rw [<- zA o]; exact hj),ht,zA h9])
     have b:=zB (show Below wo.heap.size wo wr from (zA ha).trans ((zA HK).below (by omega) (yh _)))
     have he:=(zA b).size
     have hg:=((zA HR).lt g rfl).2
     clear hv ht HB
     go_wp2_with (at_builtin; refine yJ _ rfl (.tmp 45) (.tmp 47) 48 rfl w.heap.size 50 i0 _ 1 24 Tryz.underlying48 (zA HI) (zA HZ).1 (zA HZ).2.1 (zA HZ).2.2 rfl (by decide) _ rs.length (zAw n rs) rfl (((zA HR).below (zA b)).below (zC _ _)) ⟨wr.heap.size,0,none⟩ 1 1 (zAw n [wo.heap.size]) rfl rfl (fun j u hj=>zLM wr _ j u hj) (zKG _ _) ?b1 ?b2 ?b3 ?next)
     case b1=>unfold maxLen; omega
     case b2=>omega
     case b3=>simp; omega
     case next=>
      intro v4 w4 Y Q F E
      have HO:=zB (show zDA w4 w.heap.size n v4 (rs++[wo.heap.size]) by
       unfold zDA
       rw [zHA,ym]
       exact Y)
      have hw:=zB (show zBi w4 w.heap.size n v4 (rs++[wo.heap.size]) (zDb ms U) from
       (zBi.push (zA K) ((zA b).alloc he _) B (fun q e=>by have e':g=q:=(by simpa [Value.ownBlock] using e); omega) ((zA hR).below (zC _ _)) (yh _) Q (E.imp id (fun h=>⟨_,h,by simp⟩))).congr (fun i j _ _=>by
        by_cases e:i=rs.length
        ·rw [yO e,e,zA A]
        ·rw [yN e]))
      have O:Below w.heap.size w w4:=(H.trans (((zA b).alloc he _).mono B)).grown Q (by simp; omega) (fun q hq=>((zA HR).lt q hq).1)
      obtain ⟨g4,c4,rfl⟩:∃ g4 c4,v4 = .slice (some ⟨g4,0,none⟩) (rs++[wo.heap.size]).length c4:=by
       obtain ⟨_,⟨_,h2⟩ | ⟨g',cap,Hg,h1,_⟩⟩:=zA HO
       ·simp at h2
       ·exact ⟨g',cap,h1⟩
      obtain ⟨L,N⟩:∃ L,Hid (L=rs++[wo.heap.size]):=⟨_,zB rfl⟩
      have e4:=zA N
      rw [<- e4] at HO hw
      rw [<- e4]
      clear e4 Y Q F E v0
      go_wp2_with fail
      refine ⟨⟨k+1,g4,c4,L,by omega,by go_num,rfl,?_,zB ?_,HO,hw,O⟩,by simp [intOf]; omega⟩
      ·rw [zA N]; simp; omega
      ·have:=zA A; rw [zA N]; simp; omega
  ·have hP:k=n:=by omega
   have t:=zB (show rs.length=n by have:=zA A; omega)
   have hW:rs.length<=n:=by omega
   have hU:n<=rs.length:=by have:=zA t; omega
   clear hP A
   go_wp2_with fail
   go_loopw [10] (fun im wr=>∃ m:Nat,m<=n/\im = .int .i64 (m:Int)/\Hid (zDA wr w.heap.size n (.slice (some ⟨g,0,none⟩) rs.length c) rs)/\Hid (zBi wr w.heap.size n (.slice (some ⟨g,0,none⟩) rs.length c) rs (wrN (zDb ms U) m))/\Below w.heap.size w wr) (fun im _=>n-(intOf im).toNat)
   case atStart=>exact ⟨0,yj _,rfl,HR,K,H⟩
   case round=>
    clear HR K H
    obtain ⟨m,hm,rfl,HR,K,H⟩:=hrel
    obtain ⟨wm,rfl⟩:∃ wm,wm=wr:=⟨_,rfl⟩
    by_cases S:m<n
    ·have hQ:(m:Int)<(n:Int):=by omega
     have Hb:(m:Int)<(rs.length:Int):=by omega
     obtain ⟨M,hM⟩:∃ M,M=wrN (zDb ms U) m:=⟨_,rfl⟩
     rw [<- hM] at K
     have hF:=zB hM
     clear hM
     go_wp2_with fail
     go_loopw [11] (fun ii wr=>∃ i:Nat,i<=n/\ii = .int .i64 (i:Int)/\Hid (zDA wr w.heap.size n (.slice (some ⟨g,0,none⟩) rs.length c) rs)/\Hid (zBi wr w.heap.size n (.slice (some ⟨g,0,none⟩) rs.length c) rs (prt M m i 0))/\Below w.heap.size w wr) (fun ii _=>n-(intOf ii).toNat)
     case atStart=>exact ⟨0,yj _,rfl,HR,zB ((zA K).congr (fun i j _ _=>(zMy M m i j).symm)),H⟩
     case round=>
      clear HR K H
      obtain ⟨i,hi,rfl,HR,K,H⟩:=hrel
      obtain ⟨wi,rfl⟩:∃ wi,wi=wr:=⟨_,rfl⟩
      by_cases hV:i<n
      ·have hZ:(i:Int)<(n:Int):=by omega
       have Hh:(i:Int)<(rs.length:Int):=by omega
       go_wp2_with fail
       go_loopw [12] (fun jj wr=>∃ j:Nat,j<=n/\jj = .int .i64 (j:Int)/\Hid (zDA wr w.heap.size n (.slice (some ⟨g,0,none⟩) rs.length c) rs)/\Hid (zBi wr w.heap.size n (.slice (some ⟨g,0,none⟩) rs.length c) rs (prt M m i j))/\Below w.heap.size w wr) (fun jj _=>n-(intOf jj).toNat)
       case atStart=>exact ⟨0,yj _,rfl,HR,K,H⟩
       case round=>
        clear HR K H
        obtain ⟨j,hj,rfl,HR,K,H⟩:=hrel
        by_cases V:j<n
        ·have Hf:(j:Int)<(n:Int):=by omega
         have c1:=(zA HR).cell (i:=i) (by omega)
         have c2:=(zA HR).cell (i:=m) (by omega)
         obtain ⟨b1,_⟩:=((zA K).1 i (by omega)).2 m S
         obtain ⟨b2,_⟩:=((zA K).1 m (by omega)).2 j V
         obtain ⟨b3,f3⟩:=((zA K).1 i (by omega)).2 j V
         rw [zRJ] at b1
         rw [zRK] at b2
         cases h1:M i m
         ·rw [h1] at b1
          have HN:=zB ((zA K).congr (fun i' j' _ _=>zOF M m i j (yQ h1) i' j'))
          clear K h1
          go_wp2_with fail
          exact ⟨⟨j+1,by omega,by go_num,HR,HN,H⟩,by simp [intOf]; omega⟩
         ·rw [h1] at b1
          cases h2:M m j
          ·rw [h2] at b2
           have HN:=zB ((zA K).congr (fun i' j' _ _=>zOF M m i j (yR h2) i' j'))
           clear K h1 h2
           go_wp2_with fail
           exact ⟨⟨j+1,by omega,by go_num,HR,HN,H⟩,by simp [intOf]; omega⟩
          ·rw [h2] at b2
           have f:=(zA K).2.2 i (by omega)
           have HN:=zB (((zA K).set (i:=i) (j:=j) (by omega) V).congr (fun i' j' _ _=>zPy M m i j h1 h2 i' j'))
           have hr:=zB ((zA HR).grown (zf wr (atR rs i) j (.bool true)) (fun k e x=>f.1 (e.trans x.symm)))
           have hC:Below w.heap.size w (wr.setCell ⟨atR rs i,j,none⟩ (.bool true)):=H.setCell (p:=⟨atR rs i,j,none⟩) f.2 _
           clear K HR h1 h2 f
           go_wp2_with fail
           exact ⟨⟨j+1,by omega,by go_num,hr,HN,hC⟩,by simp [intOf]; omega⟩
        ·have h7:j=n:=by omega
         have HN:=zB (show zBi wr w.heap.size n (.slice (some ⟨g,0,none⟩) rs.length c) rs (prt M m (i+1) 0) from (zA K).congr (fun i' j' _ hE=>by rw [h7]; exact zPw M m i n i' j' hE))
         clear K h7
         go_wp2_with fail
         exact ⟨⟨i+1,by omega,by go_num,HR,HN,H⟩,by simp [intOf]; omega⟩
      ·have hs:i=n:=by omega
       have HN:=zB (show zBi wi w.heap.size n (.slice (some ⟨g,0,none⟩) rs.length c) rs (wrN (zDb ms U) (m+1)) from (zA K).congr (fun i' j' hY _=>by
        show _=wr1 (wrN (zDb ms U) m) m i' j'
        rw [hs,<- zA hF]
        exact zPx M m n i' j' (by omega)))
       clear K hs
       go_wp2_with fail
       exact ⟨⟨m+1,by omega,by go_num,HR,HN,H⟩,by simp [intOf]; omega⟩
    ·have y:m=n:=by omega
     have HF:=zB (show ∀ i,i<n->zCG wm (atR rs i) n (wrN (zDb ms U) n i) from fun i hi=>by
      have:=(zA K).1 i (by omega)
      rw [y] at this
      exact this)
     have HC:=zB (show ∀ i,i<n->wm.cell? ⟨g,i,none⟩=some (.slice (some ⟨atR rs i,0,none⟩) n n) from fun i hi=>(zA HR).cell (by omega))
     have hg:=(zA HR).lt g rfl
     have hO:=zB (show Value.slice (some ⟨g,0,none⟩) rs.length c=Value.slice (some ⟨g,0,none⟩) n c by rw [zA t])
     clear K y HR
     go_wp2_with fail
     go_ret
     exact ⟨g,c,rs,yS Ending.returned (zA hO),hg.1,hg.2,HC,HF,H⟩
def zMz (o:OpR):Prop:=o.s.size<=20000/\(1<=o.k/\o.k<=3)/\(0<=o.l/\o.l<1000000)/\(0<=o.sd/\o.sd<=3)
theorem OpW.small {ws:List JZ} {o:OpR} (h:OpW ws o) (hs:∀ x∈ws,x.size<=20000):zMz o:=by
 obtain ⟨k,t,l,hl,h⟩:=h
 have hv:Zy l l.size<1000000:=by
  have h1:=zGR l hl.2.2 l.size (yh _)
  have h2:10 ^ l.size<=10 ^ 6:=Nat.pow_le_pow_right (by decide) hl.2.1
  omega
 rcases h with ⟨rfl,h⟩ | ⟨sd,rfl,_,H,rfl⟩
 ·rcases h with ⟨_,rfl⟩ | ⟨_,rfl⟩
  ·exact ⟨hs t (by simp),⟨by simp,by simp⟩,⟨by simp,by simp; omega⟩,⟨by simp,by simp⟩⟩
  ·exact ⟨hs t (by simp),⟨by simp,by simp⟩,⟨by simp,by simp; omega⟩,⟨by simp,by simp⟩⟩
 ·refine ⟨hs t (by simp),⟨by simp,by simp⟩,⟨by simp,by simp; omega⟩,?_⟩
  rcases zG8 sd with e | e | e | e <;> simp [e]
theorem UnF.small {s:JZ} (hs:s.size<=20000):∀ (ls:List (Nat×Nat)) (n:Nat) (us:List JZ) (os:List OpR) {u:List JZ} {o:List OpR} {b:JZ} {c l:Int},UnF s ls n us os u o b c l->(∀ x∈os,zMz x)->∀ x∈o,zMz x
 | [],n,us,os,_,_,_,_,_,h=>by
  obtain ⟨rfl,rfl,rfl,rfl,rfl⟩:=h
  exact fun _ x hx=>by cases hx
 | p::r,n,us,os,u,o,b,c,l,h=>by
  rcases h with ⟨_,rfl,rfl,rfl,rfl,rfl⟩ | ⟨_,⟨us',os',hl,h⟩ | ⟨_,rfl,rfl,rfl,rfl,rfl⟩⟩
  ·exact fun h=>h
  ·intro h0
   refine UnF.small hs r (n+1) us' os' h ?_
   rcases hl with ⟨_,rfl,rfl⟩ | ⟨x,hx,rfl,rfl⟩ | ⟨o',ho,rfl,rfl⟩
   ·exact h0
   ·exact h0
   ·intro x hx
    rcases List.mem_append.1 hx with hx | hx
    ·exact h0 x hx
    ·simp at hx
     subst hx
     refine ho.small (fun z hz=>?_)
     unfold wds at hz
     obtain ⟨q,_,rfl⟩:=List.mem_map.1 hz
     simp only [yw]
     omega
  ·exact fun _ x hx=>by cases hx
theorem zHD {s:JZ} {u:List JZ} {o:List OpR} {b:JZ} {c l:Int} (h:zy s u o b c l):∀ x∈o,zMz x:=by
 rcases h with ⟨_,rfl,rfl,rfl,rfl,rfl⟩ | ⟨h0,h⟩
 ·exact fun x hx=>by cases hx
 ·exact UnF.small h0 _ _ _ _ h (fun x hx=>by cases hx)
theorem Zd.small (h:Zd ms U):∀ o∈ZS U,zMz o:=by
 intro o ho
 obtain ⟨u,hu,ho⟩:=List.mem_flatMap.1 ho
 obtain ⟨i,hi,rfl⟩:=zGI hu
 exact zHD (h.2 i (by rw [<- h.1]; exact hi)) o ho
theorem zKL {xs:List OpR} (h:∀ o∈xs,zMz o):Zg xs:=fun i hi=>by
 have:=(h _ (zMK hi)).1
 unfold maxLen
 omega
theorem zON (h3:∀ i,i<ms.length->¬ B3 ms i) (i j:Nat):zDb ms U i j=true↔Edg ms U i j:=by
 unfold zDb Edg
 simp only [Bool.and_eq_true,decide_eq_true_eq,List.any_eq_true,beq_iff_eq]
 constructor
 ·rintro ⟨h1,h2,u,hu,rfl⟩
  exact ⟨h1,h2,by rw [(Z5 ms u).1 h2]; exact hu⟩
 ·rintro ⟨h1,h2,h⟩
  refine ⟨h1,h2,_,h,?_⟩
  exact zI8 h2 rfl (fun q hq e=>h3 j h2 ⟨q,hq,e⟩)
theorem zHE (h3:∀ i,i<ms.length->¬ B3 ms i) (i j:Nat):wrN (zDb ms U) ms.length i j=true↔TC (Edg ms U) i j:=
 zRF (zON h3) (fun i j h=>⟨h.1,h.2.1⟩) i j
theorem zGJ (hi:i<ms.length) (h4:¬ B4 ms U i) {u:JZ} (hu:u∈(atU U i).us):nmF ms u<ms.length/\Edg ms U i (nmF ms u):=by
 have H:=zFO ms u
 have h:nmF ms u<ms.length:=by
  by_cases e:nmF ms u<ms.length
  ·exact e
  ·exact yP ⟨u,hu,fun j hj=>(Z5 ms u).2 j (by omega)⟩ h4
 exact ⟨h,hi,h,by rw [(Z5 ms u).1 h]; exact hu⟩
theorem zOO (h3:∀ i,i<ms.length->¬ B3 ms i) (h4:∀ i,i<ms.length->¬ B4 ms U i) (h5:∀ i,i<ms.length->¬ TC (Edg ms U) i i) :
  ∃ rk:Nat->Nat,(∀ i,i<ms.length->∀ u∈(atU U i).us,rk (nmF ms u)<rk i)/\∀ i,i<ms.length->rk i<ms.length:=by
 refine ⟨rkW (wrN (zDb ms U) ms.length) ms.length,fun i hi u hu=>?_,fun i hi=>zRv (zHE h3) hi (h5 i hi)⟩
 obtain ⟨h1,h2⟩:=zGJ hi (h4 i hi) hu
 exact zPr (zHE h3) h2 h1 (h5 _ h1)
def zBQ (out:List (List OpR)) (i:Nat):List OpR:=out.getD i []
def zHF (w:JY) (v:Value) (out:List (List OpR)):Prop:=∃ a c,v = .slice a out.length c/\(out.length=0\/∃ g,a=some ⟨g,0,none⟩/\g<w.heap.size/\∀ i,i<out.length->∃ t,w.cell? ⟨g,i,none⟩=some t/\zt w t (zBQ out i))
theorem zHF.below {out:List (List OpR)} (h:zHF w v out) (hb:Below w.heap.size w w'):zHF w' v out:=by
 obtain ⟨a,c,rfl,h⟩:=h
 refine ⟨a,c,rfl,h.imp id ?_⟩
 rintro ⟨g,rfl,h1,h2⟩
 refine ⟨g,rfl,yi h1 hb.size,fun i hi=>?_⟩
 obtain ⟨t,h3,h4⟩:=h2 i hi
 exact ⟨t,(hb.cell (p:=⟨g,i,none⟩) h1).trans h3,h4.grown (row:=none) (zH hb none) (fun g _ e=>by cases e)⟩
theorem zHG {S:Nat->List OpR} (h:i<n):zBQ ((List.range n).map S) i=S i:=by
 simp [zBQ,yk,h]
def zEw (out:List (List zD)) (i:Nat):List zD:=out.getD i []
theorem zIV (h:i<out.length):zEw (out++[us]) i=zEw out i:=by
 simp [zEw,yk,yB h]
theorem zIW:zEw (out++[us]) out.length=us:=by
 simp [zEw,yk]
def PsI (T:Nat->List OpR) (b:Nat->ByteArray) (i:Nat) (us:List zD) (c:Int):Prop:=∃ p,zBY (T i) (b i) us c p
theorem PsI.one {T:Nat->List OpR} {b:Nat->ByteArray} {i:Nat} {us us':List zD} {c c':Int} (h:PsI T b i us c) (h':PsI T b i us' c'):us=us'/\c=c':=by
 obtain ⟨p,h⟩:=h
 obtain ⟨p',h'⟩:=h'
 obtain ⟨h1,h2,_⟩:=h.one h'
 exact ⟨h1,h2⟩
def zHH (T:Nat->List OpR) (b:Nat->ByteArray) (k:Nat) (out:List (List zD)):Prop:=out.length=k/\∀ i,i<k->PsI T b i (zEw out i) 0
theorem zHH.nil (T:Nat->List OpR) (b:Nat->ByteArray):zHH T b 0 []:=⟨rfl,fun i hi=>yP hi (yt i)⟩
theorem zHH.step {k:Nat} (h:zHH T b k out) (h':PsI T b k us 0):zHH T b (k+1) (out++[us]):=by
 refine ⟨by simp [h.1],fun i hi=>?_⟩
 by_cases e:i<k
 ·rw [zIV (by rw [h.1]; exact e)]; exact h.2 i e
 ·obtain rfl:i=k:=by omega
  have e:zEw (out++[us]) i=us:=by rw [<- h.1]; exact zIW
  rw [e]; exact h'
def zKM (T:Nat->List OpR) (b:Nat->ByteArray) (n:Nat) (out:List (List zD)) (c h:Int):Prop:=
 (∃ k us cd t,k<n/\zHH T b k t/\PsI T b k us cd/\cd≠0/\out=[]/\c=10+cd/\h=(k:Int))\/(zHH T b n out/\c=0/\h=0)
theorem zKM.hit {k:Nat} {c H cd:Int} (h:zKM T b n out c H) (hk:k<n) (ht:zHH T b k t) (hp:PsI T b k us cd) (hc:cd≠0):out=[]/\c=10+cd/\H=(k:Int):=by
 rcases h with ⟨k',us',cd',t',h1,h2,h3,h4,rfl,rfl,rfl⟩ | ⟨h1,_⟩
 ·have e:k'=k:=by
   rcases Nat.lt_trichotomy k' k with e | e | e
   ·exact yP (((ht.2 k' e).one h3).2).symm h4
   ·exact e
   ·exact yP (((h2.2 k e).one hp).2).symm hc
  subst e
  exact ⟨rfl,by rw [(h3.one hp).2],rfl⟩
 ·exact yP (((h1.2 k hk).one hp).2).symm hc
theorem zKM.miss {c H:Int} (h:zKM T b n out c H) (ht:zHH T b n t):out=t/\c=0/\H=0:=by
 rcases h with ⟨k',us',cd',t',h1,h2,h3,h4,_⟩ | ⟨h1,rfl,rfl⟩
 ·exact yP (((ht.2 k' h1).one h3).2).symm h4
 ·refine ⟨List.ext_getElem (by rw [h1.1,ht.1]) fun i hi k=>?_,rfl,rfl⟩
  have:=(h1.2 i (by rw [<- h1.1]; exact hi)).one (ht.2 i (by rw [<- h1.1]; exact hi))
  simpa [zEw,yk,hi,k] using this.1
def zBv (ms:List zF) (out:List (List zD)) (c h:Int):Prop:=∃ tabs c0 w0,zz ms tabs c0 w0/\((c0≠0/\out=[]/\c=c0/\h=w0)\/(c0=0/\∃ U,Zd ms U/\zKM (zBQ tabs) (fun i=>(atU U i).b) ms.length out c h))
theorem zOP:(Tryz.prog.info? 125).map (fun i=>(i.zero,i.size,i.bytes))=some (some (.agg #[.slice none 0 0]),1,24):=by kernel_rfl
def zIX (w:JY) (B:Nat) (v:Value) (tv:List Value):Prop:=w.ownsRow B 125 1 v tv.length tv
theorem zFQ {e s:Nat} {xs:List Value} (h:w.ownsRow B e s v n xs) (hs:∀ g,v.ownBlock=some g->w'.heap[g]?=w.heap[g]?):w'.ownsRow B e s v n xs:=by
 obtain ⟨a,h1 | ⟨g,cap,H,h1,h2,h3,h4⟩⟩:=h
 ·exact ⟨a,yQ h1⟩
 ·exact ⟨a,yR ⟨g,cap,H,h1,h2,(hs g (by rw [h1]; rfl)).trans h3,h4⟩⟩
theorem ZU.same (h:ZU w n a us) (hz:w.heap.size<=w'.heap.size) (hs:∀ q,a.map (·.block)=some q->w'.heap[q]?=w.heap[q]?):ZU w' n a us:=by
 rcases h with h | ⟨g,rfl,hn,h1,h2,h3⟩
 ·exact yQ h
 ·have hb:=hs g rfl
  have e:∀ o,w'.cell? ⟨g,o,none⟩=w.cell? ⟨g,o,none⟩:=fun o=>yp (w:=w) hb
  have f:∀ o,w'.frozen? ⟨g,o,none⟩=w.frozen? ⟨g,o,none⟩:=fun o=>yA (w:=w) hb
  refine yR ⟨g,rfl,hn,yi h1 hz,fun j hj=>⟨by rw [e]; exact (h2 j hj).1,by rw [f]; exact (h2 j hj).2⟩,fun i hi=>?_⟩
  obtain ⟨a0,a1,a2,a3⟩:=h3 i hi
  exact ⟨(e _).trans a0,(e _).trans a1,(e _).trans a2,(e _).trans a3⟩
theorem ZU.base {n':Nat} (h:ZU w n a us) (hn:n'<=n):ZU w n' a us:=by
 rcases h with h | ⟨g,h1,h2,h3⟩
 ·exact yQ h
 ·exact yR ⟨g,h1,by omega,h3⟩
structure TrI (w:JY) (B:Nat) (v:Value) (tv:List Value) (ta:List (Option Addr)) (out:List (List zD)):Prop where
 row:zIX w B v tv
 len:tv.length=out.length/\ta.length=out.length
 el:∀ j,j<out.length->∃ a c,tv[j]?=some (.slice a (zEw out j).length c)/\ta[j]?=some a/\ZU w B a (zEw out j)/\∀ q,a.map (·.block)=some q->v.ownBlock≠some q
 ap:∀ i j:Nat,i<j->∀ a a':Option Addr,ta[i]?=some a->ta[j]?=some a'->∀ q,a.map (·.block)=some q->a'.map (·.block)≠some q
theorem TrI.keep (h:TrI w B v tv ta out) (hz:w.heap.size<=w'.heap.size) (hs:∀ q,B<=q->q<w.heap.size->w'.heap[q]?=w.heap[q]?):TrI w' B v tv ta out:=by
 refine ⟨zFQ h.row (fun g e=>hs g (World.ownsRow.lt h.row g e).1 (World.ownsRow.lt h.row g e).2),h.len,fun j hj=>?_,h.ap⟩
 obtain ⟨a,c,h1,h2,h3,h4⟩:=h.el j hj
 exact ⟨a,c,h1,h2,h3.same hz (fun q e=>hs q (h3.lt q e).1 (h3.lt q e).2),h4⟩
theorem TrI.step {w2 w4:JY} {cc:Nat} {v4:Value} (h:TrI w B v tv ta out) (hB:B<=w.heap.size) (hz:w.heap.size<=w2.heap.size) (hs:∀ q,B<=q->q<w.heap.size->w2.heap[q]?=w.heap[q]?) (ho:ZU w2 w.heap.size a us)
  (hg:w2.grownBy w4 v.ownBlock) (hr:zIX w4 B v4 (tv++[.slice a us.length cc])) (K:v4.ownBlock=v.ownBlock\/∃ q,v4.ownBlock=some q/\w2.heap.size<=q):TrI w4 B v4 (tv++[.slice a us.length cc]) (ta++[a]) (out++[us]):=by
 have z4:=hg.size
 have hl:=h.len
 have vl:∀ g,v.ownBlock=some g->B<=g/\g<w.heap.size:=fun g e=>World.ownsRow.lt h.row g e
 have n4:∀ g,g<w2.heap.size->v.ownBlock≠some g->v4.ownBlock≠some g:=fun g h1 h2 e=>by
  rcases K with h3 | ⟨q,h3,h4⟩
  ·exact h2 (h3.symm.trans e)
  ·rw [h3] at e; injection e with e; omega
 have na:∀ q,a.map (·.block)=some q->v.ownBlock≠some q:=fun q e e2=>by have:=(ho.lt q e).1; have:=(vl q e2).2; omega
 refine ⟨hr,by simp; omega,fun j hj=>?_,fun i j k x y hx hy q e=>?_⟩
 ·by_cases e:j<out.length
  ·obtain ⟨x,c,h1,h2,h3,h4⟩:=h.el j e
   rw [zIV e]
   refine ⟨x,c,by rw [yB (by omega)]; exact h1,by rw [yB (by omega)]; exact h2,h3.same (by omega) (fun q eq=>(hg.block q (by have:=(h3.lt q eq).2; omega) (fun e=>h4 q eq e.symm)).trans (hs q (h3.lt q eq).1 (h3.lt q eq).2)),fun q eq=>n4 q (by have:=(h3.lt q eq).2; omega) (h4 q eq)⟩
  ·obtain rfl:j=out.length:=by simp at hj; omega
   rw [zIW]
   refine ⟨a,cc,by rw [<- hl.1,List.getElem?_concat_length],by rw [<- hl.2,List.getElem?_concat_length],(ho.same (by omega) (fun q eq=>hg.block q (ho.lt q eq).2 (fun e=>na q eq e.symm))).base hB,fun q eq=>n4 q (ho.lt q eq).2 (na q eq)⟩
 ·have hj:j<out.length+1:=by
   have:=(yX.1 hy).1
   simp at this; omega
  have H:ta[i]?=some x:=by rw [yB (by omega)] at hx; exact hx
  by_cases e3:j<out.length
  ·exact h.ap i j k x y H (by rw [yB (by omega)] at hy; exact hy) q e
  ·obtain rfl:j=ta.length:=by omega
   rw [List.getElem?_concat_length] at hy
   injection hy with hy
   subst hy
   intro e2
   obtain ⟨x',c,_,h2,h3,_⟩:=h.el i (by omega)
   have:x=x':=by rw [H] at h2; injection h2
   subst this
   have:=(h3.lt q e).2
   have:=(ho.lt q e2).1
   omega
structure zSB (w:JY) (B g:Nat) (ta:Nat->Option Addr) (tc:Nat->Nat) (out:List (List zD)):Prop where
 hg:g<w.heap.size
 ce:∀ i,i<out.length->w.cell? ⟨g,i,none⟩=some (.slice (ta i) (zEw out i).length (tc i))
 ro:∀ i,i<out.length->ZU w B (ta i) (zEw out i)
 ng:∀ i,i<out.length->(ta i).map (·.block)≠some g
 ap:∀ i j,i<out.length->j<out.length->i≠j->∀ q,(ta i).map (·.block)=some q->(ta j).map (·.block)≠some q
def zRM (w:JY) (B:Nat) (v:Value) (out:List (List zD)):Prop:=(∃ a c,v = .slice a out.length c)/\(out.length=0\/∃ g c ta tc,B<=g/\v = .slice (some ⟨g,0,none⟩) out.length c/\zSB w B g ta tc out)
theorem TrI.res (h:TrI w B v tv ta out):zRM w B v out:=by
 have hl:=h.len
 have H:=h.row
 obtain ⟨a,c,rfl⟩:∃ a c,v = .slice a tv.length c:=zO h.row
 refine ⟨⟨a,c,by rw [hl.1]⟩,?_⟩
 by_cases h0:out.length=0
 ·exact yQ h0
 obtain ⟨_,⟨h1,h2⟩ | ⟨g,cap,Q,h1,h2,h3,h4⟩⟩:=id h.row
 ·exfalso
  have K:tv.length=0:=by first | exact h2 | (simp at h2; omega) | (simp at h2; simp [h2]) | exact h1
  omega
 ·have ha:a=some ⟨g,0,none⟩:=by injection h1
  subst ha
  have get:∀ i,i<out.length->∃ x c,tv[i]?=some (.slice x (zEw out i).length c)/\ta[i]?=some x/\ZU w B x (zEw out i)/\(∀ q,x.map (·.block)=some q->g≠q)/\ta.getD i none=x:=fun i hi=>by
   obtain ⟨x,c,e1,e2,e3,e4⟩:=h.el i hi
   exact ⟨x,c,e1,e2,e3,fun q e x=>e4 q e (by rw [<- x]; rfl),by simp [yk,e2]⟩
  refine yR ⟨g,c,fun i=>ta.getD i none,fun i=>match tv[i]? with | some (.slice _ _ c)=>c | _=>0,(World.ownsRow.lt H g rfl).1,by rw [hl.1],⟨(World.ownsRow.lt H g rfl).2,fun i hi=>?_,fun i hi=>?_,fun i hi=>?_,fun i j hi hj k q e=>?_⟩⟩
  ·obtain ⟨x,c',e1,e2,e3,_,e4⟩:=get i hi
   have:=World.ownsRow.cellAt H i (by omega)
   simp only [e4]
   rw [e1] at this ⊢
   simpa using this
  ·obtain ⟨x,c',e1,e2,e3,_,e4⟩:=get i hi
   simp only [e4]
   exact e3
  ·obtain ⟨x,c',e1,e2,e3,e5,e4⟩:=get i hi
   simp only [e4]
   exact fun e=>e5 g e rfl
  ·obtain ⟨x,c',e1,e2,e3,_,e4⟩:=get i hi
   obtain ⟨y,d',f1,f2,f3,_,f4⟩:=get j hj
   simp only [e4] at e
   simp only [f4]
   rcases Nat.lt_trichotomy i j with h' | h' | h'
   ·exact h.ap i j h' x y e2 f2 q e
   ·exact yP h' k
   ·exact fun e'=>h.ap j i h' y x f2 e2 q e' e
def zDc (k:Nat) (ms:List zF):Nat->List JZ
 | 0=>[]
 | j+1=>if k/2 ^ j%2=1 then zDc k ms j++[(atM ms j).n] else zDc k ms j
def zEN (k n i:Nat) (xa:List OpR):Nat->List OpR
 | 0=>[]
 | j+1=>if j%n=i\/(240<=k/\j%n=0) then zEN k n i xa j++[atO xa j] else zEN k n i xa j
def zF6 (bs:List UInt8) (n i:Nat) (xa:List OpR) (p:Nat):List OpR×Nat:=
 if 0<i/\nxt bs p%32=31 then (zEN (nxt bs p) n i xa xa.length++[zBD (nxt bs (adv bs p)) (nxt bs (adv bs (adv bs p))) true],adv bs (adv bs (adv bs p)))
 else (zEN (nxt bs p) n i xa xa.length,adv bs p)
def zKN (bs:List UInt8) (ws:List JZ) (q:Nat):ByteArray:=(zAS bs ws q ws.length).1++zEF (nxt bs (zAS bs ws q ws.length).2)
def zP2 (bs:List UInt8) (ws:List JZ) (q:Nat):Nat:=adv bs (zAS bs ws q ws.length).2
def zOQ (bs:List UInt8) (n:Nat) (xa:List OpR) (i:Nat) (ms:List zF) (p:Nat) (m:zF) (q:Nat):Prop:=
 ∃ (hd:JZ) (tabs:List (List OpR)) (c H:Int) (ws:List JZ) (q1:Nat) (tx:JZ) (out:List (List zD)) (bad who2:Int),
  hd=zH1 (nxt bs (zF6 bs n i xa p).2) (zDc (nxt bs p) ms i) (zF6 bs n i xa p).1/\zz (ms++[⟨zDE i,hd⟩]) tabs c H /\
  zMu bs (if c=0 then zBQ tabs i else []) (adv bs (zF6 bs n i xa p).2) ws q1 /\
  ((c=0/\tx=hd++zKN bs ws q1/\q=zP2 bs ws q1)\/(c≠0/\tx=⟨#[98,101,103,105,110,10,97]⟩/\q=adv bs (zF6 bs n i xa p).2)) /\
  zBv (ms++[⟨zDE i,tx⟩]) out bad who2 /\
  ((bad=0/\m=⟨zDE i,tx⟩)\/(bad≠0/\∃ h,zIo tx OpR.zero OpR.zero h/\m=⟨zDE i,h++⟨#[49]⟩⟩))
def zFv (bs:List UInt8) (n:Nat) (xa:List OpR) (p0:Nat):Nat->List zF->Nat->Prop
 | 0,ms,p=>ms=[]/\p=p0
 | i+1,ms,p=>∃ ms0 p1 m,zFv bs n xa p0 i ms0 p1/\zOQ bs n xa i ms0 p1 m p/\ms=ms0++[m]
def zM0 (bs:List UInt8) (p:Nat) (ms:List zF) (q:Nat):Prop:=
 ∃ xa q1,zCa bs (adv bs (adv bs p)) (3+nxt bs (adv bs p)%8) xa q1/\zFv bs (1+nxt bs p%4) xa q1 (1+nxt bs p%4) ms q
def zY (zs:List zF):List Value:=zs.flatMap fun o=>[.string o.n,.string o.t]
theorem zAr (xs ys:List zF):zY (xs++ys)=zY xs++zY ys:=by simp [zY]
theorem zC4:∀ zs:List zF,(zY zs).length=zs.length*2
 | []=>rfl
 | o::r=>by
  have:=zC4 r
  simp only [zY,List.flatMap_cons,ym,yv,yW] at *
  omega
theorem zFR:∀ (zs:List zF) (i:Nat),i<zs.length->(zY zs)[i*2]?=some (.string (atM zs i).n)/\(zY zs)[i*2+1]?=some (.string (atM zs i).t)
 | [],i,h=>yP h (yt i)
 | o::r,0,_=>⟨rfl,rfl⟩
 | o::r,i+1,h=>by
  have ih:=zFR r i (by simpa using h)
  have e:∀ j,(zY (o::r))[(i+1)*2+j]?=(zY r)[i*2+j]?:=fun j=>by
   have:(i+1)*2+j=(i*2+j)+2:=by omega
   rw [this]
   rfl
  exact ⟨(e 0).trans ih.1,(e 1).trans ih.2⟩
theorem Z9 (zs:List zF):∀ u∈zY zs,u.oneCell'=true:=by
 intro u hu
 simp only [zY,List.mem_flatMap] at hu
 obtain ⟨o,_,ho⟩:=hu
 simp at ho
 rcases ho with rfl | rfl <;> rfl
theorem zEO:∀ (zs:List zF) (i:Nat) (s:JZ),i<zs.length->(zY zs).set (i*2) (.string s)=zY (zs.set i ⟨s,(atM zs i).t⟩)/\(zY zs).set (i*2+1) (.string s)=zY (zs.set i ⟨(atM zs i).n,s⟩)
 | [],i,_,h=>yP h (yt i)
 | o::r,0,s,_=>⟨rfl,rfl⟩
 | o::r,i+1,s,h=>by
  obtain ⟨h1,h2⟩:=zEO r i s (by simpa using h)
  have e:∀ (j:Nat) (v:Value),(zY (o::r)).set ((i+1)*2+j) v = .string o.n :: .string o.t::(zY r).set (i*2+j) v:=fun j v=>by
   have:(i+1)*2+j=(i*2+j)+2:=by omega
   rw [this]
   rfl
  have a:atM (o::r) (i+1)=atM r i:=rfl
  exact ⟨(e 0 _).trans (by rw [Nat.add_zero,h1,a]; rfl),(e 1 _).trans (by rw [h2,a]; rfl)⟩
theorem zBT {b H:Nat} {xs:List zF} (h:zJ9 w b H xs):∀ j u,(zY xs)[j]?=some u->w.cell? ((⟨b,H,none⟩:Addr).add j)=some u:=by
 intro j u hj
 have k:j<xs.length*2:=by
  rw [<- zC4]
  exact (yX.1 hj).1
 rw [Addr.add_mid]
 have hi:j/2<xs.length:=by omega
 obtain ⟨a0,a1⟩:=h (j/2) hi
 obtain ⟨c0,c1⟩:=zFR xs (j/2) hi
 rcases (by omega:j%2=0\/j%2=1) with e | e
 ·have ej:j=j/2*2:=by omega
  rw [ej] at hj ⊢
  rw [c0] at hj
  rw [<- hj]
  exact a0
 ·have ej:j=j/2*2+1:=by omega
  rw [ej] at hj ⊢
  rw [c1] at hj
  rw [<- hj]
  exact a1
def ZH (w:JY) (B:Nat) (v:Value) (ms:List zF):Prop:=w.ownsRow B 29 2 v ms.length (zY ms)
theorem ZH.grown {u:Value} {us:List zF} {row:Option Nat} (h:ZH w B u us) (hg:w.grownBy w' row) (H:∀ k,u.ownBlock=some k->row≠some k):ZH w' B u us:=
 World.ownsRow.kept h hg (by
  cases e:u.ownBlock with
  | none=>exact yQ rfl
  | some k=>exact yR (fun x=>H k e x.symm))
theorem ZH.below {u:Value} {us:List zF} (h:ZH w B u us) (hb:Below w.heap.size w w'):ZH w' B u us:=
 h.grown (row:=none) (zH hb none) (fun k _ e=>by cases e)
theorem ZH.lt {w:JY} {B:Nat} {u:Value} {us:List zF} (h:ZH w B u us):∀ g,u.ownBlock=some g->B<=g/\g<w.heap.size:=fun g hg=>World.ownsRow.lt h g hg
theorem ZH.ops {us:List zF} (h:ZH w B (.slice (some ⟨g,0,none⟩) us.length c) us):zJ9 w g 0 us:=fun i hi=>by
 obtain ⟨c0,c1⟩:=zFR us i hi
 have e:=fun j (hj:j<2)=>World.ownsRow.cellAt h (i*2+j) (by omega)
 exact ⟨by simpa using (e 0 (by omega)).trans c0,by simpa using (e 1 (by omega)).trans c1⟩
theorem ZH.has {us:List zF} (h:ZH w B v us) (h1:1<=us.length):∃ g c,v = .slice (some ⟨g,0,none⟩) us.length c:=by
 obtain ⟨_,⟨_,h0⟩ | ⟨g,cap,H,hv,_⟩⟩:=h
 ·omega
 ·exact ⟨g,cap,hv⟩
theorem ZH.arg {us:List zF} (h:ZH w B (.slice (some ⟨g,0,none⟩) us.length c) us):zEJ w (some ⟨g,0,none⟩) us:=
 yR ⟨g,0,rfl,h.ops,(h.lt g rfl).2⟩
theorem ZH.nil (hB:B<=w.heap.size):ZH (w.alloc (.cells #[] 29)) B (.slice (some ⟨w.heap.size,0,none⟩) 0 0) []:=by
 have:=yD (base:=B) (e:=29) (size:=2) w #[] 0 hB (yj _) rfl
 simpa [ZH,zY] using this
theorem ZH.setT {us:List zF} (h:ZH w B (.slice (some ⟨g,0,none⟩) us.length c) us) (hi:i<us.length) (s:JZ):ZH (w.setCell ⟨g,i*2+1,none⟩ (.string s)) B (.slice (some ⟨g,0,none⟩) us.length c) (us.set i ⟨(atM us i).n,s⟩):=by
 have:=(World.ownsRow.stored h (i*2+1) (.string s)).1
 rw [(zEO us i s hi).2] at this
 unfold ZH
 rw [List.length_set]
 exact this
theorem ZH.setN {us:List zF} (h:ZH w B (.slice (some ⟨g,0,none⟩) us.length c) us) (hi:i<us.length) (s:JZ):ZH (w.setCell ⟨g,i*2,none⟩ (.string s)) B (.slice (some ⟨g,0,none⟩) us.length c) (us.set i ⟨s,(atM us i).t⟩):=by
 have:=(World.ownsRow.stored h (i*2) (.string s)).1
 rw [(zEO us i s hi).1] at this
 unfold ZH
 rw [List.length_set]
 exact this
theorem Z6 (w:JY) (o:zF):∀ j u,(zY [o])[j]?=some u->(w.alloc (.cells #[.string o.n,.string o.t] 29)).cell? ((⟨w.heap.size,0,none⟩:Addr).add j)=some u:=by
 intro j u hj
 rw [Addr.add_mid]
 have:=yz (w:=w.alloc (.cells #[.string o.n,.string o.t] 29)) (b:=w.heap.size) (heap_alloc_new w _) 0 2
 exact this j u (by simpa [zY] using hj)
theorem zEP:(Tryz.prog.info? 29).map (fun i=>(i.zero,i.size,i.bytes))=some (some (.agg #[.string ⟨#[]⟩,.string ⟨#[]⟩]),2,32):=by kernel_rfl
theorem zP3 {m:zF}:atM (ms++[m]) i=if i<ms.length then atM ms i else if i=ms.length then m else zF.zero:=by
 unfold atM
 simp only [yk,List.getElem?_append]
 split
 ·rfl
 ·rename_i h
  split
  ·rename_i e; subst e; simp
  ·rename_i e
   rw [List.getElem?_eq_none (by simp; omega)]
   rfl
theorem zMS {m:zF} {j:Nat} (hi:i<ms.length):atM (ms.set i m) j=if j=i then m else atM ms j:=by
 unfold atM
 simp only [yk,List.getElem?_set]
 by_cases e:i=j
 ·subst e; simp [hi]
 ·rw [yN e,yN (fun x=>e x.symm)]
end Go.Proofs.YtgbkgkdpdfdokaaGreatDoor
