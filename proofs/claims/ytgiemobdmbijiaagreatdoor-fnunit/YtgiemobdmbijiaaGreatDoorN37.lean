import Derived.Test.YtgiemobdmbijiaaGreatDoorN11
import Derived.Test.YtgiemobdmbijiaaGreatDoorN12
import Derived.Test.YtgiemobdmbijiaaGreatDoorN21
import Derived.Test.YtgiemobdmbijiaaGreatDoorN36
namespace Go.Proofs.YtgiemobdmbijiaaGreatDoor
set_option linter.unusedSimpArgs false
set_option linter.unusedVariables false
set_option maxHeartbeats 16000000
set_option maxRecDepth 100000
open Go.RowKit
def BE (w:World) (B b off gt ot gr:Nat) (xs:List OpR) (ts:List zT) (us:List Int):Prop:=Ops w b off xs /\ b < B /\ zEP w gt ot ts /\ gt < B /\ zM1 w gr us /\ gr < B /\ B <= w.heap.size
theorem BE.grown {w w':World} {B b off gt ot gr:Nat} {xs:List OpR} {ts:List zT} {us:List Int} {row:Option Nat} (h:BE w B b off gt ot gr xs ts us) (hg:w.grownBy w' row) (hr:∀ k,row = some k -> B <= k):BE w' B b off gt ot gr xs ts us:=by
 obtain ⟨h1,h2,h3,h4,h5,h6,h7⟩:=h
 have c:∀ q,q < B -> ∀ o,w'.cell? ⟨q,o,none⟩ = w.cell? ⟨q,o,none⟩:=fun q hq o=>zE hg (b:=q) (by omega) (fun e=>by have:=hr _ e; omega) o
 refine ⟨zB8 h1 hg h2 h7 hr,h2,fun i hi=>?_,h4,⟨Nat.lt_of_lt_of_le h5.1 hg.size,fun i hi=>(c _ h6 _).trans (h5.2 i hi)⟩,h6,Nat.le_trans h7 hg.size⟩
 obtain ⟨a0,a1,a2⟩:=h3 i hi
 exact ⟨(c _ h4 _).trans a0,(c _ h4 _).trans a1,(c _ h4 _).trans a2⟩
theorem BE.below {w w':World} {B b off gt ot gr:Nat} {xs:List OpR} {ts:List zT} {us:List Int} (h:BE w B b off gt ot gr xs ts us) (hb:Below w.heap.size w w'):BE w' B b off gt ot gr xs ts us:=h.grown (zO hb none) (fun k hk=>by cases hk)
structure TF (xs:List OpR) (ts:List zT) (us:List Int):Prop where
 len:ts.length <= 100000
 us:us = Zn xs ts ts.length
 all:∀ i,i < ts.length -> TkF xs ts i /\ 1 <= (atT ts i).k /\ (atT ts i).k <= 7 /\ (atT ts i).k ≠ 6
def Zz (w:World) (B:Nat) (u:Value) (us:List zD) (r:Option ET) (m:Nat) (x:Ending) (w':World):Prop:=
 ∃ u' vs ok,x = .returned (.tuple #[u',.bool ok]) /\ Hid (zr w' B u' vs) /\ Hid (w.grownBy w' u.ownBlock) /\ Hid (u'.ownBlock = u.ownBlock \/ ∃ k,u'.ownBlock = some k /\ w.heap.size <= k) /\ vs.length <= us.length + m /\
  Hid ((∃ T,r = some T /\ ok = true /\ vs = us ++ nd T us.length) \/ (r = none /\ ok = false))
theorem zAk {b off cap gt ot ct gr cr lo hi:Nat} {xs:List OpR} {ts:List zT} {us:List Int} {w:World} {B:Nat} (hm:xs.length <= 1048576) (hE:BE w B b off gt ot gr xs ts us) (hF:TF xs ts us) (hlo:lo <= hi) (hhi:hi <= ts.length) {R:Int} (hR:zBu (rtF xs (sgs xs ts lo (hi - lo)) lo 0 none) = R) :
  Calls Tryz.prog 117 #[.agg #[.slice (some ⟨b,off,none⟩) xs.length cap],.slice (some ⟨gt,ot,none⟩) ts.length ct,.slice (some ⟨gr,0,none⟩) us.length cr,.int .i64 (lo:Int),.int .i64 (hi:Int)] (w.alloc (.cells #[.slice (some ⟨b,off,none⟩) xs.length cap] 55)) fun e w'=>e = .returned (.int .i64 R) /\ Below (w.alloc (.cells #[.slice (some ⟨b,off,none⟩) xs.length cap] 55)).heap.size (w.alloc (.cells #[.slice (some ⟨b,off,none⟩) xs.length cap] 55)) w':=by
 obtain ⟨h1,h2,h3,h4,h5,h6,h7⟩:=hE.below (zC w (.cells #[.slice (some ⟨b,off,none⟩) xs.length cap] 55))
 rw [<- hR]
 exact zKK b off cap gt ot ct gr cr lo hi xs ts us _ hm h1 (by omega) h3 (by omega) h5 hF.us hF.len hlo hhi hF.all
theorem zOG (b off cap gt ot ct gr cr lo hi:Nat) (xs:List OpR) (ts:List zT) (us:List Int) (B:Nat) (u:Value) (ns:List zD) (w:World) (hm:xs.length <= 1048576) (hE:BE w B b off gt ot gr xs ts us) (hF:TF xs ts us) (hlo:lo < hi) (hhi:hi <= ts.length) (hR:zBu (rtF xs (sgs xs ts lo (hi - lo)) lo 0 none) = -1)
  (hrow:zr w B u ns) (hlen:ns.length <= 90000) (hk:(atT ts lo).k = 1 \/ (atT ts lo).k = 2) {T:ET} (hT:T = .node (atT ts lo).k.toNat 0 (atT ts lo).t .nil .nil) (hsz:1 <= hi - lo) :
  Calls Tryz.prog 87 #[.agg #[.slice (some ⟨b,off,none⟩) xs.length cap],.slice (some ⟨gt,ot,none⟩) ts.length ct,.slice (some ⟨gr,0,none⟩) us.length cr,.int .i64 (lo:Int),.int .i64 (hi:Int),u] w (Zz w B u ns (some T) (hi - lo)):=by
 obtain ⟨i0,hi0,hz0,hz1,hz2⟩:=zQ zCW
 have HI:=zB hi0
 have HZ:=zB (And.intro hz0 (And.intro hz1 hz2))
 clear hi0 hz0 hz1 hz2
 have HX:=zAk (cap:=cap) (ct:=ct) (cr:=cr) hm hE hF (by omega) hhi hR
 have hloI:(lo:Int) < (ts.length:Int):=by omega
 have HND:=zB (show nd T ns.length = [⟨(atT ts lo).k,(atT ts lo).t,0,0⟩] by
  rw [hT]
  rcases hk with e | e <;> rw [e] <;> rfl)
 obtain ⟨h1,h2,h3,h4,h5,h6,h7⟩:=hE
 obtain ⟨k0,k1,k2⟩:=h3 lo (by omega)
 have hB1:=zC w (.cells #[.slice (some ⟨b,off,none⟩) xs.length cap] 55)
 have HROW:=zB hrow
 have HUB:=zB hrow.base
 obtain ⟨a0,c0,hu⟩:=ZJ hrow
 have hw4:gt < w.heap.size:=by omega
 clear hrow h1 h3 h5 hT hF hR
 subst hu
 obtain ⟨u,hu⟩:∃ u,u = Value.slice a0 ns.length c0:=⟨_,rfl⟩
 have HPU:=zB (show Zz w B (Value.slice a0 ns.length c0) ns (some T) (hi - lo) = Zz w B u ns (some T) (hi - lo) by rw [hu])
 rw [zA HPU]
 have HUE:=zB hu
 clear hu HPU
 go_enter Tryz.func87,Tryz.ntmps87
 go_wp2_with fail
 refine HX.mono ?_
 clear HX
 rintro e w1 ⟨rfl,hb1⟩
 have bel1:Below w.heap.size w w1:=hB1.trans (hb1.mono hB1.size)
 have z1:w.heap.size + 1 <= w1.heap.size:=by have:=hb1.size; simp at this; omega
 replace k0:=(bel1.cell (p:=⟨gt,ot + lo * 3,none⟩) hw4).trans k0
 replace k2:=(bel1.cell (p:=⟨gt,ot + lo * 3 + 2,none⟩) hw4).trans k2
 have hgl:gt < w1.heap.size:=by omega
 have hgn:gt ≠ w1.heap.size:=by omega
 clear hb1 k1 hB1
 rcases hk with hk | hk
 ·have e4:((atT ts lo).k == 4) = false:=by rw [hk]; rfl
  have e2:((atT ts lo).k == 2) = false:=by rw [hk]; rfl
  have HROW1:=zB ((zA HROW).below bel1)
  have HB2:=zB (show Below w.heap.size w ((w1.alloc (.cells #[.int .i64 1,.string (atT ts lo).t,.int .i64 0,.int .i64 0] 120))) from bel1.alloc bel1.size _)
  rw [hk] at HND
  clear hk HROW
  go_wp2_with (at_builtin; refine wpList_append_own_at _ rfl (.tmp 65) (.tmp 67) 95 rfl B 120 i0 _ 4 40 Tryz.underlying95 (zA HI) (zA HZ).1 (zA HZ).2.1 (zA HZ).2.2 rfl (by decide) _ ns.length (zM ns) rfl (((zA HROW1).below (zC _ _)).below (zC _ _)) ⟨w1.heap.size + 1,0,none⟩ 1 1 (zM [⟨1,(atT ts lo).t,0,0⟩]) rfl rfl (by simpa using Zc (w1.alloc (.cells #[.int .i64 1,.string (atT ts lo).t,.int .i64 0,.int .i64 0] 120)) (w1.heap.size + 1) ⟨1,(atT ts lo).t,0,0⟩ (by simp)) (zR _) ?b1 ?b2 ?b3 ?next)
  case b1=>unfold maxLen; omega
  case b2=>omega
  case b3=>first | omega | (simp; omega)
  case next=>
   intro v4 w4 hown4 hgrow4 hnil4 hat4
   have HR4:=zB (show zr w4 B v4 (ns ++ nd T ns.length) by
    rw [zA HND]
    unfold zr
    rw [zi,List.length_append]
    exact hown4)
   have HG4:=zB (show w.grownBy w4 u.ownBlock by rw [zA HUE]; exact zc ((zA HB2).alloc (zA HB2).size _) hgrow4)
   have HA4:=zB (show v4.ownBlock = u.ownBlock \/ ∃ k,v4.ownBlock = some k /\ w.heap.size <= k by rw [zA HUE]; exact hat4.imp id (fun h=>⟨_,h,by have:=bel1.size; first | omega | (simp; omega)⟩))
   clear hown4 hgrow4 hnil4 hat4
   go_wp2_with fail
   refine bodyPost_ret (v:=.tuple #[v4,.bool true]) (by simp [results,Tryz.results87,go_sem]) rfl ⟨v4,ns ++ nd T ns.length,true,rfl,HR4,HG4,HA4,?_,zB (Or.inl ⟨T,rfl,rfl,rfl⟩)⟩
   rw [zA HND,List.length_append,List.length_singleton]
   omega
 ·have e4:((atT ts lo).k == 4) = false:=by rw [hk]; rfl
  have e2:((atT ts lo).k == 2) = true:=by rw [hk]; rfl
  have HROW1:=zB ((zA HROW).below bel1)
  have HB2:=zB (show Below w.heap.size w ((w1.alloc (.cells #[.int .i64 2,.string (atT ts lo).t,.int .i64 0,.int .i64 0] 120))) from bel1.alloc bel1.size _)
  rw [hk] at HND
  clear hk HROW
  go_wp2_with (at_builtin; refine wpList_append_own_at _ rfl (.tmp 65) (.tmp 67) 95 rfl B 120 i0 _ 4 40 Tryz.underlying95 (zA HI) (zA HZ).1 (zA HZ).2.1 (zA HZ).2.2 rfl (by decide) _ ns.length (zM ns) rfl (((zA HROW1).below (zC _ _)).below (zC _ _)) ⟨w1.heap.size + 1,0,none⟩ 1 1 (zM [⟨2,(atT ts lo).t,0,0⟩]) rfl rfl (by simpa using Zc (w1.alloc (.cells #[.int .i64 2,.string (atT ts lo).t,.int .i64 0,.int .i64 0] 120)) (w1.heap.size + 1) ⟨2,(atT ts lo).t,0,0⟩ (by simp)) (zR _) ?b1 ?b2 ?b3 ?next)
  case b1=>unfold maxLen; omega
  case b2=>omega
  case b3=>first | omega | (simp; omega)
  case next=>
   intro v4 w4 hown4 hgrow4 hnil4 hat4
   have HR4:=zB (show zr w4 B v4 (ns ++ nd T ns.length) by
    rw [zA HND]
    unfold zr
    rw [zi,List.length_append]
    exact hown4)
   have HG4:=zB (show w.grownBy w4 u.ownBlock by rw [zA HUE]; exact zc ((zA HB2).alloc (zA HB2).size _) hgrow4)
   have HA4:=zB (show v4.ownBlock = u.ownBlock \/ ∃ k,v4.ownBlock = some k /\ w.heap.size <= k by rw [zA HUE]; exact hat4.imp id (fun h=>⟨_,h,by have:=bel1.size; first | omega | (simp; omega)⟩))
   clear hown4 hgrow4 hnil4 hat4
   go_wp2_with fail
   refine bodyPost_ret (v:=.tuple #[v4,.bool true]) (by simp [results,Tryz.results87,go_sem]) rfl ⟨v4,ns ++ nd T ns.length,true,rfl,HR4,HG4,HA4,?_,zB (Or.inl ⟨T,rfl,rfl,rfl⟩)⟩
   rw [zA HND,List.length_append,List.length_singleton]
   omega
theorem zKL {b:Nat} (hk:zY (b:Int) = 1) (t:ByteArray) (T:ET) (ns:List zD):ns ++ nd (.node b 0 t T .nil) ns.length = (ns ++ nd T ns.length) ++ [⟨(b:Int),t,((ns ++ nd T ns.length).length:Int) - 1,0⟩]:=by
 simp only [nd,tN,hk,List.length_append,ZI]
 simp
theorem zPL (t:ByteArray) (L R:ET) (ns:List zD):ns ++ nd (.node 4 0 t L R) ns.length = ((ns ++ nd L ns.length) ++ nd R (ns ++ nd L ns.length).length) ++ [⟨4,t,((ns ++ nd L ns.length).length:Int) - 1,(((ns ++ nd L ns.length) ++ nd R (ns ++ nd L ns.length).length).length:Int) - 1⟩]:=by
 have hk:zY ((4:Nat):Int) = 2:=rfl
 simp only [nd,tN,hk,List.length_append,ZI]
 simp
theorem zM2 (b off cap gt ot ct gr cr lo hi:Nat) (xs:List OpR) (ts:List zT) (us:List Int) (B:Nat) (u:Value) (ns:List zD) (w:World) (hm:xs.length <= 1048576) (hE:BE w B b off gt ot gr xs ts us) (hF:TF xs ts us) (hlo:lo + 2 <= hi) (hhi:hi <= ts.length) (hR:zBu (rtF xs (sgs xs ts lo (hi - lo)) lo 0 none) = -1)
  (hrow:zr w B u ns) (hlen:ns.length + (hi - lo) <= 90000) (hk:(atT ts lo).k = 4) (r1:Option ET)
  (hc:∀ W,BE W B b off gt ot gr xs ts us -> zr W B u ns -> Calls Tryz.prog 87 #[.agg #[.slice (some ⟨b,off,none⟩) xs.length cap],.slice (some ⟨gt,ot,none⟩) ts.length ct,.slice (some ⟨gr,0,none⟩) us.length cr,.int .i64 ((lo:Int) + 1),.int .i64 ((hi:Int) - 1),u] W (Zz W B u ns r1 (hi - lo - 2))) :
  Calls Tryz.prog 87 #[.agg #[.slice (some ⟨b,off,none⟩) xs.length cap],.slice (some ⟨gt,ot,none⟩) ts.length ct,.slice (some ⟨gr,0,none⟩) us.length cr,.int .i64 (lo:Int),.int .i64 (hi:Int),u] w (Zz w B u ns (r1.map (fun T=>.node 6 0 ByteArray.empty T .nil)) (hi - lo)):=by
 obtain ⟨i0,hi0,hz0,hz1,hz2⟩:=zQ zCW
 have HI:=zB hi0
 have HZ:=zB (And.intro hz0 (And.intro hz1 hz2))
 clear hi0 hz0 hz1 hz2
 have HX:=zAk (cap:=cap) (ct:=ct) (cr:=cr) hm hE hF (by omega) hhi hR
 have hloI:(lo:Int) < (ts.length:Int):=by omega
 have hln:ts.length <= 100000:=hF.len
 have HE:=zB hE
 obtain ⟨h1,h2,h3,h4,h5,h6,h7⟩:=hE
 obtain ⟨k0,k1,k2⟩:=h3 lo (by omega)
 have hB1:=zC w (.cells #[.slice (some ⟨b,off,none⟩) xs.length cap] 55)
 have HROW:=zB hrow
 have HUB:=zB hrow.base
 have HC:=zB hc
 have hw4:gt < w.heap.size:=by omega
 have e4:((atT ts lo).k == 4) = true:=by rw [hk]; rfl
 clear hrow h1 h3 h5 hF hR hc hk
 go_enter Tryz.func87,Tryz.ntmps87
 go_wp2_with fail
 refine HX.mono ?_
 clear HX
 rintro e w1 ⟨rfl,hb1⟩
 have bel1:Below w.heap.size w w1:=hB1.trans (hb1.mono hB1.size)
 have z1:w.heap.size + 1 <= w1.heap.size:=by have:=hb1.size; simp at this; omega
 have t1:w1.cell? ⟨w.heap.size,0,none⟩ = some (.slice (some ⟨b,off,none⟩) xs.length cap):=(hb1.cell (p:=⟨w.heap.size,0,none⟩) (by simp)).trans (by simp [go_sem])
 replace k0:=(bel1.cell (p:=⟨gt,ot + lo * 3,none⟩) hw4).trans k0
 have HX:=(zA HC) w1 ((zA HE).below bel1) ((zA HROW).below bel1)
 clear hb1 k1 k2 hB1 HC
 go_wp2_with fail
 refine HX.mono ?_
 clear HX
 rintro e w2 ⟨u1,vs1,ok,rfl,HR2,HG2,HA2,hl2,HO2⟩
 obtain ⟨a1,c1,rfl⟩:=ZJ (zA HR2)
 have HG:=zB (zc bel1 (zA HG2))
 have HA:=zB (show (Value.slice a1 vs1.length c1).ownBlock = u.ownBlock \/ ∃ k,(Value.slice a1 vs1.length c1).ownBlock = some k /\ w.heap.size <= k from (zA HA2).imp id (fun ⟨k,h,h'⟩=>⟨k,h,by omega⟩))
 have z2:=(zA HG2).size
 clear HG2 HA2 t1 k0
 go_wp2_with (at_builtin; refine wpList_append_own_at _ rfl (.tmp 44) (.tmp 49) 95 rfl B 120 i0 _ 4 40 Tryz.underlying95 (zA HI) (zA HZ).1 (zA HZ).2.1 (zA HZ).2.2 rfl (by decide) _ vs1.length (zM vs1) rfl ((zA HR2).below (zC _ _)) ⟨w2.heap.size,0,none⟩ 1 1 (zM [⟨6,⟨#[]⟩,(vs1.length:Int) - 1,0⟩]) rfl rfl (by simpa using ZD w2 ⟨6,⟨#[]⟩,(vs1.length:Int) - 1,0⟩) (zR _) ?b1 ?b2 ?b3 ?next)
 case b1=>unfold maxLen; omega
 case b2=>omega
 case b3=>first | omega | (simp; omega)
 case next=>
  intro v4 w4 hown4 hgrow4 hnil4 hat4
  have HR4:=zB (show zr w4 B v4 (vs1 ++ [⟨6,⟨#[]⟩,(vs1.length:Int) - 1,0⟩]) by
   unfold zr
   rw [zi,List.length_append]
   exact hown4)
  have HG4:=zB (zP (zA HG) (zc (zC w2 _) hgrow4) (zA HA))
  have HA4:=zB (Z9 (zA HG) (zA HA) v4.ownBlock (hat4.imp id (fun h=>⟨_,h,by first | exact Nat.le_refl _ | simp⟩)))
  clear hown4 hgrow4 hnil4 hat4
  go_wp2_with fail
  refine bodyPost_ret (v:=.tuple #[v4,.bool ok]) (by simp [results,Tryz.results87,go_sem]) rfl ⟨v4,_,ok,rfl,HR4,HG4,HA4,?_,zB ?_⟩
  ·rw [List.length_append,List.length_singleton]
   omega
  ·rcases zA HO2 with ⟨T,rfl,rfl,rfl⟩ | ⟨rfl,rfl⟩
   ·exact Or.inl ⟨_,rfl,rfl,(zKL (b:=6) rfl ByteArray.empty T ns).symm⟩
   ·exact Or.inr ⟨rfl,rfl⟩
theorem zEn (b off cap bn offn cn i:Nat) (xs:List OpR) (ns:List zD) (w:World) (hm:xs.length <= 1048576) (hmn:ns.length <= 1048576) (hw:Ops w b off xs) (hsz:Zs xs) (hB:b < w.heap.size) (hwn:zAs w bn offn ns) (hBn:bn < w.heap.size) (hi:i < ns.length) (ho:zAo (atN ns i)) (j:Nat) (hf:fnd xs (atN ns i).t ((atN ns i).k - 2) = some j) (ka kb:Nat) (hka:(atN ns i).a = (ka:Int)) (hkb:(atN ns i).b = (kb:Int)) (hkal:ka < ns.length) (hkbl:kb < ns.length) (hkk:zY (atN ns i).k = 1 \/ zY (atN ns i).k = 2) (hknA:3 <= (atN ns ka).k -> (atN ns ka).k <= 5 -> fnd xs (atN ns ka).t ((atN ns ka).k - 2) ≠ none) (hknB:zY (atN ns i).k = 2 -> 3 <= (atN ns kb).k -> (atN ns kb).k <= 5 -> fnd xs (atN ns kb).t ((atN ns kb).k - 2) ≠ none) :
  Calls Tryz.prog 118 #[.agg #[.slice (some ⟨b,off,none⟩) xs.length cap],.slice (some ⟨bn,offn,none⟩) ns.length cn,.int .i64 (i:Int)] w fun e w'=>zHb e (zFi xs ns i) /\ Below w.heap.size w w':=by
 have hiI:(i:Int) < (ns.length:Int):=by omega
 obtain ⟨h0,h1,h2,h3⟩:=hwn i hi
 have HW:=zB hw
 have HWN:=zB hwn
 have HZ:=zB hsz
 have hj:=(zA0 hf).1
 have HIF:=zB (show zFi xs ns i ↔ zDN xs j false <= Z2 xs (atN ns ka) /\ (zY (atN ns i).k = 1 \/ zDN xs j true <= Z2 xs (atN ns kb)) by
  rw [zFv ho hf,hka,hkb]; simp)
 have HD:=zB (show true = decide (3 <= (atN ns i).k /\ (atN ns i).k <= 5) by rw [eq_comm,decide_eq_true_iff]; exact ho)
 have HF:=zB hf
 have h3k:=ho.1
 have h5k:=ho.2
 have HKA:=zB hknA
 have HKB2:=zB hknB
 have HSJ:=zB (hsz j hj)
 rw [hka] at h2
 rw [hkb] at h3
 have hkaI:(ka:Int) < (ns.length:Int):=by omega
 have hkbI:(kb:Int) < (ns.length:Int):=by omega
 clear hw hwn hsz ho hka hkb hf hknA hknB
 go_enter Tryz.func118,Tryz.ntmps118
 go_wp2_with fail
 refine (zAK ⟨(atN ns i).k,(atN ns i).t,(ka:Int),(kb:Int)⟩ _ true (zA HD)).mono ?_
 rintro e w1 ⟨rfl,hb1⟩
 have bel1:Below w.heap.size w w1:=((zC _ _).alloc (by simp) _).trans (hb1.mono (by simp; omega))
 have HC1:=zB (show Cs [(w.heap.size,0,.slice (some ⟨b,off,none⟩) xs.length cap),(w.heap.size + 1,0,.int .i64 (atN ns i).k),(w.heap.size + 1,1,.string (atN ns i).t),(w.heap.size + 1,2,.int .i64 (ka:Int)),(w.heap.size + 1,3,.int .i64 (kb:Int))] w1 from fun p hp=>by
  simp only [List.mem_cons,List.not_mem_nil,or_false] at hp
  rcases hp with rfl | rfl | rfl | rfl | rfl
  ·exact (hb1.cell (p:=⟨w.heap.size,0,none⟩) (by simp; omega)).trans (by simp [go_sem])
  ·exact (hb1.cell (p:=⟨w.heap.size + 1,0,none⟩) (by simp)).trans (by simp [go_sem])
  ·exact (hb1.cell (p:=⟨w.heap.size + 1,1,none⟩) (by simp)).trans (by simp [go_sem])
  ·exact (hb1.cell (p:=⟨w.heap.size + 1,2,none⟩) (by simp)).trans (by simp [go_sem])
  ·exact (hb1.cell (p:=⟨w.heap.size + 1,3,none⟩) (by simp)).trans (by simp [go_sem]))
 clear hb1
 have c0:=(zA HC1) (w.heap.size,0,.slice (some ⟨b,off,none⟩) xs.length cap) (by simp)
 have d0:=(zA HC1) (w.heap.size + 1,0,.int .i64 (atN ns i).k) (by simp)
 have d1:=(zA HC1) (w.heap.size + 1,1,.string (atN ns i).t) (by simp)
 have d2:=(zA HC1) (w.heap.size + 1,2,.int .i64 (ka:Int)) (by simp)
 have d3:=(zA HC1) (w.heap.size + 1,3,.int .i64 (kb:Int)) (by simp)
 simp only at c0 d0 d1 d2 d3
 go_wp2_with fail
 refine (zCO b off cap xs ⟨(atN ns i).k,(atN ns i).t,(ka:Int),(kb:Int)⟩ j _ hm ((zA HW).below bel1 hB) (Nat.lt_of_lt_of_le hB bel1.size) h3k h5k (zA HF)).mono ?_
 rintro e w2 ⟨rfl,hb2⟩
 have bel2:=bel1.trans (hb2.mono bel1.size)
 have HC2:=zB ((zA HC1).below hb2)
 clear hb2 HC1 c0 d0 d1 d2 d3 bel1
 have HSC:=zB (show Cs [(w.heap.size,0,.slice (some ⟨b,off,none⟩) xs.length cap),(w.heap.size + 1,0,.int .i64 (atN ns i).k),(w.heap.size + 1,1,.string (atN ns i).t),(w.heap.size + 1,2,.int .i64 (ka:Int)),(w.heap.size + 1,3,.int .i64 (kb:Int)),(w2.heap.size,0,.string (atO xs j).s),(w2.heap.size,1,.int .i64 (atO xs j).k),(w2.heap.size,2,.int .i64 (atO xs j).l),(w2.heap.size,3,.int .i64 (atO xs j).sd),(bn,offn + ka * 4,.int .i64 (atN ns ka).k),(bn,offn + ka * 4 + 1,.string (atN ns ka).t),(bn,offn + ka * 4 + 2,.int .i64 (atN ns ka).a),(bn,offn + ka * 4 + 3,.int .i64 (atN ns ka).b),(bn,offn + kb * 4,.int .i64 (atN ns kb).k),(bn,offn + kb * 4 + 1,.string (atN ns kb).t),(bn,offn + kb * 4 + 2,.int .i64 (atN ns kb).a),(bn,offn + kb * 4 + 3,.int .i64 (atN ns kb).b)] (w2.alloc (.cells #[.string (atO xs j).s,.int .i64 (atO xs j).k,.int .i64 (atO xs j).l,.int .i64 (atO xs j).sd] 46)).drew from fun p hp=>by
  simp only [List.mem_cons,List.not_mem_nil,or_false] at hp
  have hold:Cs [(w.heap.size,0,.slice (some ⟨b,off,none⟩) xs.length cap),(w.heap.size + 1,0,.int .i64 (atN ns i).k),(w.heap.size + 1,1,.string (atN ns i).t),(w.heap.size + 1,2,.int .i64 (ka:Int)),(w.heap.size + 1,3,.int .i64 (kb:Int))] (w2.alloc (.cells #[.string (atO xs j).s,.int .i64 (atO xs j).k,.int .i64 (atO xs j).l,.int .i64 (atO xs j).sd] 46)).drew:=(zA HC2).below ((zC _ _).drew)
  have hna:=((zA HWN) ka hkal).below (bel2.trans (((zC w2 (.cells #[.string (atO xs j).s,.int .i64 (atO xs j).k,.int .i64 (atO xs j).l,.int .i64 (atO xs j).sd] 46)).drew).mono bel2.size)) hBn
  have hnb:=((zA HWN) kb hkbl).below (bel2.trans (((zC w2 (.cells #[.string (atO xs j).s,.int .i64 (atO xs j).k,.int .i64 (atO xs j).l,.int .i64 (atO xs j).sd] 46)).drew).mono bel2.size)) hBn
  rcases hp with rfl | rfl | rfl | rfl | rfl | rfl | rfl | rfl | rfl | rfl | rfl | rfl | rfl | rfl | rfl | rfl | rfl
  ·exact hold _ (by simp)
  ·exact hold _ (by simp)
  ·exact hold _ (by simp)
  ·exact hold _ (by simp)
  ·exact hold _ (by simp)
  ·exact (show (w2.alloc (.cells #[.string (atO xs j).s,.int .i64 (atO xs j).k,.int .i64 (atO xs j).l,.int .i64 (atO xs j).sd] 46)).cell? _ = _ by simp [go_sem])
  ·exact (show (w2.alloc (.cells #[.string (atO xs j).s,.int .i64 (atO xs j).k,.int .i64 (atO xs j).l,.int .i64 (atO xs j).sd] 46)).cell? _ = _ by simp [go_sem])
  ·exact (show (w2.alloc (.cells #[.string (atO xs j).s,.int .i64 (atO xs j).k,.int .i64 (atO xs j).l,.int .i64 (atO xs j).sd] 46)).cell? _ = _ by simp [go_sem])
  ·exact (show (w2.alloc (.cells #[.string (atO xs j).s,.int .i64 (atO xs j).k,.int .i64 (atO xs j).l,.int .i64 (atO xs j).sd] 46)).cell? _ = _ by simp [go_sem])
  ·exact hna.1
  ·exact hna.2.1
  ·exact hna.2.2.1
  ·exact hna.2.2.2
  ·exact hnb.1
  ·exact hnb.2.1
  ·exact hnb.2.2.1
  ·exact hnb.2.2.2)
 have HBC:=zB (show Below w.heap.size w (w2.alloc (.cells #[.string (atO xs j).s,.int .i64 (atO xs j).k,.int .i64 (atO xs j).l,.int .i64 (atO xs j).sd] 46)).drew from bel2.trans (((zC w2 (.cells #[.string (atO xs j).s,.int .i64 (atO xs j).k,.int .i64 (atO xs j).l,.int .i64 (atO xs j).sd] 46)).drew).mono bel2.size))
 clear HC2 bel2
 have HHF:=zB (show zDN xs j false = zAu (atO xs j).s (atO xs j).k (atO xs j).l (atO xs j).sd false from rfl)
 have HHT:=zB (show zDN xs j true = zAu (atO xs j).s (atO xs j).k (atO xs j).l (atO xs j).sd true from rfl)
 rw [zA HHF,zA HHT] at HIF
 clear HHF HHT
 by_cases hA:Z2 xs (atN ns ka) < zAu (atO xs j).s (atO xs j).k (atO xs j).l (atO xs j).sd false
 ·have HN:=zB (show ¬ zFi xs ns i from fun h=>by have:=((zA HIF).1 h).1; omega)
  clear HIF
  go_wp2_with fail
  go_region_held (fun w'=>w'.cell? ⟨w.heap.size,0,none⟩ = some (.slice (some ⟨b,off,none⟩) xs.length cap) /\ w'.cell? ⟨w.heap.size + 1,2,none⟩ = some (.int .i64 (ka:Int)) /\ w'.cell? ⟨w2.heap.size,0,none⟩ = some (.string (atO xs j).s) /\ w'.cell? ⟨w2.heap.size,1,none⟩ = some (.int .i64 (atO xs j).k) /\ w'.cell? ⟨w2.heap.size,2,none⟩ = some (.int .i64 (atO xs j).l) /\ w'.cell? ⟨w2.heap.size,3,none⟩ = some (.int .i64 (atO xs j).sd) /\ w'.cell? ⟨bn,offn + ka * 4,none⟩ = some (.int .i64 (atN ns ka).k) /\ w'.cell? ⟨bn,offn + ka * 4 + 1,none⟩ = some (.string (atN ns ka).t) /\ w'.cell? ⟨bn,offn + ka * 4 + 2,none⟩ = some (.int .i64 (atN ns ka).a) /\ w'.cell? ⟨bn,offn + ka * 4 + 3,none⟩ = some (.int .i64 (atN ns ka).b)) (first | (go_keep; done) | exact ⟨(zA HSC) (w.heap.size,0,.slice (some ⟨b,off,none⟩) xs.length cap) (by simp),(zA HSC) (w.heap.size + 1,2,.int .i64 (ka:Int)) (by simp),(zA HSC) (w2.heap.size,0,.string (atO xs j).s) (by simp),(zA HSC) (w2.heap.size,1,.int .i64 (atO xs j).k) (by simp),(zA HSC) (w2.heap.size,2,.int .i64 (atO xs j).l) (by simp),(zA HSC) (w2.heap.size,3,.int .i64 (atO xs j).sd) (by simp),(zA HSC) (bn,offn + ka * 4,.int .i64 (atN ns ka).k) (by simp),(zA HSC) (bn,offn + ka * 4 + 1,.string (atN ns ka).t) (by simp),(zA HSC) (bn,offn + ka * 4 + 2,.int .i64 (atN ns ka).a) (by simp),(zA HSC) (bn,offn + ka * 4 + 3,.int .i64 (atN ns ka).b) (by simp)⟩)
   (first | (go_at_call 109; have HX:=zAp b off cap xs (atN ns ka) _ hm ((zA HW).below (zA HBC) hB) (Nat.lt_of_lt_of_le hB (zA HBC).size) (zA HKA); refine HX.mono ?_; clear HX; rintro e w3 ⟨rfl,hb3⟩; replace HSC:=zB ((zA HSC).below hb3); replace HBC:=zB ((zA HBC).trans (hb3.mono (zA HBC).size)); clear hb3) | (go_at_call 108; refine (zAP (atO xs j).s (atO xs j).k (atO xs j).l (atO xs j).sd false _ (zA HSJ)).mono ?_; rintro e w4 ⟨rfl,hb4⟩; replace HSC:=zB ((zA HSC).below hb4); replace HBC:=zB ((zA HBC).trans (hb4.mono (zA HBC).size)); clear hb4))
  all_goals go_wp2
  all_goals go_ret
  all_goals exact ⟨⟨_,rfl,zu (zA HN)⟩,zA HBC⟩
 ·go_wp2_with fail
  go_region_held (fun w'=>w'.cell? ⟨w.heap.size,0,none⟩ = some (.slice (some ⟨b,off,none⟩) xs.length cap) /\ w'.cell? ⟨w.heap.size + 1,2,none⟩ = some (.int .i64 (ka:Int)) /\ w'.cell? ⟨w2.heap.size,0,none⟩ = some (.string (atO xs j).s) /\ w'.cell? ⟨w2.heap.size,1,none⟩ = some (.int .i64 (atO xs j).k) /\ w'.cell? ⟨w2.heap.size,2,none⟩ = some (.int .i64 (atO xs j).l) /\ w'.cell? ⟨w2.heap.size,3,none⟩ = some (.int .i64 (atO xs j).sd) /\ w'.cell? ⟨bn,offn + ka * 4,none⟩ = some (.int .i64 (atN ns ka).k) /\ w'.cell? ⟨bn,offn + ka * 4 + 1,none⟩ = some (.string (atN ns ka).t) /\ w'.cell? ⟨bn,offn + ka * 4 + 2,none⟩ = some (.int .i64 (atN ns ka).a) /\ w'.cell? ⟨bn,offn + ka * 4 + 3,none⟩ = some (.int .i64 (atN ns ka).b)) (first | (go_keep; done) | exact ⟨(zA HSC) (w.heap.size,0,.slice (some ⟨b,off,none⟩) xs.length cap) (by simp),(zA HSC) (w.heap.size + 1,2,.int .i64 (ka:Int)) (by simp),(zA HSC) (w2.heap.size,0,.string (atO xs j).s) (by simp),(zA HSC) (w2.heap.size,1,.int .i64 (atO xs j).k) (by simp),(zA HSC) (w2.heap.size,2,.int .i64 (atO xs j).l) (by simp),(zA HSC) (w2.heap.size,3,.int .i64 (atO xs j).sd) (by simp),(zA HSC) (bn,offn + ka * 4,.int .i64 (atN ns ka).k) (by simp),(zA HSC) (bn,offn + ka * 4 + 1,.string (atN ns ka).t) (by simp),(zA HSC) (bn,offn + ka * 4 + 2,.int .i64 (atN ns ka).a) (by simp),(zA HSC) (bn,offn + ka * 4 + 3,.int .i64 (atN ns ka).b) (by simp)⟩)
   (first | (go_at_call 109; have HX:=zAp b off cap xs (atN ns ka) _ hm ((zA HW).below (zA HBC) hB) (Nat.lt_of_lt_of_le hB (zA HBC).size) (zA HKA); refine HX.mono ?_; clear HX; rintro e w3 ⟨rfl,hb3⟩; replace HSC:=zB ((zA HSC).below hb3); replace HBC:=zB ((zA HBC).trans (hb3.mono (zA HBC).size)); clear hb3) | (go_at_call 108; refine (zAP (atO xs j).s (atO xs j).k (atO xs j).l (atO xs j).sd false _ (zA HSJ)).mono ?_; rintro e w4 ⟨rfl,hb4⟩; replace HSC:=zB ((zA HSC).below hb4); replace HBC:=zB ((zA HBC).trans (hb4.mono (zA HBC).size)); clear hb4))
  rcases hkk with hkk | hkk
  ·have HKK:=zB hkk
   have HY:=zB (show zFi xs ns i from (zA HIF).2 ⟨by omega,Or.inl hkk⟩)
   clear hkk HIF
   have d0:=(zA HSC) (w.heap.size + 1,0,.int .i64 (atN ns i).k) (by simp)
   simp only at d0
   go_wp2_with fail
   go_quiet ((go_at_call 83; exact Calls.quiet_of_same (zN (zA HKK) 1 rfl _)))
   go_wp2
   go_ret
   exact ⟨⟨_,rfl,zB3 (zA HY)⟩,zFu (zA HBC) rfl rfl rfl rfl⟩
  ·have HKK:=zB hkk
   have HKB:=zB ((zA HKB2) hkk)
   have HYN:=zB (show zFi xs ns i ↔ zAu (atO xs j).s (atO xs j).k (atO xs j).l (atO xs j).sd true <= Z2 xs (atN ns kb) by
    rw [zA HIF]
    constructor
    ·rintro ⟨_,h | h⟩
     ·omega
     ·exact h
    ·intro h; exact ⟨by omega,Or.inr h⟩)
   clear hkk HIF
   replace HSC:=zB ((zA HSC).below (Below.refl _ _).drew)
   replace HBC:=zB (zA HBC).drew
   go_wp2_with fail
   go_region_held (fun w'=>w'.cell? ⟨w.heap.size,0,none⟩ = some (.slice (some ⟨b,off,none⟩) xs.length cap) /\ w'.cell? ⟨w.heap.size + 1,0,none⟩ = some (.int .i64 (atN ns i).k) /\ w'.cell? ⟨w.heap.size + 1,3,none⟩ = some (.int .i64 (kb:Int)) /\ w'.cell? ⟨w2.heap.size,0,none⟩ = some (.string (atO xs j).s) /\ w'.cell? ⟨w2.heap.size,1,none⟩ = some (.int .i64 (atO xs j).k) /\ w'.cell? ⟨w2.heap.size,2,none⟩ = some (.int .i64 (atO xs j).l) /\ w'.cell? ⟨w2.heap.size,3,none⟩ = some (.int .i64 (atO xs j).sd) /\ w'.cell? ⟨bn,offn + kb * 4,none⟩ = some (.int .i64 (atN ns kb).k) /\ w'.cell? ⟨bn,offn + kb * 4 + 1,none⟩ = some (.string (atN ns kb).t) /\ w'.cell? ⟨bn,offn + kb * 4 + 2,none⟩ = some (.int .i64 (atN ns kb).a) /\ w'.cell? ⟨bn,offn + kb * 4 + 3,none⟩ = some (.int .i64 (atN ns kb).b)) (first | (go_keep; done) | exact ⟨(zA HSC) (w.heap.size,0,.slice (some ⟨b,off,none⟩) xs.length cap) (by simp),(zA HSC) (w.heap.size + 1,0,.int .i64 (atN ns i).k) (by simp),(zA HSC) (w.heap.size + 1,3,.int .i64 (kb:Int)) (by simp),(zA HSC) (w2.heap.size,0,.string (atO xs j).s) (by simp),(zA HSC) (w2.heap.size,1,.int .i64 (atO xs j).k) (by simp),(zA HSC) (w2.heap.size,2,.int .i64 (atO xs j).l) (by simp),(zA HSC) (w2.heap.size,3,.int .i64 (atO xs j).sd) (by simp),(zA HSC) (bn,offn + kb * 4,.int .i64 (atN ns kb).k) (by simp),(zA HSC) (bn,offn + kb * 4 + 1,.string (atN ns kb).t) (by simp),(zA HSC) (bn,offn + kb * 4 + 2,.int .i64 (atN ns kb).a) (by simp),(zA HSC) (bn,offn + kb * 4 + 3,.int .i64 (atN ns kb).b) (by simp)⟩)
    (first | (go_at_call 83; refine (zN (zA HKK) 2 rfl _).mono ?_; rintro e w5 ⟨rfl,hx5⟩; obtain rfl:=hx5.symm) | (go_at_call 109; have HX:=zAp b off cap xs (atN ns kb) _ hm ((zA HW).below (zA HBC) hB) (Nat.lt_of_lt_of_le hB (zA HBC).size) (zA HKB); refine HX.mono ?_; clear HX; rintro e w3 ⟨rfl,hb3⟩; replace HSC:=zB ((zA HSC).below hb3); replace HBC:=zB ((zA HBC).trans (hb3.mono (zA HBC).size)); clear hb3) | (go_at_call 108; refine (zAP (atO xs j).s (atO xs j).k (atO xs j).l (atO xs j).sd true _ (zA HSJ)).mono ?_; rintro e w4 ⟨rfl,hb4⟩; replace HSC:=zB ((zA HSC).below hb4); replace HBC:=zB ((zA HBC).trans (hb4.mono (zA HBC).size)); clear hb4))
   all_goals go_wp2
   all_goals go_ret
   all_goals exact ⟨⟨_,rfl,(by unfold zIX; rw [zA HYN]; simp)⟩,zA HBC⟩
end Go.Proofs.YtgiemobdmbijiaaGreatDoor
namespace Go.Proofs.YtgiemobdmbijiaaGreatDoor
set_option linter.unusedSimpArgs false
set_option linter.unusedVariables false
set_option maxHeartbeats 16000000
set_option maxRecDepth 100000
theorem zOH {a b:List zD} {i:Nat} (h:i < a.length):atN (a ++ b) i = atN a i:=by
 simp [atN,List.getD,List.getElem?_append,h]
theorem zDG {a:List zD} {o:zD} {b:List zD} {i:Nat} (h:i = a.length):atN (a ++ o :: b) i = o:=by
 subst h
 simp [atN,List.getD,List.getElem?_append]
theorem zOI (xs:List OpR) (b:Nat) (t:ByteArray) (l r:ET) (s:Nat):Z2 xs (tN b t l r s) = sLv xs (b,t):=rfl
theorem zAN {xs:List OpR} {T:ET} (hg:Zk xs T) (ns rest:List zD) {V:List zD} (hV:V = ns ++ nd T ns.length) :
  1 <= V.length /\ Z2 xs (atN (V ++ rest) (V.length - 1)) = lvT xs T /\ (3 <= (atN (V ++ rest) (V.length - 1)).k -> (atN (V ++ rest) (V.length - 1)).k <= 5 -> fnd xs (atN (V ++ rest) (V.length - 1)).t ((atN (V ++ rest) (V.length - 1)).k - 2) ≠ none):=by
 cases T with
 | nil=>exact hg.elim
 | node b o t l r=>
  have e:V = (ns ++ nd l ns.length ++ nd r (ns.length + tsz l)) ++ [tN b t l r ns.length]:=by
   rw [hV]; simp [nd]
  have hl:V.length = (ns ++ nd l ns.length ++ nd r (ns.length + tsz l)).length + 1:=by rw [e]; simp; omega
  have hat:atN (V ++ rest) (V.length - 1) = tN b t l r ns.length:=by
   rw [zOH (by omega)]
   have:V.length - 1 = (ns ++ nd l ns.length ++ nd r (ns.length + tsz l)).length:=by omega
   rw [this]
   conv=>lhs; rw [e]
   exact zDG rfl
  rw [hat]
  refine ⟨by omega,zOI _ _ _ _ _ _,fun h3 h5=>?_⟩
  have hk:knB xs (b,t) = true:=by
   obtain ⟨rfl,h⟩:=hg
   simp only [tN] at h3 h5
   rcases h with ⟨h12,rfl,rfl⟩ | ⟨rfl,rfl,hl,rfl⟩ | ⟨h35,hk,hl,rfl,hh⟩ | ⟨rfl,hk,hl,hr,h1,h2⟩
   ·omega
   ·omega
   ·exact hk
   ·exact hk
  unfold knB at hk
  simp only [tN]
  intro e
  rw [e] at hk
  cases hk
theorem zH7 {xs:List OpR} {q:Nat} {t:ByteArray} {j:Nat} (h:fnd xs t ((q:Int) - 2) = some j) (b:Bool):zDN xs j b = sH xs (q,t) b:=by
 unfold sH ZC
 simp only [rt]
 rw [h]
theorem zK2 {xs:List OpR} {T:ET} {q:Nat} {t:ByteArray} {j:Nat} (hg:Zk xs T) (hq:q = 3 \/ q = 5) (hf:fnd xs t ((q:Int) - 2) = some j) (ns:List zD) {V:List zD} (hV:V = ns ++ nd T ns.length) :
  zFi xs (V ++ [⟨(q:Int),t,(V.length:Int) - 1,0⟩]) V.length ↔ zA5 xs q t T .nil = true:=by
 obtain ⟨h1,h2,h3⟩:=zAN hg ns [⟨(q:Int),t,(V.length:Int) - 1,0⟩] hV
 have hat:atN (V ++ [(⟨(q:Int),t,(V.length:Int) - 1,0⟩:zD)]) V.length = ⟨(q:Int),t,(V.length:Int) - 1,0⟩:=zDG rfl
 have ho:zAo (atN (V ++ [(⟨(q:Int),t,(V.length:Int) - 1,0⟩:zD)]) V.length):=by rw [hat]; unfold zAo; simp only; omega
 rw [zFv ho (by rw [hat]; exact hf),hat]
 simp only
 have e:((V.length:Int) - 1).toNat = V.length - 1:=by omega
 rw [e,h2,zH7 hf]
 unfold zA5
 have hk:zY (q:Int) = 1:=by rcases hq with rfl | rfl <;> rfl
 have h4:q ≠ 4:=by omega
 simp [hk,h4]
theorem zOJ {xs:List OpR} {L R:ET} {t:ByteArray} {j:Nat} (hgL:Zk xs L) (hgR:Zk xs R) (hf:fnd xs t 2 = some j) (ns:List zD) {V V2:List zD} (hV:V = ns ++ nd L ns.length) (hV2:V2 = V ++ nd R V.length) :
  zFi xs (V2 ++ [⟨4,t,(V.length:Int) - 1,(V2.length:Int) - 1⟩]) V2.length ↔ zA5 xs 4 t L R = true:=by
 obtain ⟨h1,h2,h3⟩:=zAN hgL ns (nd R V.length ++ [⟨4,t,(V.length:Int) - 1,(V2.length:Int) - 1⟩]) hV
 obtain ⟨g1,g2,g3⟩:=zAN hgR V [⟨4,t,(V.length:Int) - 1,(V2.length:Int) - 1⟩] hV2
 rw [<- List.append_assoc,<- hV2] at h2
 have hat:atN (V2 ++ [(⟨4,t,(V.length:Int) - 1,(V2.length:Int) - 1⟩:zD)]) V2.length = ⟨4,t,(V.length:Int) - 1,(V2.length:Int) - 1⟩:=zDG rfl
 have ho:zAo (atN (V2 ++ [(⟨4,t,(V.length:Int) - 1,(V2.length:Int) - 1⟩:zD)]) V2.length):=by rw [hat]; unfold zAo; simp only; omega
 have hf':fnd xs t ((4:Int) - 2) = some j:=hf
 rw [zFv ho (by rw [hat]; exact hf'),hat]
 simp only
 have e:((V.length:Int) - 1).toNat = V.length - 1:=by omega
 have e2:((V2.length:Int) - 1).toNat = V2.length - 1:=by omega
 rw [e,e2,h2,g2,zH7 (q:=4) hf',zH7 (q:=4) hf']
 unfold zA5
 have hk:zY (4:Int) = 2:=rfl
 simp [hk]
end Go.Proofs.YtgiemobdmbijiaaGreatDoor
namespace Go.Proofs.YtgiemobdmbijiaaGreatDoor
set_option linter.unusedSimpArgs false
set_option linter.unusedVariables false
set_option maxHeartbeats 16000000
set_option maxRecDepth 100000
open Go.RowKit Go.Maps
open Go.Deep (BT)
end Go.Proofs.YtgiemobdmbijiaaGreatDoor
namespace Go.Proofs.YtgiemobdmbijiaaGreatDoor
set_option linter.unusedSimpArgs false
set_option linter.unusedVariables false
set_option maxHeartbeats 16000000
set_option maxRecDepth 100000
open Go.RowKit Go.Maps
theorem zCV {w:World} {B:Nat} {u:Value} {us:List zD} (h:zr w B u us) (h1:1 <= us.length):∃ g c,u = .slice (some ⟨g,0,none⟩) us.length c /\ B <= g /\ ZB w g us us.length:=by
 have hh:=h
 unfold zr at hh
 obtain ⟨_,⟨rfl,h0⟩ | ⟨g,cap,cur,rfl,_⟩⟩:=h
 ·omega
 ·have:=zAz hh
  exact ⟨g,cap,rfl,this.1,this.2⟩
end Go.Proofs.YtgiemobdmbijiaaGreatDoor
