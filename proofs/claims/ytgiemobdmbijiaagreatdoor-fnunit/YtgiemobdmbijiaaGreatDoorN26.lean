import Derived.Test.YtgiemobdmbijiaaGreatDoorN01
import Derived.Test.YtgiemobdmbijiaaGreatDoorN04
import Derived.Test.YtgiemobdmbijiaaGreatDoorN08
import Derived.Test.YtgiemobdmbijiaaGreatDoorN23
import Derived.Test.YtgiemobdmbijiaaGreatDoorN25
namespace Go.Proofs.YtgiemobdmbijiaaGreatDoor
set_option linter.unusedSimpArgs false
set_option linter.unusedVariables false
set_option maxHeartbeats 16000000
set_option maxRecDepth 100000
open Go.RowKit
theorem zFS {xs:List zD} (h:zAn xs) {i:Nat} (hi:1 <= i):1 <= cnt xs i:=by
 have:=zIV xs 1 i hi
 rw [zLB h] at this
 exact this
theorem zAe (b off cap bz offz cz:Nat) (ns:List OpR) (xs zs:List zD) (hm:ns.length <= 1048576) (hsz:Zs ns) (hord:zAn xs) (hkn:zIc ns xs) (hzs:zs = er xs xs.length):∀ n i f,i < n -> i < xs.length -> frS xs i = some f -> ∀ (j:Nat) (least:Int) (B:Nat) (u:Value) (us vs:List zD) (w:World),j + 1 = cnt xs (i + 1) -> Ops w b off ns -> b < B -> zAs w bz offz zs -> bz < B -> B <= w.heap.size -> zr w B u us -> us.length + 2 * (i + 1 - f) <= 80000 -> vs = us ++ gS ns xs i least us.length ->
  Calls Tryz.prog 81 #[.agg #[.slice (some ⟨b,off,none⟩) ns.length cap],.slice (some ⟨bz,offz,none⟩) zs.length cz,.int .i64 (j:Int),.int .i64 least,u] w (zAR w B u vs)
 | 0,_,_,h,_,_=>absurd h (Nat.not_lt_zero _)
 | n + 1,i,f,h,hi,hf=>by
  intro j least B u us vs w hj hw hb hwz hbz hB hrow hlen hvs
  have hzl:zs.length <= 20000:=by
   rw [hzs,zBO]
   have:=zDU xs xs.length
   have:=hord.2.1
   omega
  have hso:zAo (atN xs i) -> ∃ j,fnd ns (atN xs i).t ((atN xs i).k - 2) = some j:=fun ho=>by
   cases e:fnd ns (atN xs i).t ((atN xs i).k - 2) with
   | none=>exact absurd e (hkn i hi ho)
   | some j=>exact ⟨j,rfl⟩
  rcases zBa hf with ⟨hk,ha,hbb,hfi⟩ | ⟨hk,h1i,ha,hbb,hf1⟩ | ⟨hk,h1i,hbb,f2,hf2,h2f,ha,hf1⟩
  ·have h6:(atN xs i).k ≠ 6:=fun e=>by rw [e] at hk; simp [zY] at hk
   obtain ⟨hjl,hat⟩:=zMa (m:=xs.length) hi h6
   rw [zEj h6] at hj
   have ej:j = cnt xs i:=by omega
   subst ej
   rw [<- hzs] at hjl hat
   refine zN3 b off cap bz offz cz _ ns zs (atN xs i) least B u us vs w hm hw hb hwz hbz hB hrow hjl hzl ?_ hk (by omega) ?_
   ·rw [hat]; simp [erN,hk]
   ·rw [hvs,zHg hk]
  ·have hle:=zAA hf1
   have hci:=zFS hord h1i
   have hii:i - 1 + 1 = i:=by omega
   have hln:=zCH ns xs i (i - 1) f (by omega) hf1
   by_cases h6:(atN xs i).k = 6
   ·refine zAe b off cap bz offz cz ns xs zs hm hsz hord hkn hzs n (i - 1) f (by omega) (by omega) hf1 j least B u us vs w ?_ hw hb hwz hbz hB hrow (by omega) ?_
    ·rw [hj,zLR h6,hii]
    ·rw [hvs,zFj h6 h1i hf1]
   ·obtain ⟨hjl,hat⟩:=zMa (m:=xs.length) hi h6
    rw [zEj h6] at hj
    have ej:j = cnt xs i:=by omega
    subst ej
    rw [<- hzs] at hjl hat
    have hop:zAo (atN xs i):=by
     unfold zY at hk
     unfold zAo
     split at hk
     ·omega
     ·split at hk <;> omega
    obtain ⟨jj,hjj⟩:=hso hop
    have hole:∀ bb,ZC ns (atN xs i) bb = zAu (atO ns jj).s (atO ns jj).k (atO ns jj).l (atO ns jj).sd bb:=fun bb=>by
     unfold ZC; rw [hjj]; rfl
    obtain ⟨U,hU⟩:∃ U,U = gS ns xs (i - 1) (ZC ns (atN xs i) false) us.length:=⟨_,rfl⟩
    have hl1:=(hln (ZC ns (atN xs i) false) us.length).2
    rw [<- hU] at hl1
    refine zO8 b off cap bz offz cz _ (cnt xs i - 1) jj ns zs (atN xs i) least B u us (us ++ U) vs w hm hsz hw hb hwz hbz hB hrow hjl hzl ?_ hop hk hjj (by rw [List.length_append]; omega) rfl ?_ ?_
    ·rw [hat]
     have e1:((i:Int) - 1).toNat + 1 = i:=by omega
     unfold erN mvd
     rw [hk,ha,e1,if_neg (by decide),if_neg (by decide)]
     congr 1
     omega
    ·rw [hvs,zJi hk h6 h1i hf1 least us.length hU,List.length_append]
    ·intro W hW hWz hBW hrW
     rw [<- hole false]
     exact zAe b off cap bz offz cz ns xs zs hm hsz hord hkn hzs n (i - 1) f (by omega) (by omega) hf1 (cnt xs i - 1) _ B u us _ W (by rw [hii]; omega) hW hb hWz hbz hBW hrW (by omega) (by rw [hU])
  ·have hle:=zAA hf2
   have hle1:=zAA hf1
   have hci:=zFS hord h1i
   have hcf:=zFS hord h2f
   have hii:i - 1 + 1 = i:=by omega
   have hff:f2 - 1 + 1 = f2:=by omega
   have h6:(atN xs i).k ≠ 6:=fun e=>by rw [e] at hk; simp [zY] at hk
   obtain ⟨hjl,hat⟩:=zMa (m:=xs.length) hi h6
   rw [zEj h6] at hj
   have ej:j = cnt xs i:=by omega
   subst ej
   rw [<- hzs] at hjl hat
   have hop:zAo (atN xs i):=by
    unfold zY at hk
    unfold zAo
    split at hk
    ·omega
    ·split at hk <;> omega
   obtain ⟨jj,hjj⟩:=hso hop
   have hole:∀ bb,ZC ns (atN xs i) bb = zAu (atO ns jj).s (atO ns jj).k (atO ns jj).l (atO ns jj).sd bb:=fun bb=>by
    unfold ZC; rw [hjj]; rfl
   obtain ⟨U,hU⟩:∃ U,U = gS ns xs (f2 - 1) (ZC ns (atN xs i) false) us.length:=⟨_,rfl⟩
   obtain ⟨U2,hU2⟩:∃ U2,U2 = gS ns xs (i - 1) (ZC ns (atN xs i) true) (us.length + U.length):=⟨_,rfl⟩
   have hl1:=(zCH ns xs i (f2 - 1) f (by omega) hf1 (ZC ns (atN xs i) false) us.length).2
   have hl2:=(zCH ns xs i (i - 1) f2 (by omega) hf2 (ZC ns (atN xs i) true) (us.length + U.length)).2
   rw [<- hU] at hl1
   rw [<- hU2] at hl2
   refine zO9 b off cap bz offz cz _ (cnt xs f2 - 1) (cnt xs i - 1) jj ns zs (atN xs i) least B u us (us ++ U) (us ++ U ++ U2) vs w hm hsz hw hb hwz hbz hB hrow hjl hzl ?_ hop hk hjj (by rw [List.length_append,List.length_append]; omega) rfl rfl ?_ ?_ ?_
   ·rw [hat]
    have e1:((i:Int) - 1).toNat + 1 = i:=by omega
    have e2:((f2:Int) - 1).toNat + 1 = f2:=by omega
    unfold erN mvd
    rw [hk,ha,hbb,e1,e2,if_neg (by decide),if_pos rfl]
    congr 1 <;> omega
   ·rw [hvs,zJj hk h1i hf2 h2f ha hf1 least us.length hU hU2]
    simp only [List.length_append]
   ·intro W hW hWz hBW hrW
    rw [<- hole false]
    exact zAe b off cap bz offz cz ns xs zs hm hsz hord hkn hzs n (f2 - 1) f (by omega) (by omega) hf1 (cnt xs f2 - 1) _ B u us _ W (by rw [hff]; omega) hW hb hWz hbz hBW hrW (by omega) (by rw [hU])
   ·intro u' W hW hWz hBW hrW
    rw [<- hole true]
    exact zAe b off cap bz offz cz ns xs zs hm hsz hord hkn hzs n (i - 1) f2 (by omega) (by omega) hf2 (cnt xs i - 1) _ B u' (us ++ U) _ W (by rw [hii]; omega) hW hb hWz hbz hBW hrW (by rw [List.length_append]; omega) (by rw [hU2,List.length_append])
theorem zEk (b off cap bn offn cn:Nat) (xs:List OpR) (ns:List zD) (w:World) (hm:xs.length <= 1048576) (hw:Ops w b off xs) (hsz:Zs xs) (hB:b < w.heap.size) (hc:¬ zZ xs 0) :
  Calls Tryz.prog 79 #[.agg #[.slice (some ⟨b,off,none⟩) xs.length cap],.agg #[.slice (some ⟨bn,offn,none⟩) ns.length cn]] w fun e w'=>e = .returned (.bool false) /\ Below w.heap.size w w':=by
 have HW:=zB hw
 have HZ:=zB hsz
 have HC:=zB hc
 clear hw hsz hc
 go_enter Tryz.func79,Tryz.ntmps79
 go_wp2_with fail
 refine (ZU b off cap xs _ hm ((zA HW).below ((zC _ _).alloc (by simp) _) hB) (zA HZ) (by simp; omega)).mono ?_
 rintro e w1 ⟨⟨c,rfl,h⟩,hb1⟩
 have hc0:(c != 0) = true:=by
  rw [bne_iff_ne]
  intro e
  exact (zA HC) (e ▸ h)
 have bel1:Below w.heap.size w w1:=((zC _ _).alloc (by simp) _).trans (hb1.mono (by simp; omega))
 clear h hb1
 go_wp2_with fail
 go_ret
 exact ⟨rfl,bel1⟩
theorem zEl (b off cap bn offn cn:Nat) (xs:List OpR) (ns:List zD) (w:World) (hm:xs.length <= 1048576) (hmn:ns.length <= 1048576) (hw:Ops w b off xs) (hsz:Zs xs) (hB:b < w.heap.size) (hwn:zAs w bn offn ns) (hsn:zEQ ns) (hBn:bn < w.heap.size) :
  Calls Tryz.prog 79 #[.agg #[.slice (some ⟨b,off,none⟩) xs.length cap],.agg #[.slice (some ⟨bn,offn,none⟩) ns.length cn]] w fun e w'=>zHb e (zZ xs 0 /\ zAn ns /\ zIc xs ns) /\ Below w.heap.size w w':=by
 by_cases hc:zZ xs 0
 ·refine (zEi b off cap bn offn cn xs ns w hm hmn hw hsz hB hwn hsn hBn hc).mono ?_
  rintro e w' ⟨⟨v,rfl,hv⟩,hb⟩
  exact ⟨⟨v,rfl,⟨fun h=>⟨hc,hv.1 h⟩,fun h=>hv.2 h.2⟩⟩,hb⟩
 ·refine (zEk b off cap bn offn cn xs ns w hm hw hsz hB hc).mono ?_
  rintro e w' ⟨rfl,hb⟩
  exact ⟨⟨false,rfl,zu (fun h=>hc h.1)⟩,hb⟩
theorem zDQ (b off cap bn offn cn:Nat) (ns:List OpR) (xs:List zD) (w:World) (hm:ns.length <= 1048576) (hmn:xs.length <= 1048576) (hw:Ops w b off ns) (hsz:Zs ns) (hB:b < w.heap.size) (hwn:zAs w bn offn xs) (hsn:zEQ xs) (hBn:bn < w.heap.size) :
  Calls Tryz.prog 57 #[.agg #[.slice (some ⟨b,off,none⟩) ns.length cap],.agg #[.slice (some ⟨bn,offn,none⟩) xs.length cn]] w fun e w'=>(∃ (a:Option Addr) (c:Nat) (us:List zD) (v:Bool),e = .returned (.tuple #[.agg #[.slice a us.length c],.bool v]) /\ Hid (ZP w' w.heap.size a us) /\ Hid (zHh ns xs us v)) /\ Below w.heap.size w w':=by
 have HW:=zB hw
 have HWN:=zB hwn
 have HZ:=zB hsz
 have HZN:=zB hsn
 have HB0:=zB (show ∀ o1 o2 o3:Obj,Below w.heap.size w (((w.alloc o1).alloc o2).alloc o3) from fun o1 o2 o3=>((zC w o1).alloc (by simp) o2).alloc (by simp; omega) o3)
 clear hw hwn hsz hsn
 go_enter Tryz.func57,Tryz.ntmps57
 go_wp2_with fail
 refine (zEl b off cap bn offn cn ns xs _ hm hmn ((zA HW).below ((zA HB0) _ _ _) hB) (zA HZ) (by simp; omega) ((zA HWN).below ((zA HB0) _ _ _) hBn) (zA HZN) (by simp; omega)).mono ?_
 rintro e w1 ⟨⟨v,rfl,hv⟩,hb1⟩
 have HV:=zB hv
 have bel1:Below w.heap.size w w1:=((zA HB0) _ _ _).trans (hb1.mono (by simp; omega))
 have z1:w.heap.size + 3 <= w1.heap.size:=by have:=hb1.size; simp at this; omega
 have HCS:=zB (show Cs [(w.heap.size,0,.slice (some ⟨b,off,none⟩) ns.length cap),(w.heap.size + 1,0,.slice (some ⟨bn,offn,none⟩) xs.length cn),(w.heap.size + 1 + 1,0,.slice none 0 0)] w1 from Cs.below (fun p hp=>by
  simp only [List.mem_cons,List.not_mem_nil,or_false] at hp
  rcases hp with rfl | rfl | rfl
  ·simp [go_sem]
  ·simp [go_sem]
  ·simp [go_sem]) hb1)
 have d1:w1.frozen? ⟨w.heap.size + 1 + 1,0,none⟩ = false:=(hb1.frozen (p:=⟨w.heap.size + 1 + 1,0,none⟩) (by simp)).trans (by simp [go_sem])
 have c0:=(zA HCS) (w.heap.size,0,.slice (some ⟨b,off,none⟩) ns.length cap) (by simp)
 have c1:=(zA HCS) (w.heap.size + 1,0,.slice (some ⟨bn,offn,none⟩) xs.length cn) (by simp)
 have c2:=(zA HCS) (w.heap.size + 1 + 1,0,.slice none 0 0) (by simp)
 simp only at c0 c1 c2
 clear hv hb1 HB0
 cases v
 ·have HF:=zB (show ∀ W:World,W = w1.setCell ⟨w.heap.size + 1 + 1,0,none⟩ (.slice none 0 0) -> Below w.heap.size w W from fun W hW=>by rw [hW]; exact bel1.setCell (by simp; omega) _)
  go_wp2_with fail
  refine bodyPost_ret (v:=.tuple #[.agg #[.slice none 0 0],.bool false]) ?res rfl ⟨⟨none,0,[],false,rfl,zB (Or.inl ⟨rfl,rfl⟩),zB (Or.inr ⟨fun h=>Bool.false_ne_true ((zA HV).2 h.1),rfl,rfl⟩)⟩,(zA HF) _ rfl⟩
  case res=>simp [results,Tryz.results57,go_sem,c2]
 have HY:=zB ((zA HV).1 rfl)
 clear HV
 have h20:=(zA HY).2.1.2.1
 have h1:=(zA HY).2.1.1
 go_wp2_with fail
 refine (zGd bn offn cn xs _ hmn ((zA HWN).below bel1 hBn) (zA HZN) (Nat.lt_of_lt_of_le hBn bel1.size)).mono ?_
 rintro e w2 ⟨⟨a2,k2,zs,v,rfl,hown,her⟩,hb2⟩
 have hzs:v = true /\ zs = er xs xs.length:=by
  rcases zA her with ⟨_,h,h'⟩ | ⟨h,_⟩
  ·exact ⟨h,h'⟩
  ·exact absurd (zA HY).2.1 h
 obtain ⟨rfl,hz⟩:=hzs
 have hzl:zs.length = cnt xs xs.length:=by rw [hz,zBO]
 have hzp:=zFS (zA HY).2.1 h1
 have hzm:=zDU xs xs.length
 obtain ⟨g2,rfl,hg2,hfil⟩:∃ g,a2 = some ⟨g,0,none⟩ /\ w1.heap.size <= g /\ ZB w2 g zs zs.length:=by
  rcases zA hown with ⟨h,_⟩ | h
  ·omega
  ·exact h
 have hgl:=hfil.1
 have HZ2:=zB (hfil.ops)
 have HER:=zB hz
 have bel2:=bel1.trans (hb2.mono bel1.size)
 have z2:w1.heap.size <= w2.heap.size:=hb2.size
 have HC2:=zB ((zA HCS).below hb2)
 have d2:w2.frozen? ⟨w.heap.size + 1 + 1,0,none⟩ = false:=(hb2.frozen (p:=⟨w.heap.size + 1 + 1,0,none⟩) (show w.heap.size + 1 + 1 < w1.heap.size by omega)).trans d1
 have HZL:=zB hzl
 have hz20:zs.length <= 20000:=by omega
 have hz1:1 <= zs.length:=by omega
 clear hown her hfil hb2 HCS hz c0 c1 c2 d1 hzl hzp hzm bel1
 obtain ⟨W3,HW3⟩:∃ W3,Hid (W3 = (w2.alloc (.cells #[.slice (some ⟨g2,0,none⟩) zs.length k2] 97)).alloc (.cells #[] 120)):=⟨_,zB rfl⟩
 have hb3:Below w2.heap.size w2 W3:=by rw [zA HW3]; exact (zC _ _).alloc (by simp) _
 have s3:W3.heap.size = w2.heap.size + 2:=by rw [zA HW3]; simp
 have bel3:=bel2.trans (hb3.mono bel2.size)
 have HR3:=zB (show zr W3 (w2.heap.size + 1) (.slice (some ⟨w2.heap.size + 1,0,none⟩) 0 0) [] by
  rw [zA HW3]
  have:=World.ownsRow_lit (base:=w2.heap.size + 1) (e:=120) (size:=4) (w2.alloc (.cells #[.slice (some ⟨g2,0,none⟩) zs.length k2] 97)) #[] 0 (by simp) (Nat.zero_le _) rfl
  simpa [zr,zM] using this)
 have HC3:=zB ((zA HC2).below hb3)
 have d3:W3.frozen? ⟨w.heap.size + 1 + 1,0,none⟩ = false:=(hb3.frozen (p:=⟨w.heap.size + 1 + 1,0,none⟩) (show w.heap.size + 1 + 1 < w2.heap.size by omega)).trans d2
 obtain ⟨vs,hvs⟩:∃ vs,vs = gS ns xs (xs.length - 1) 0 0:=⟨_,rfl⟩
 have hvl:=zCH ns xs xs.length (xs.length - 1) 0 (by omega) (zA HY).2.1.2.2.1 0 0
 rw [<- hvs] at hvl
 have ei:(zs.length:Int) - 1 = ((zs.length - 1:Nat):Int):=by omega
 have HCALL:=zB (zAe b off cap g2 0 k2 ns xs zs hm (zA HZ) (zA HY).2.1 (zA HY).2.2 (zA HER) xs.length (xs.length - 1) 0 (by omega) (by omega) (zA HY).2.1.2.2.1 (zs.length - 1) 0 (w2.heap.size + 1) (.slice (some ⟨w2.heap.size + 1,0,none⟩) 0 0) [] vs W3 (by rw [Nat.sub_add_cancel h1,<- zA HZL]; omega) ((zA HW).below bel3 hB) (by have:=bel2.size; omega) ((zA HZ2).below hb3 hgl) (by omega) (by omega) (zA HR3) (by rw [List.length_nil]; omega) (by rw [List.nil_append,List.length_nil]; exact hvs))
 rw [zA HW3] at HCALL
 have HVS:=zB hvs
 have hvl1:=hvl.1
 have hvl2:=hvl.2
 have c0:w2.cell? ⟨w.heap.size,0,none⟩ = some (.slice (some ⟨b,off,none⟩) ns.length cap):=(zA HC2) (w.heap.size,0,.slice (some ⟨b,off,none⟩) ns.length cap) (by simp)
 have hT:w.heap.size < w2.heap.size:=by omega
 clear hvs hvl HR3
 go_wp2_with fail
 refine (zA HCALL).mono ?_
 rw [<- zA HW3]
 rintro x w4 ⟨u',rfl,hr,hg,ho⟩
 obtain ⟨g4,c4,rfl,hg4,hfil⟩:=(show zr w4 (w2.heap.size + 1) u' vs -> ∃ g c,u' = .slice (some ⟨g,0,none⟩) vs.length c /\ w2.heap.size + 1 <= g /\ ZB w4 g vs vs.length from fun h=>by
  have hh:=h
  unfold zr at hh
  obtain ⟨_,⟨rfl,h0⟩ | ⟨g,cap,cur,rfl,_⟩⟩:=h
  ·omega
  ·have:=zAz hh
   exact ⟨g,cap,rfl,this.1,this.2⟩) (zA hr)
 have e1:w4.cell? ⟨w.heap.size + 1 + 1,0,none⟩ = some (.slice none 0 0):=(zE (zA hg) (b:=w.heap.size + 1 + 1) (by omega) (by simp [Value.ownBlock]; omega) 0).trans ((zA HC3) (w.heap.size + 1 + 1,0,.slice none 0 0) (by simp))
 have f1:w4.frozen? ⟨w.heap.size + 1 + 1,0,none⟩ = false:=(World.frozen?_of_block (w:=W3) ((zA hg).block (w.heap.size + 1 + 1) (by omega) (by simp [Value.ownBlock]; omega))).trans d3
 have bel4:Below w.heap.size w w4:=bel3.trans ⟨(zA hg).os,(zA hg).tape,(zA hg).output,(zA hg).size,fun i hi=>(zA hg).block i (by have:=bel3.size; omega) (by simp [Value.ownBlock]; have:=bel2.size; omega)⟩
 have HFIL:=zB hfil
 clear hr hg ho hfil HCALL HC2 HC3 d2 d3 c0 hb3 HW3
 by_cases hq:vs.length <= 20000
 ·have hq':¬ (20000:Int) < (vs.length:Int):=by omega
  go_wp2_with fail
  refine bodyPost_ret (v:=.tuple #[.agg #[.slice (some ⟨g4,0,none⟩) vs.length c4],.bool true]) ?res rfl ⟨⟨some ⟨g4,0,none⟩,c4,vs,true,rfl,zB (Or.inr ⟨g4,rfl,by omega,?_⟩),zB (Or.inl ⟨⟨zA HY,by rw [<- zA HVS]; exact hq⟩,rfl,zA HVS⟩)⟩,?_⟩
  case res=>simp [results,Tryz.results57,go_sem,e1]
  ·exact (zA HFIL).setCell _ _ _ (by omega)
  ·exact bel4.setCell (by simp; omega) _
 ·have hq':(20000:Int) < (vs.length:Int):=by omega
  go_wp2_with fail
  refine bodyPost_ret (v:=.tuple #[.agg #[.slice none 0 0],.bool false]) ?res rfl ⟨⟨none,0,[],false,rfl,zB (Or.inl ⟨rfl,rfl⟩),zB (Or.inr ⟨fun h=>hq (by rw [zA HVS]; exact h.2),rfl,rfl⟩)⟩,?_⟩
  case res=>simp [results,Tryz.results57,go_sem,e1]
  ·exact bel4.setCell (by simp; omega) _
theorem Z1.lt1 {w:World} {g k:Nat} {xs:List OpR} (h:Z1 w g xs k):g < w.heap.size:=h.1
theorem ZB.lt1 {w:World} {g k:Nat} {xs:List zD} (h:ZB w g xs k):g < w.heap.size:=h.1
theorem za.low {w:World} {B B':Nat} {v:Value} {us:List ByteArray} (h:za w B v us) (hb:B' <= B):za w B' v us:=by
 obtain ⟨h0,h1 | ⟨g,cap,cur,h1,h2,h3⟩⟩:=h
 ·exact ⟨h0,Or.inl h1⟩
 ·exact ⟨h0,Or.inr ⟨g,cap,cur,h1,Nat.le_trans hb h2,h3⟩⟩
theorem zF.k2 {w W W':World} {rp g:Nat} (h:zF w W rp) (h':K2 W W' rp g) (hg:w.heap.size <= g):zF w W' rp:=
 ⟨h'.os.trans h.os,h'.tape.trans h.tape,h'.output.trans h.output,Nat.le_trans h.size h'.size,fun i hi a=>(h'.block i (Nat.lt_of_lt_of_le hi h.size) a (by omega)).trans (h.block i hi a)⟩
def GrR (W:World) (rp:Nat) (a3:Option Addr) (us:List zD):Prop:=us.length = 0 \/ ∃ g,a3 = some ⟨g,0,none⟩ /\ rp < g /\ ZB W g us us.length
theorem ZP.grR {w W:World} {n rp:Nat} {a3:Option Addr} {us:List zD} (h:ZP w n a3 us) (hn:rp < n) (hk:∀ g,n <= g -> ZB w g us us.length -> ZB W g us us.length):GrR W rp a3 us:=by
 rcases h with ⟨h,_⟩ | ⟨g,rfl,hg,hf⟩
 ·exact Or.inl h
 ·exact Or.inr ⟨g,rfl,by omega,hk g hg hf⟩
theorem zN4 (bs:List UInt8) (ns:List OpR) (p:Nat):1 <= (gnW bs ns p).2.length /\ (gnW bs ns p).2.length <= 127:=by
 have h:=zDt bs ns false (2 + nxt bs p % 5) (adv bs p) []
 have hp6:(2:Nat) ^ (2 + nxt bs p % 5 + 1) <= 128:=by have:=Nat.pow_le_pow_right (show 0 < 2 by decide) (show 2 + nxt bs p % 5 + 1 <= 7 by omega); omega
 simp only [List.length_nil] at h
 unfold gnW
 omega
theorem zPA {ns:List OpR} (h:∀ i,(atO ns i).s.size <= 16) (bs:List UInt8) (p:Nat):∀ o ∈ (gnW bs ns p).2,o.t.size <= 16:=zHi h bs false _ _ [] (fun o ho=>by simp at ho)
def zDf (w:World) (g:Nat) (ns:List OpR):Prop:=g < w.heap.size /\ Ops w g 0 ns
theorem zDf.lt1 {w:World} {g:Nat} {ns:List OpR} (h:zDf w g ns):g < w.heap.size:=h.1
theorem zDf.ops {w:World} {g:Nat} {ns:List OpR} (h:zDf w g ns):Ops w g 0 ns:=h.2
theorem zDf.below {w w':World} {g B:Nat} {ns:List OpR} (h:zDf w g ns) (hb:Below B w w') (hB:g < B):zDf w' g ns:=⟨Nat.lt_of_lt_of_le h.1 hb.size,h.2.below hb hB⟩
theorem Z1.tabO {w:World} {g:Nat} {ns:List OpR} (h:Z1 w g ns ns.length):zDf w g ns:=⟨h.lt1,h.ops⟩
theorem zF.tabO {w w':World} {g rp:Nat} {ns:List OpR} (h:zF w w' rp) (ht:zDf w g ns) (hne:g ≠ rp):zDf w' g ns:=⟨Nat.lt_of_lt_of_le ht.1 h.size,h.ops ht.2 ht.1 hne⟩
theorem zFF (rp cap p gt ct:Nat) (a:Option Addr) (bs:List UInt8) (ns:List OpR) (w:World) (h:RdS w rp a cap bs p) (hl:bs.length <= 1200) (hnl:ns.length <= 500) (ht:zDf w gt ns) (hne:gt ≠ rp) (hs:∀ i,(atO ns i).s.size <= 16) (hks:∀ j,j < ns.length -> 0 <= (atO ns j).k /\ (atO ns j).k <= 9) :
  Calls Tryz.prog 35 #[.pointer (some ⟨rp,0,none⟩),.agg #[.slice (some ⟨gt,0,none⟩) ns.length ct]] w (zJ8 w rp cap a bs (fun ws q=>zOv bs ns p ws q)):=by
 have hrp:=h.lt
 have hgt:=ht.lt1
 have H:=zB h
 have HT:=zB ht
 have HSZ:=zB hs
 have HKS:=zB hks
 clear h ht hs hks
 go_enter Tryz.func35,Tryz.ntmps35
 go_wp2_with fail
 have HB0:=zB (zC w (.cells #[.slice (some ⟨gt,0,none⟩) ns.length ct] 55))
 (with_reducible refine (Z4 rp cap p a bs _ ((zA H).below (zA HB0)) hl).mono ?_)
 rintro e w1 ⟨⟨k,rfl,hk,HK⟩,H1,HP1⟩
 have z1:w.heap.size + 1 <= w1.heap.size:=by have:=(zA HP1).size; simpa using this
 have tb1:w1.cell? ⟨w.heap.size,0,none⟩ = some (.slice (some ⟨gt,0,none⟩) ns.length ct):=((zA HP1).cell (b:=w.heap.size) (by simp) (by omega) 0).trans (by simp [go_sem])
 have HK1:=zB ((zF.of_below (g:=rp) (zA HB0)).trans (zA HP1))
 have HT1:=zB ((zA HK1).tabO (zA HT) hne)
 clear H HB0 HP1 HT
 by_cases hk3:k % 4 = 3
 ·have e3:((k:Int) % 4 == 3) = true:=by simp; omega
  have HX:=zB (zJ9 rp cap (adv bs p) gt ct a bs ns w1 (zA H1) hl (by omega) (zA HT1).ops (zA HT1).lt1 hne (zA HSZ))
  go_wp2_with fail
  (with_reducible refine (zA HX).mono ?_)
  rintro e w2 ⟨g,c,q,ws,rfl,HR,h1,h2,HS,HD,H2,HP2⟩
  clear HX
  go_wp2_with fail
  go_ret
  refine ⟨g,c,q,ws,rfl,zB ?_,h1,h2,HS,zB (Or.inl ⟨by rw [<- zA HK]; exact hk3,zA HD⟩),H2,zB ((zA HK1).trans (zA HP2))⟩
  exact za.low (zA HR) (by omega)
 ·have e3:((k:Int) % 4 == 3) = false:=by simp; omega
  obtain ⟨y,HY⟩:∃ y,Hid (gnW bs ns (adv bs p) = y):=⟨_,zB rfl⟩
  have hyl:=zN4 bs ns (adv bs p)
  have HYS:=zB (zPA (zA HSZ) bs (adv bs p))
  rw [zA HY] at hyl HYS
  obtain ⟨y1,xs⟩:=y
  simp only at hyl HYS
  obtain ⟨hyl1,hyl2⟩:=hyl
  have HTA:=zB ((zA HT1).below (Below.refl w1.heap.size w1).drew (zA HT1).lt1)
  have HTB:=zB ((zA HT1).below (zC w1 (.cells #[.slice none 0 0] 97)).drew (zA HT1).lt1)
  have HXa:=zB (zCj rp cap (adv bs p) gt ct a bs ns false w1.drew ((zA H1).below (Below.refl _ _).drew) hl (by omega) (zA HKS) (zA HTA).ops (zA HTA).lt1 hne)
  have HXb:=zB (zCj rp cap (adv bs p) gt ct a bs ns false (w1.alloc (.cells #[.slice none 0 0] 97)).drew ((zA H1).below (zC w1 (.cells #[.slice none 0 0] 97)).drew) hl (by omega) (zA HKS) (zA HTB).ops (zA HTB).lt1 hne)
  have HYE:=zB (show gen bs ns false (2 + nxt bs (adv bs p) % 5) (adv bs (adv bs p)) [] = (y1,xs) from zA HY)
  rw [zA HYE] at HXa HXb
  simp only at HXa HXb
  have HKA:=zB ((zA HK1).trans (zF.of_below (g:=rp) (Below.refl w1.heap.size w1).drew))
  have HKB:=zB ((zA HK1).trans (zF.of_below (g:=rp) (zC w1 (.cells #[.slice none 0 0] 97)).drew))
  have tA:w1.drew.cell? ⟨w.heap.size,0,none⟩ = some (.slice (some ⟨gt,0,none⟩) ns.length ct):=tb1
  have tB:(w1.alloc (.cells #[.slice none 0 0] 97)).drew.cell? ⟨w.heap.size,0,none⟩ = some (.slice (some ⟨gt,0,none⟩) ns.length ct):=((zC w1 (.cells #[.slice none 0 0] 97)).drew.cell (p:=⟨w.heap.size,0,none⟩) (by show w.heap.size < w1.heap.size; omega)).trans tb1
  have xB:(w1.alloc (.cells #[.slice none 0 0] 97)).drew.cell? ⟨w1.heap.size,0,none⟩ = some (.slice none 0 0):=by simp [go_sem]
  have fB:(w1.alloc (.cells #[.slice none 0 0] 97)).drew.frozen? ⟨w1.heap.size,0,none⟩ = false:=by simp [go_sem]
  have HSN:=zB (show Zs ns from fun i _=>by have:=(zA HSZ) i; unfold maxLen; omega)
  have HSX:=zB (show zEQ xs from fun i hi=>by
   have:=(zA HYS) (atN xs i) (by unfold atN; rw [List.getD_eq_getElem?_getD,List.getElem?_eq_getElem hi]; exact List.getElem_mem hi)
   unfold maxLen; omega)
  clear HY
  go_wp2_with fail
  go_region_held3 (fun W=>W.cell? ⟨w.heap.size,0,none⟩ = some (.slice (some ⟨gt,0,none⟩) ns.length ct)) (first | (go_keep; done) | exact tb2 | exact tb3 | exact (World.cell?_setCell_other _ _ _ _ (fun e=>by injection e with e; omega)).trans tb3 | exact ((zC _ _).cell (p:=⟨w.heap.size,0,none⟩) (by show w.heap.size < w2.heap.size; omega)).trans tb2)
   (first
    | (go_at_call 58; (with_reducible refine (zA HXa).mono ?_); rintro e w2 ⟨⟨gn,cn,rfl,hcn,hgn,hN2⟩,H2,HP2⟩; have z2:w1.heap.size <= w2.heap.size:=(zA HP2).size; have HT2:=zB ((zA HP2).tabO (zA HTA) hne); have HN2:=zB hN2; have hgn2:w1.heap.size <= gn:=hgn; have HK2:=zB ((zA HKA).trans (zA HP2)); have tb2:=((zA HP2).cell (b:=w.heap.size) (by show w.heap.size < w1.heap.size; omega) (by omega) 0).trans tA; clear HP2 hN2 hgn)
    | (go_at_call 58; (with_reducible refine (zA HXb).mono ?_); rintro e w2 ⟨⟨gn,cn,rfl,hcn,hgn,hN2⟩,H2,HP2⟩; have z2:w1.heap.size + 1 <= w2.heap.size:=(by have:=(zA HP2).size; simpa using this); have HT2:=zB ((zA HP2).tabO (zA HTB) hne); have HN2:=zB hN2; have hgn2:w1.heap.size <= gn:=(by have:w1.heap.size + 1 <= gn:=(by simpa using hgn); omega); have HK2:=zB ((zA HKB).trans (zA HP2)); have tb2:=((zA HP2).cell (b:=w.heap.size) (by simp; omega) (by omega) 0).trans tB; have x2:=((zA HP2).cell (b:=w1.heap.size) (by simp) (by omega) 0).trans xB; have f2:=((zA HP2).frozen (b:=w1.heap.size) (by simp) (by omega) 0).trans fB; clear HP2 hN2 hgn)
    | (go_at_call 57; have HXC:=zDQ gt 0 ct gn 0 cn ns xs w2 (by omega) (by omega) (zA HT2).ops (zA HSN) (zA HT2).lt1 (zA HN2).ops (zA HSX) (zA HN2).lt1; (with_reducible refine HXC.mono ?_); clear HXC; rintro e w3 ⟨⟨a3,c3,us,v,rfl,HO3,HG3⟩,hb3⟩; have z3:=hb3.size; have H3:=zB ((zA H2).below hb3); have HK3:=zB ((zA HK2).trans (zF.of_below hb3)); have tb3:=(hb3.cell (p:=⟨w.heap.size,0,none⟩) (by show w.heap.size < w2.heap.size; omega)).trans tb2; (try have x3:=(hb3.cell (p:=⟨w1.heap.size,0,none⟩) (by show w1.heap.size < w2.heap.size; omega)).trans x2); (try have f3:=(hb3.frozen (p:=⟨w1.heap.size,0,none⟩) (by show w1.heap.size < w2.heap.size; omega)).trans f2); clear hb3)
    | (go_at_call 57; have HXC:=zDQ gt 0 ct gn 0 cn ns xs (w2.alloc (.cells #[.slice none 0 0] 97)) (by omega) (by omega) ((zA HT2).below (zC _ _) (zA HT2).lt1).ops (zA HSN) (by have:=(zA HT2).lt1; simp; omega) ((zA HN2).below (zC _ _) (zA HN2).lt1).ops (zA HSX) (by have:=(zA HN2).lt1; simp; omega); (with_reducible refine HXC.mono ?_); clear HXC; rintro e w3 ⟨⟨a3,c3,us,v,rfl,HO3,HG3⟩,hb3⟩; have z3:w2.heap.size + 1 <= w3.heap.size:=(by have:=hb3.size; simpa using this); have H3:=zB (((zA H2).below (zC _ _)).below hb3); have HK3:=zB (((zA HK2).trans (zF.of_below (zC _ (.cells #[.slice none 0 0] 97)))).trans (zF.of_below hb3)); have tb3:=(hb3.cell (p:=⟨w.heap.size,0,none⟩) (by simp; omega)).trans (((zC w2 (.cells #[.slice none 0 0] 97)).cell (p:=⟨w.heap.size,0,none⟩) (by show w.heap.size < w2.heap.size; omega)).trans tb2); have x3:w3.cell? ⟨w2.heap.size,0,none⟩ = some (.slice none 0 0):=(hb3.cell (p:=⟨w2.heap.size,0,none⟩) (by simp)).trans (by simp [go_sem]); have f3:w3.frozen? ⟨w2.heap.size,0,none⟩ = false:=(hb3.frozen (p:=⟨w2.heap.size,0,none⟩) (by simp)).trans (by simp [go_sem]); clear hb3))
  obtain ⟨W4,hW4⟩:∃ W4,W4 = w3.alloc (.cells #[.slice a3 us.length c3] 97):=⟨_,rfl⟩
  have t4:W4.cell? ⟨w3.heap.size,0,none⟩ = some (.slice a3 us.length c3):=by rw [hW4]; simp [go_sem]
  have HG4:=zB (show GrR W4 rp a3 us by rw [hW4]; exact (zA HO3).grR (by omega) (fun g _ hf=>hf.below (zC _ _) hf.lt1))
  have H4:=zB (show RdS W4 rp a cap bs y1 by rw [hW4]; exact (zA H3).below (zC _ _))
  have HK4:=zB (show zF w W4 rp by rw [hW4]; exact (zA HK3).trans (zF.of_below (zC _ _)))
  rw [<- hW4]
  clear hW4
  rotate_left
  obtain ⟨W4,hW4⟩:∃ W4,W4 = w3.setCell ⟨w2.heap.size,0,none⟩ (.slice a3 us.length c3):=⟨_,rfl⟩
  have t4:W4.cell? ⟨w2.heap.size,0,none⟩ = some (.slice a3 us.length c3):=by rw [hW4]; exact World.cell?_setCell_same _ _ _ x3
  have HG4:=zB (show GrR W4 rp a3 us by rw [hW4]; exact (zA HO3).grR (by simp; omega) (fun g hg hf=>hf.setCell _ _ _ (by simp at hg; omega)))
  have H4:=zB (show RdS W4 rp a cap bs y1 by rw [hW4]; exact (zA H3).set _ _ _ (by omega))
  have HK4:=zB (show zF w W4 rp by rw [hW4]; exact (zA HK3).setNew _ _ (by omega))
  rw [<- hW4]
  clear hW4 x3 f3
  rotate_left
  obtain ⟨W4,hW4⟩:∃ W4,W4 = w3.setCell ⟨w1.heap.size,0,none⟩ (.slice a3 us.length c3):=⟨_,rfl⟩
  have t4:W4.cell? ⟨w1.heap.size,0,none⟩ = some (.slice a3 us.length c3):=by rw [hW4]; exact World.cell?_setCell_same _ _ _ x3
  have HG4:=zB (show GrR W4 rp a3 us by rw [hW4]; exact (zA HO3).grR (by omega) (fun g hg hf=>hf.setCell _ _ _ (by omega)))
  have H4:=zB (show RdS W4 rp a cap bs y1 by rw [hW4]; exact (zA H3).set _ _ _ (by omega))
  have HK4:=zB (show zF w W4 rp by rw [hW4]; exact (zA HK3).setNew _ _ (by omega))
  rw [<- hW4]
  clear hW4 x3 f3 x2 f2
  rotate_left
  all_goals
   clear HXa HXb HTA HTB HKA HKB HT2 HN2 HK2 H2 H3 HK3 HO3 tA tB xB fB tb2 tb3
   have z4:=(zA HK4).size
   have lt4:=block_lt_of_cell t4
   cases v with
   | false=>
    go_wp2_with fail
    go_ret
    refine ⟨W4.heap.size,1,y1,[⟨#[97]⟩],rfl,zB (za.lit (by omega) _),by decide,by decide,zB (fun s hs=>by simp at hs; subst hs; decide),zB (Or.inr ⟨by rw [<- zA HK]; exact hk3,us,false,?_,Or.inl ⟨rfl,rfl,?_⟩⟩),zB ((zA H4).below (zC _ _)),zB ((zA HK4).trans (zF.of_below (zC _ _)))⟩
    ·have:=zA HG3
     rw [show gnW bs ns (adv bs p) = (y1,xs) from zA HYE]
     exact this
    ·rw [show gnW bs ns (adv bs p) = (y1,xs) from zA HYE]
   | true=>
    obtain ⟨T,hT,hus,htz,htx⟩:=zJp hyl2 (zA HYS) (zA HG3)
    have hp:=hT.pos
    have hul:us.length = tsz T:=by rw [hus,ZI]
    obtain ⟨g3,rfl,hg3,hF3⟩:∃ g,a3 = some ⟨g,0,none⟩ /\ rp < g /\ ZB W4 g us us.length:=by
     rcases zA HG4 with h | h
     ·omega
     ·exact h
    have hg3l:=hF3.lt1
    have HF3:=zB hF3
    have HT:=zB hT
    have HUS:=zB hus
    have HTX:=zB htx
    have hu254:us.length <= 254:=by omega
    have hu1:1 <= us.length:=by omega
    have hbN:=zC W4 (.cells #[] 120)
    have HRW:=zB (show Zf (W4.alloc (.cells #[] 120)) W4.heap.size W4.heap.size 0 [] by
     have:=World.ownsRow_lit (base:=W4.heap.size) (e:=120) (size:=4) W4 #[] 0 (Nat.le_refl _) (Nat.zero_le _) rfl
     simpa [Zf,zM] using this)
    have HXC:=zJ5 rp cap a bs hl g3 c3 us W4.heap.size hg3l (by omega) (by omega) (by omega) T hT 0 [] y1 (by rw [hus]; exact zEU T) (by omega) (by simp; omega) W4.heap.size 0 _ (hF3.ops.below hbN hg3l) (by simp) (zA HRW) ((zA H4).below hbN)
    obtain ⟨T',HT'⟩:∃ T',Hid (T' = (moT bs T y1).2):=⟨_,zB rfl⟩
    obtain ⟨q',HQ'⟩:∃ q',Hid (q' = (moT bs T y1).1):=⟨_,zB rfl⟩
    rw [<- zA HT',<- zA HQ',List.nil_append,List.length_nil,Nat.zero_add,<- hul] at HXC
    have hsz':tsz T' <= 508:=by rw [zA HT']; have:=(zFz bs T y1).2; omega
    have HS':=zB (show Sh T' by rw [zA HT']; exact zHq bs T y1 hT)
    have HL':=zB (show TxL 16 T' by rw [zA HT']; exact zHr bs 16 T y1 htx)
    obtain ⟨vs,HVS⟩:∃ vs,Hid (vs = nd T' 0):=⟨_,zB rfl⟩
    rw [<- zA HVS] at HXC
    have hvl:vs.length = tsz T':=by rw [zA HVS,ZI]
    have hv508:vs.length <= 508:=by omega
    have hv1:1 <= vs.length:=by have:=(zA HS').pos; omega
    obtain ⟨j,hjE⟩:∃ j,j = us.length - 1:=⟨_,rfl⟩
    have ej:(us.length:Int) - 1 = (j:Int):=by omega
    rw [<- hjE] at HXC
    have HX5:=zB HXC
    have HVL:=zB hvl
    have HBN:=zB hbN
    clear HXC hul hvl hus htx hT hF3 hjE HG4 htz hp hbN
    go_wp2_with fail
    (with_reducible refine (zA HX5).mono ?_)
    rintro e w5 ⟨g5,c5,rfl,HR5,hg5,H5,HK5⟩
    have z5:W4.heap.size + 1 <= w5.heap.size:=by have:=(zA HK5).size; simpa using this
    obtain ⟨hgB,hF5⟩:=zAz (zA HR5)
    have HXW:=zI9 g5 c5 vs (by omega) T' (zA HS') 0 (by rw [zA HVS]; exact zEU T') (by rw [zA HVL]; omega) w5 hF5.ops hF5.lt1
    rw [Nat.zero_add,<- zA HVL] at HXW
    obtain ⟨j2,hj2⟩:∃ j2,j2 = vs.length - 1:=⟨_,rfl⟩
    have ej2:(vs.length:Int) - 1 = (j2:Int):=by omega
    rw [<- hj2] at HXW
    have HX6:=zB HXW
    have HK6:=zB ((zA HK4).trans (zF.of_below (g:=rp) (zA HBN)))
    have HK7:=zB ((zA HK6).k2 (zA HK5) (by omega))
    clear HXW HX5 hj2 hF5 HK5 HK6
    go_wp2_with fail
    (with_reducible refine (zA HX6).mono ?_)
    rintro e w6 ⟨g6,c6,rfl,HR6,HB6⟩
    have z6:=(zA HB6).size
    clear HX6
    go_wp2_with fail
    go_ret
    have hw1:=zFR (zA HS')
    have hw2:=zFP T'
    refine ⟨g6,c6,q',wdT T',rfl,zB (za.low (zA HR6) (by omega)),by omega,by omega,zB (zJo (by decide) T' (zA HL')),zB (Or.inr ⟨by rw [<- zA HK]; exact hk3,us,true,?_,Or.inr ⟨rfl,T,zA HT,zA HUS,?_,?_⟩⟩),zB ((zA H5).below (zA HB6)),zB ((zA HK7).trans (zF.of_below (zA HB6)))⟩
    ·rw [show gnW bs ns (adv bs p) = (y1,xs) from zA HYE]
     exact zA HG3
    ·rw [show gnW bs ns (adv bs p) = (y1,xs) from zA HYE,zA HT']
    ·rw [show gnW bs ns (adv bs p) = (y1,xs) from zA HYE,zA HQ']
end Go.Proofs.YtgiemobdmbijiaaGreatDoor
