import Derived.Test.YtfboipappaonhaaGreatP00
import Derived.Test.YtfboipappaonhaaGreatP04
import Derived.Test.YtfboipappaonhaaGreatP08
import Derived.Test.YtfboipappaonhaaGreatP25
namespace Go.Proofs.YtfboipappaonhaaGreat
set_option linter.unusedSimpArgs false
set_option linter.unusedVariables false
set_option maxHeartbeats 16000000
set_option maxRecDepth 100000
open Go.RowKit
theorem zFc {xs:List zD} (h:ZL xs) {i:Nat} (hi:1 <= i):1 <= cnt xs i:=by
 have:=zIe xs 1 i hi
 rw [zKv h] at this
 exact this
theorem zAe (b off cap bz offz cz:Nat) (ns:List OpR) (xs zs:List zD) (hm:ns.length <= 1048576) (hsz:ZV ns) (hord:ZL xs) (hkn:zDi ns xs) (hzs:zs = er xs xs.length):∀ n i f,i < n -> i < xs.length -> frS xs i = some f -> ∀ (j:Nat) (least:Int) (B:Nat) (u:Value) (us vs:List zD) (w:World),j + 1 = cnt xs (i + 1) -> Ops w b off ns -> b < B -> Zw w bz offz zs -> bz < B -> B <= w.heap.size -> zn w B u us -> us.length + 2 * (i + 1 - f) <= 80000 -> vs = us ++ gS ns xs i least us.length ->
  Calls Tryz.prog 52 #[.agg #[.slice (some ⟨b,off,none⟩) ns.length cap],.slice (some ⟨bz,offz,none⟩) zs.length cz,.int .i64 (j:Int),.int .i64 least,u] w (Zs w B u vs)
 | 0,_,_,h,_,_=>absurd h (Nat.not_lt_zero _)
 | n + 1,i,f,h,hi,hf=>by
  intro j least B u us vs w hj hw hb hwz hbz hB hrow hlen hvs
  have hzl:zs.length <= 20000:=by
   rw [hzs,zBd]
   have:=zDp xs xs.length
   have:=hord.2.1
   omega
  have hso:ZD (atN xs i) -> ∃ j,fnd ns (atN xs i).t ((atN xs i).k - 2) = some j:=fun ho=>by
   cases e:fnd ns (atN xs i).t ((atN xs i).k - 2) with
   | none=>exact absurd e (hkn i hi ho)
   | some j=>exact ⟨j,rfl⟩
  rcases zBt hf with ⟨hk,ha,hbb,hfi⟩ | ⟨hk,h1i,ha,hbb,hf1⟩ | ⟨hk,h1i,hbb,f2,hf2,h2f,ha,hf1⟩
  ·have h6:(atN xs i).k ≠ 6:=fun e=>by rw [e] at hk; simp [zR] at hk
   obtain ⟨hjl,hat⟩:=zMc (m:=xs.length) hi h6
   rw [zEw h6] at hj
   have ej:j = cnt xs i:=by omega
   subst ej
   rw [<- hzs] at hjl hat
   refine zNm b off cap bz offz cz _ ns zs (atN xs i) least B u us vs w hm hw hb hwz hbz hB hrow hjl hzl ?_ hk (by omega) ?_
   ·rw [hat]; simp [erN,hk]
   ·rw [hvs,zHh hk]
  ·have hle:=zAM hf1
   have hci:=zFc hord h1i
   have hii:i - 1 + 1 = i:=by omega
   have hln:=zCu ns xs i (i - 1) f (by omega) hf1
   by_cases h6:(atN xs i).k = 6
   ·refine zAe b off cap bz offz cz ns xs zs hm hsz hord hkn hzs n (i - 1) f (by omega) (by omega) hf1 j least B u us vs w ?_ hw hb hwz hbz hB hrow (by omega) ?_
    ·rw [hj,zLD h6,hii]
    ·rw [hvs,zFw h6 h1i hf1]
   ·obtain ⟨hjl,hat⟩:=zMc (m:=xs.length) hi h6
    rw [zEw h6] at hj
    have ej:j = cnt xs i:=by omega
    subst ej
    rw [<- hzs] at hjl hat
    have hop:ZD (atN xs i):=by
     unfold zR at hk
     unfold ZD
     split at hk
     ·omega
     ·split at hk <;> omega
    obtain ⟨jj,hjj⟩:=hso hop
    have hole:∀ bb,ZE ns (atN xs i) bb = zz (atO ns jj).s (atO ns jj).k (atO ns jj).l (atO ns jj).sd bb:=fun bb=>by
     unfold ZE; rw [hjj]; rfl
    obtain ⟨U,hU⟩:∃ U,U = gS ns xs (i - 1) (ZE ns (atN xs i) false) us.length:=⟨_,rfl⟩
    have hl1:=(hln (ZE ns (atN xs i) false) us.length).2
    rw [<- hU] at hl1
    refine zOU b off cap bz offz cz _ (cnt xs i - 1) jj ns zs (atN xs i) least B u us (us ++ U) vs w hm hsz hw hb hwz hbz hB hrow hjl hzl ?_ hop hk hjj (by rw [List.length_append]; omega) rfl ?_ ?_
    ·rw [hat]
     have e1:((i:Int) - 1).toNat + 1 = i:=by omega
     unfold erN mvd
     rw [hk,ha,e1,if_neg (by decide),if_neg (by decide)]
     congr 1
     omega
    ·rw [hvs,zJc hk h6 h1i hf1 least us.length hU,List.length_append]
    ·intro W hW hWz hBW hrW
     rw [<- hole false]
     exact zAe b off cap bz offz cz ns xs zs hm hsz hord hkn hzs n (i - 1) f (by omega) (by omega) hf1 (cnt xs i - 1) _ B u us _ W (by rw [hii]; omega) hW hb hWz hbz hBW hrW (by omega) (by rw [hU])
  ·have hle:=zAM hf2
   have hle1:=zAM hf1
   have hci:=zFc hord h1i
   have hcf:=zFc hord h2f
   have hii:i - 1 + 1 = i:=by omega
   have hff:f2 - 1 + 1 = f2:=by omega
   have h6:(atN xs i).k ≠ 6:=fun e=>by rw [e] at hk; simp [zR] at hk
   obtain ⟨hjl,hat⟩:=zMc (m:=xs.length) hi h6
   rw [zEw h6] at hj
   have ej:j = cnt xs i:=by omega
   subst ej
   rw [<- hzs] at hjl hat
   have hop:ZD (atN xs i):=by
    unfold zR at hk
    unfold ZD
    split at hk
    ·omega
    ·split at hk <;> omega
   obtain ⟨jj,hjj⟩:=hso hop
   have hole:∀ bb,ZE ns (atN xs i) bb = zz (atO ns jj).s (atO ns jj).k (atO ns jj).l (atO ns jj).sd bb:=fun bb=>by
    unfold ZE; rw [hjj]; rfl
   obtain ⟨U,hU⟩:∃ U,U = gS ns xs (f2 - 1) (ZE ns (atN xs i) false) us.length:=⟨_,rfl⟩
   obtain ⟨U2,hU2⟩:∃ U2,U2 = gS ns xs (i - 1) (ZE ns (atN xs i) true) (us.length + U.length):=⟨_,rfl⟩
   have hl1:=(zCu ns xs i (f2 - 1) f (by omega) hf1 (ZE ns (atN xs i) false) us.length).2
   have hl2:=(zCu ns xs i (i - 1) f2 (by omega) hf2 (ZE ns (atN xs i) true) (us.length + U.length)).2
   rw [<- hU] at hl1
   rw [<- hU2] at hl2
   refine zOV b off cap bz offz cz _ (cnt xs f2 - 1) (cnt xs i - 1) jj ns zs (atN xs i) least B u us (us ++ U) (us ++ U ++ U2) vs w hm hsz hw hb hwz hbz hB hrow hjl hzl ?_ hop hk hjj (by rw [List.length_append,List.length_append]; omega) rfl rfl ?_ ?_ ?_
   ·rw [hat]
    have e1:((i:Int) - 1).toNat + 1 = i:=by omega
    have e2:((f2:Int) - 1).toNat + 1 = f2:=by omega
    unfold erN mvd
    rw [hk,ha,hbb,e1,e2,if_neg (by decide),if_pos rfl]
    congr 1 <;> omega
   ·rw [hvs,zJd hk h1i hf2 h2f ha hf1 least us.length hU hU2]
    simp only [List.length_append]
   ·intro W hW hWz hBW hrW
    rw [<- hole false]
    exact zAe b off cap bz offz cz ns xs zs hm hsz hord hkn hzs n (f2 - 1) f (by omega) (by omega) hf1 (cnt xs f2 - 1) _ B u us _ W (by rw [hff]; omega) hW hb hWz hbz hBW hrW (by omega) (by rw [hU])
   ·intro u' W hW hWz hBW hrW
    rw [<- hole true]
    exact zAe b off cap bz offz cz ns xs zs hm hsz hord hkn hzs n (i - 1) f2 (by omega) (by omega) hf2 (cnt xs i - 1) _ B u' (us ++ U) _ W (by rw [hii]; omega) hW hb hWz hbz hBW hrW (by rw [List.length_append]; omega) (by rw [hU2,List.length_append])
theorem zEx (b off cap bn offn cn:Nat) (xs:List OpR) (ns:List zD) (w:World) (hm:xs.length <= 1048576) (hw:Ops w b off xs) (hsz:ZV xs) (hB:b < w.heap.size) (hc:¬ zM xs 0) :
  Calls Tryz.prog 51 #[.agg #[.slice (some ⟨b,off,none⟩) xs.length cap],.agg #[.slice (some ⟨bn,offn,none⟩) ns.length cn]] w fun e w'=>e = .returned (.bool false) /\ Below w.heap.size w w':=by
 have HW:=zB hw
 have HZ:=zB hsz
 have HC:=zB hc
 clear hw hsz hc
 go_enter Tryz.func51,Tryz.ntmps51
 go_wp2_with fail
 refine (Zo b off cap xs _ hm ((zA HW).below ((zC _ _).alloc (by simp) _) hB) (zA HZ) (by simp; omega)).mono ?_
 rintro e w1 ⟨⟨c,rfl,h⟩,hb1⟩
 have hc0:(c != 0) = true:=by
  rw [bne_iff_ne]
  intro e
  exact (zA HC) (e ▸ h)
 have bel1:Below w.heap.size w w1:=((zC _ _).alloc (by simp) _).trans (hb1.mono (by simp; omega))
 clear h hb1
 go_wp2_with fail
 go_ret
 exact ⟨rfl,bel1⟩
theorem zEy (b off cap bn offn cn:Nat) (xs:List OpR) (ns:List zD) (w:World) (hm:xs.length <= 1048576) (hmn:ns.length <= 1048576) (hw:Ops w b off xs) (hsz:ZV xs) (hB:b < w.heap.size) (hwn:Zw w bn offn ns) (hsn:zBc ns) (hBn:bn < w.heap.size) :
  Calls Tryz.prog 51 #[.agg #[.slice (some ⟨b,off,none⟩) xs.length cap],.agg #[.slice (some ⟨bn,offn,none⟩) ns.length cn]] w fun e w'=>zCQ e (zM xs 0 /\ ZL ns /\ zDi xs ns) /\ Below w.heap.size w w':=by
 by_cases hc:zM xs 0
 ·refine (zEv b off cap bn offn cn xs ns w hm hmn hw hsz hB hwn hsn hBn hc).mono ?_
  rintro e w' ⟨⟨v,rfl,hv⟩,hb⟩
  exact ⟨⟨v,rfl,⟨fun h=>⟨hc,hv.1 h⟩,fun h=>hv.2 h.2⟩⟩,hb⟩
 ·refine (zEx b off cap bn offn cn xs ns w hm hw hsz hB hc).mono ?_
  rintro e w' ⟨rfl,hb⟩
  exact ⟨⟨false,rfl,zL (fun h=>hc h.1)⟩,hb⟩
theorem zDj (b off cap bn offn cn:Nat) (ns:List OpR) (xs:List zD) (w:World) (hm:ns.length <= 1048576) (hmn:xs.length <= 1048576) (hw:Ops w b off ns) (hsz:ZV ns) (hB:b < w.heap.size) (hwn:Zw w bn offn xs) (hsn:zBc xs) (hBn:bn < w.heap.size) :
  Calls Tryz.prog 18 #[.agg #[.slice (some ⟨b,off,none⟩) ns.length cap],.agg #[.slice (some ⟨bn,offn,none⟩) xs.length cn]] w fun e w'=>(∃ (a:Option Addr) (c:Nat) (us:List zD) (v:Bool),e = .returned (.tuple #[.agg #[.slice a us.length c],.bool v]) /\ Hid (Z8 w' w.heap.size a us) /\ Hid (zDU ns xs us v)) /\ Below w.heap.size w w':=by
 have HW:=zB hw
 have HWN:=zB hwn
 have HZ:=zB hsz
 have HZN:=zB hsn
 have HB0:=zB (show ∀ o1 o2 o3:Obj,Below w.heap.size w (((w.alloc o1).alloc o2).alloc o3) from fun o1 o2 o3=>((zC w o1).alloc (by simp) o2).alloc (by simp; omega) o3)
 clear hw hwn hsz hsn
 go_enter Tryz.func18,Tryz.ntmps18
 go_wp2_with fail
 refine (zEy b off cap bn offn cn ns xs _ hm hmn ((zA HW).below ((zA HB0) _ _ _) hB) (zA HZ) (by simp; omega) ((zA HWN).below ((zA HB0) _ _ _) hBn) (zA HZN) (by simp; omega)).mono ?_
 rintro e w1 ⟨⟨v,rfl,hv⟩,hb1⟩
 have HV:=zB hv
 have bel1:Below w.heap.size w w1:=((zA HB0) _ _ _).trans (hb1.mono (by simp; omega))
 have z1:w.heap.size + 3 <= w1.heap.size:=by have:=hb1.size; simp at this; omega
 have HCS:=zB (show Cs [(w.heap.size,0,.slice (some ⟨b,off,none⟩) ns.length cap),(w.heap.size + 1,0,.slice (some ⟨bn,offn,none⟩) xs.length cn),(w.heap.size + 1 + 1,0,.slice none 0 0)] w1 from Cs.below (fun p hp=>by
  simp only [List.mem_cons,List.not_mem_nil,or_false] at hp
  rcases hp with rfl | rfl | rfl
  ·simp [go_sem]
  ·simp [go_sem]
  ·simp [go_sem]) hb1)
 have d1:w1.frozen? ⟨w.heap.size + 1 + 1,0,none⟩ = false:=(hb1.frozen (p:=⟨w.heap.size + 1 + 1,0,none⟩) (by simp)).trans (by simp [go_sem])
 have c0:=(zA HCS) (w.heap.size,0,.slice (some ⟨b,off,none⟩) ns.length cap) (by simp)
 have c1:=(zA HCS) (w.heap.size + 1,0,.slice (some ⟨bn,offn,none⟩) xs.length cn) (by simp)
 have c2:=(zA HCS) (w.heap.size + 1 + 1,0,.slice none 0 0) (by simp)
 simp only at c0 c1 c2
 clear hv hb1 HB0
 cases v
 ·have HF:=zB (show ∀ W:World,W = w1.setCell ⟨w.heap.size + 1 + 1,0,none⟩ (.slice none 0 0) -> Below w.heap.size w W from fun W hW=>by rw [hW]; exact bel1.setCell (by simp; omega) _)
  go_wp2_with fail
  refine bodyPost_ret (v:=.tuple #[.agg #[.slice none 0 0],.bool false]) ?res rfl ⟨⟨none,0,[],false,rfl,zB (Or.inl ⟨rfl,rfl⟩),zB (Or.inr ⟨fun h=>Bool.false_ne_true ((zA HV).2 h.1),rfl,rfl⟩)⟩,(zA HF) _ rfl⟩
  case res=>simp [results,Tryz.results18,go_sem,c2]
 have HY:=zB ((zA HV).1 rfl)
 clear HV
 have h20:=(zA HY).2.1.2.1
 have h1:=(zA HY).2.1.1
 go_wp2_with fail
 refine (zGf bn offn cn xs _ hmn ((zA HWN).below bel1 hBn) (zA HZN) (Nat.lt_of_lt_of_le hBn bel1.size)).mono ?_
 rintro e w2 ⟨⟨a2,k2,zs,v,rfl,hown,her⟩,hb2⟩
 have hzs:v = true /\ zs = er xs xs.length:=by
  rcases zA her with ⟨_,h,h'⟩ | ⟨h,_⟩
  ·exact ⟨h,h'⟩
  ·exact absurd (zA HY).2.1 h
 obtain ⟨rfl,hz⟩:=hzs
 have hzl:zs.length = cnt xs xs.length:=by rw [hz,zBd]
 have hzp:=zFc (zA HY).2.1 h1
 have hzm:=zDp xs xs.length
 obtain ⟨g2,rfl,hg2,hfil⟩:∃ g,a2 = some ⟨g,0,none⟩ /\ w1.heap.size <= g /\ zv w2 g zs zs.length:=by
  rcases zA hown with ⟨h,_⟩ | h
  ·omega
  ·exact h
 have hgl:=hfil.1
 have HZ2:=zB (hfil.ops)
 have HER:=zB hz
 have bel2:=bel1.trans (hb2.mono bel1.size)
 have z2:w1.heap.size <= w2.heap.size:=hb2.size
 have HC2:=zB ((zA HCS).below hb2)
 have d2:w2.frozen? ⟨w.heap.size + 1 + 1,0,none⟩ = false:=(hb2.frozen (p:=⟨w.heap.size + 1 + 1,0,none⟩) (show w.heap.size + 1 + 1 < w1.heap.size by omega)).trans d1
 have HZL:=zB hzl
 have hz20:zs.length <= 20000:=by omega
 have hz1:1 <= zs.length:=by omega
 clear hown her hfil hb2 HCS hz c0 c1 c2 d1 hzl hzp hzm bel1
 obtain ⟨W3,HW3⟩:∃ W3,Hid (W3 = (w2.alloc (.cells #[.slice (some ⟨g2,0,none⟩) zs.length k2] 28)).alloc (.cells #[] 81)):=⟨_,zB rfl⟩
 have hb3:Below w2.heap.size w2 W3:=by rw [zA HW3]; exact (zC _ _).alloc (by simp) _
 have s3:W3.heap.size = w2.heap.size + 2:=by rw [zA HW3]; simp
 have bel3:=bel2.trans (hb3.mono bel2.size)
 have HR3:=zB (show zn W3 (w2.heap.size + 1) (.slice (some ⟨w2.heap.size + 1,0,none⟩) 0 0) [] by
  rw [zA HW3]
  have:=World.ownsRow_lit (base:=w2.heap.size + 1) (e:=81) (size:=4) (w2.alloc (.cells #[.slice (some ⟨g2,0,none⟩) zs.length k2] 28)) #[] 0 (by simp) (Nat.zero_le _) rfl
  simpa [zn,zH] using this)
 have HC3:=zB ((zA HC2).below hb3)
 have d3:W3.frozen? ⟨w.heap.size + 1 + 1,0,none⟩ = false:=(hb3.frozen (p:=⟨w.heap.size + 1 + 1,0,none⟩) (show w.heap.size + 1 + 1 < w2.heap.size by omega)).trans d2
 obtain ⟨vs,hvs⟩:∃ vs,vs = gS ns xs (xs.length - 1) 0 0:=⟨_,rfl⟩
 have hvl:=zCu ns xs xs.length (xs.length - 1) 0 (by omega) (zA HY).2.1.2.2.1 0 0
 rw [<- hvs] at hvl
 have ei:(zs.length:Int) - 1 = ((zs.length - 1:Nat):Int):=by omega
 have HCALL:=zB (zAe b off cap g2 0 k2 ns xs zs hm (zA HZ) (zA HY).2.1 (zA HY).2.2 (zA HER) xs.length (xs.length - 1) 0 (by omega) (by omega) (zA HY).2.1.2.2.1 (zs.length - 1) 0 (w2.heap.size + 1) (.slice (some ⟨w2.heap.size + 1,0,none⟩) 0 0) [] vs W3 (by rw [Nat.sub_add_cancel h1,<- zA HZL]; omega) ((zA HW).below bel3 hB) (by have:=bel2.size; omega) ((zA HZ2).below hb3 hgl) (by omega) (by omega) (zA HR3) (by rw [List.length_nil]; omega) (by rw [List.nil_append,List.length_nil]; exact hvs))
 rw [zA HW3] at HCALL
 have HVS:=zB hvs
 have hvl1:=hvl.1
 have hvl2:=hvl.2
 have c0:w2.cell? ⟨w.heap.size,0,none⟩ = some (.slice (some ⟨b,off,none⟩) ns.length cap):=(zA HC2) (w.heap.size,0,.slice (some ⟨b,off,none⟩) ns.length cap) (by simp)
 have hT:w.heap.size < w2.heap.size:=by omega
 clear hvs hvl HR3
 go_wp2_with fail
 refine (zA HCALL).mono ?_
 rw [<- zA HW3]
 rintro x w4 ⟨u',rfl,hr,hg,ho⟩
 obtain ⟨g4,c4,rfl,hg4,hfil⟩:=(show zn w4 (w2.heap.size + 1) u' vs -> ∃ g c,u' = .slice (some ⟨g,0,none⟩) vs.length c /\ w2.heap.size + 1 <= g /\ zv w4 g vs vs.length from fun h=>by
  have hh:=h
  unfold zn at hh
  obtain ⟨_,⟨rfl,h0⟩ | ⟨g,cap,cur,rfl,_⟩⟩:=h
  ·omega
  ·have:=zA5 hh
   exact ⟨g,cap,rfl,this.1,this.2⟩) (zA hr)
 have e1:w4.cell? ⟨w.heap.size + 1 + 1,0,none⟩ = some (.slice none 0 0):=(zG (zA hg) (b:=w.heap.size + 1 + 1) (by omega) (by simp [Value.ownBlock]; omega) 0).trans ((zA HC3) (w.heap.size + 1 + 1,0,.slice none 0 0) (by simp))
 have f1:w4.frozen? ⟨w.heap.size + 1 + 1,0,none⟩ = false:=(World.frozen?_of_block (w:=W3) ((zA hg).block (w.heap.size + 1 + 1) (by omega) (by simp [Value.ownBlock]; omega))).trans d3
 have bel4:Below w.heap.size w w4:=bel3.trans ⟨(zA hg).os,(zA hg).tape,(zA hg).output,(zA hg).size,fun i hi=>(zA hg).block i (by have:=bel3.size; omega) (by simp [Value.ownBlock]; have:=bel2.size; omega)⟩
 have HFIL:=zB hfil
 clear hr hg ho hfil HCALL HC2 HC3 d2 d3 c0 hb3 HW3
 by_cases hq:vs.length <= 20000
 ·have hq':¬ (20000:Int) < (vs.length:Int):=by omega
  go_wp2_with fail
  refine bodyPost_ret (v:=.tuple #[.agg #[.slice (some ⟨g4,0,none⟩) vs.length c4],.bool true]) ?res rfl ⟨⟨some ⟨g4,0,none⟩,c4,vs,true,rfl,zB (Or.inr ⟨g4,rfl,by omega,?_⟩),zB (Or.inl ⟨⟨zA HY,by rw [<- zA HVS]; exact hq⟩,rfl,zA HVS⟩)⟩,?_⟩
  case res=>simp [results,Tryz.results18,go_sem,e1]
  ·exact (zA HFIL).setCell _ _ _ (by omega)
  ·exact bel4.setCell (by simp; omega) _
 ·have hq':(20000:Int) < (vs.length:Int):=by omega
  go_wp2_with fail
  refine bodyPost_ret (v:=.tuple #[.agg #[.slice none 0 0],.bool false]) ?res rfl ⟨⟨none,0,[],false,rfl,zB (Or.inl ⟨rfl,rfl⟩),zB (Or.inr ⟨fun h=>hq (by rw [zA HVS]; exact h.2),rfl,rfl⟩)⟩,?_⟩
  case res=>simp [results,Tryz.results18,go_sem,e1]
  ·exact bel4.setCell (by simp; omega) _
theorem zm.lt1 {w:World} {g k:Nat} {xs:List OpR} (h:zm w g xs k):g < w.heap.size:=h.1
theorem zv.lt1 {w:World} {g k:Nat} {xs:List zD} (h:zv w g xs k):g < w.heap.size:=h.1
theorem zFi.step {w w':World} {a:Option Addr} {l:List UInt8} (h:zFi w a l) (hb:Below w.heap.size w w'):zFi w' a l:=by
 rcases h with h | ⟨b,off,rfl,hb',hc⟩
 ·exact Or.inl h
 ·exact Or.inr ⟨b,off,rfl,Nat.lt_of_lt_of_le hb' hb.size,fun i hi=>(hb.cell (p:=⟨b,off + i,none⟩) hb').trans (hc i hi)⟩
end Go.Proofs.YtfboipappaonhaaGreat
