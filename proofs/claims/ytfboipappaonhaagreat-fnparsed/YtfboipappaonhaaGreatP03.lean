import Derived.Test.YtfboipappaonhaaGreatP00
import Derived.Test.YtfboipappaonhaaGreatP01
import Derived.Test.YtfboipappaonhaaGreatP02
namespace Go.Proofs.YtfboipappaonhaaGreat
set_option maxHeartbeats 16000000
set_option maxRecDepth 100000
open Go.RowKit
theorem zGy {o:zD} (h:20000 < o.t.size):¬ zAL o:=fun h'=>by have:=h'.1; omega
theorem zKN {o:zD} (h:o.t.size <= 20000) (hk:o.k = 1):zAL o ↔ zDA o.t:=by
 unfold zAL; rw [hk]; simp [h]
theorem zKO {o:zD} (h:o.t.size <= 20000) (hk:o.k = 2):zAL o ↔ zBH o.t:=by
 unfold zAL; rw [hk]; simp [h]
theorem zKP {o:zD} (hk:o.k = 6):zAL o ↔ o.t.size = 0:=by
 unfold zAL; rw [hk]
 refine ⟨fun h=>?_,fun h=>⟨by omega,Or.inr (Or.inr (Or.inl ⟨rfl,h⟩))⟩⟩
 rcases h.2 with h | h | h | h
 ·omega
 ·omega
 ·exact h.2
 ·omega
theorem zFT {o:zD} (h:o.t.size <= 20000) (hk:o.k = 3 \/ o.k = 4 \/ o.k = 5):zAL o ↔ zDn o.t = true:=by
 unfold zAL; rcases hk with hk | hk | hk <;> rw [hk] <;> simp [h]
theorem zHb {o:zD} (hk:¬ (o.k = 1 \/ o.k = 2 \/ o.k = 3 \/ o.k = 4 \/ o.k = 5 \/ o.k = 6)):¬ zAL o:=by
 unfold zAL; rintro ⟨_,h | h | h | h⟩
 ·omega
 ·omega
 ·omega
 ·omega
theorem zHc (o:zD) (w:World) (hs:o.t.size <= maxLen) :
  Calls Tryz.prog 121 #[.agg #[.int .i64 o.k,.string o.t,.int .i64 o.a,.int .i64 o.b]] w fun e w'=>zCQ e (zAL o) /\ Below w.heap.size w w':=by
 have HS:=zB hs
 unfold maxLen at hs
 by_cases hbig:20000 < o.t.size
 ·have hbigI:(20000:Int) < (o.t.size:Int):=by omega
  have HN:=zB (zGy hbig)
  clear hbig
  go_enter Tryz.func121,Tryz.ntmps121
  go_wp2_with fail
  go_ret
  exact ⟨⟨_,rfl,zL (zA HN)⟩,zC _ _⟩
 have hbigI:¬ (20000:Int) < (o.t.size:Int):=by omega
 have hsm:o.t.size <= 20000:=by omega
 clear hbig
 by_cases k1:o.k = 1
 ·have HT:=zB (zKN hsm k1)
  rw [k1]
  clear k1
  go_enter Tryz.func121,Tryz.ntmps121
  go_wp2_with (go_at_call 145; refine (zDC _ _ (zA HS)).mono ?_; rintro e w' ⟨⟨v,rfl,hv⟩,rfl⟩)
  go_ret
  exact ⟨⟨_,rfl,hv.trans (zA HT).symm⟩,zC _ _⟩
 by_cases k2:o.k = 2
 ·have HT:=zB (zKO hsm k2)
  rw [k2]
  clear k1 k2
  go_enter Tryz.func121,Tryz.ntmps121
  go_wp2_with (go_at_call 146; refine (zD6 _ _ (zA HS)).mono ?_; rintro e w' ⟨⟨v,rfl,hv⟩,rfl⟩)
  go_ret
  exact ⟨⟨_,rfl,hv.trans (zA HT).symm⟩,zC _ _⟩
 by_cases k6:o.k = 6
 ·have HT:=zB (zKP k6)
  rw [k6]
  clear k1 k2 k6
  by_cases h0:o.t.size = 0
  ·rw [zEj h0]
   go_enter Tryz.func121,Tryz.ntmps121
   go_wp2_with fail
   go_ret
   exact ⟨⟨_,rfl,Ze ((zA HT).2 h0)⟩,zC _ _⟩
  ·have hne:o.t.toList.isEmpty = false:=zEi h0
   go_enter Tryz.func121,Tryz.ntmps121
   go_wp2_with fail
   go_ret
   exact ⟨⟨_,rfl,zL (fun h=>h0 ((zA HT).1 h))⟩,zC _ _⟩
 have e1:(o.k == 1) = false:=by simpa using k1
 have e2:(o.k == 2) = false:=by simpa using k2
 have e6:(o.k == 6) = false:=by simpa using k6
 by_cases k3:3 <= o.k
 ·by_cases k5:o.k <= 5
  ·have HT:=zB (zFT hsm (by omega))
   clear k1 k2 k6
   go_enter Tryz.func121,Tryz.ntmps121
   go_wp2_with (go_at_call 142; refine (zDD _ _ (zA HS)).mono ?_; rintro e w' ⟨rfl,rfl⟩)
   go_ret
   exact ⟨⟨_,rfl,(zA HT).symm⟩,zC _ _⟩
  ·have HT:=zB (zHb (o:=o) (by omega))
   clear k1 k2 k6
   go_enter Tryz.func121,Tryz.ntmps121
   go_wp2_with fail
   go_ret
   exact ⟨⟨_,rfl,zL (zA HT)⟩,zC _ _⟩
 ·have HT:=zB (zHb (o:=o) (by omega))
  clear k1 k2 k6
  go_enter Tryz.func121,Tryz.ntmps121
  go_wp2_with fail
  go_ret
  exact ⟨⟨_,rfl,zL (zA HT)⟩,zC _ _⟩
theorem zDg (b off cap:Nat) (xs:List zD) (w:World) (hm:xs.length <= 1048576) (hw:Zw w b off xs) (hs:zBc xs) (hB:b < w.heap.size) :
  Calls Tryz.prog 72 #[.agg #[.slice (some ⟨b,off,none⟩) xs.length cap]] w fun e w'=>zCQ e (ZL xs) /\ Below w.heap.size w w':=by
 have HW:=zB hw
 have HS:=zB hs
 clear hw hs
 by_cases h1:xs.length < 1
 ·have h1I:(xs.length:Int) < 1:=by omega
  have HN:=zB (show ¬ ZL xs from fun h=>by have:=h.1; omega)
  go_enter Tryz.func72,Tryz.ntmps72
  go_wp2_with fail
  go_ret
  exact ⟨⟨_,rfl,zL (zA HN)⟩,zC _ _⟩
 have h1I:¬ (xs.length:Int) < 1:=by omega
 by_cases h2:20000 < xs.length
 ·have h2I:(20000:Int) < (xs.length:Int):=by omega
  have HN:=zB (show ¬ ZL xs from fun h=>by have:=h.2.1; omega)
  go_enter Tryz.func72,Tryz.ntmps72
  go_wp2_with fail
  go_ret
  exact ⟨⟨_,rfl,zL (zA HN)⟩,zC _ _⟩
 have h2I:¬ (20000:Int) < (xs.length:Int):=by omega
 have ei:(xs.length:Int) - 1 = ((xs.length - 1:Nat):Int):=by omega
 by_cases h3:frS xs (xs.length - 1) = some 0
 case neg=>
  have h3I:(frI xs (xs.length - 1) != 0) = true:=by
   unfold frI
   cases hf:frS xs (xs.length - 1) with
   | none=>rfl
   | some f=>
    simp only [bne_iff_ne,ne_eq]
    intro e
    have:f = 0:=by omega
    subst this
    exact h3 hf
  have HN:=zB (show ¬ ZL xs from fun h=>h3 h.2.2.1)
  clear h3
  go_enter Tryz.func72,Tryz.ntmps72
  go_wp2_with (go_at_call 120; refine (zDr b off cap xs hm xs.length (xs.length - 1) _ (by omega) (by omega) ((zA HW).below (zC _ _) hB) (by simp; omega)).mono ?_; rintro e w' ⟨rfl,hb1⟩)
  go_ret
  exact ⟨⟨_,rfl,zL (zA HN)⟩,(zC _ _).trans (hb1.mono (by simp))⟩
 have HI:=zB (zFm h3)
 have H3:=zB h3
 clear h3
 go_enter Tryz.func72,Tryz.ntmps72
 go_wp2_with fail
 refine (zDr b off cap xs hm xs.length (xs.length - 1) _ (by omega) (by omega) ((zA HW).below (zC _ _) hB) (by simp; omega)).mono ?_
 rw [zA HI]
 rintro e w1 ⟨rfl,hb1⟩
 have bel1:Below w.heap.size w w1:=(zC _ _).trans (hb1.mono (by simp))
 clear hb1
 go_wp2_with fail
 go_loopw [4] (fun i wr=>∃ k:Nat,k <= xs.length /\ i = .int .i64 (k:Int) /\ Hid (∀ j,j < k -> zAL (atN xs j)) /\ Below w.heap.size w wr) (fun i _=>xs.length - (intOf i).toNat)
 case atStart=>exact ⟨0,Nat.zero_le _,rfl,zB (fun j hj=>absurd hj (Nat.not_lt_zero j)),bel1⟩
 case round=>
  obtain ⟨k,hk,rfl,hok,hbel⟩:=hrel
  by_cases hlt:k < xs.length
  ·obtain ⟨c0,c1,c2,c3⟩:=((zA HW) k hlt).below hbel hB
   have hltI:(k:Int) < (xs.length:Int):=by omega
   go_wp2_with fail
   refine (zHc (atN xs k) _ ((zA HS) k hlt)).mono ?_
   rintro e w2 ⟨⟨v,rfl,hv⟩,hb2⟩
   have bel2:=hbel.trans (hb2.mono hbel.size)
   have HV:=zB hv
   clear hv hb2
   cases v
   ·go_wp2_with fail
    go_ret
    exact ⟨⟨_,rfl,zL (fun h=>Bool.false_ne_true ((zA HV).2 (h.2.2.2 k hlt)))⟩,bel2⟩
   ·go_wp2_with fail
    refine ⟨⟨k + 1,by omega,by go_num,zB (fun j hj=>?_),bel2⟩,by simp [intOf]; omega⟩
    by_cases e:j = k
    ·subst e; exact (zA HV).1 rfl
    ·exact (zA hok) j (by omega)
  ·have hkn:k = xs.length:=by omega
   go_wp2_with fail
   go_ret
   exact ⟨⟨_,rfl,Ze ⟨by omega,by omega,zA H3,fun i hi=>(zA hok) i (by omega)⟩⟩,hbel⟩
def zH (zs:List zD):List Value:=zs.flatMap fun o=>[.int .i64 o.k,.string o.t,.int .i64 o.a,.int .i64 o.b]
theorem zV (xs ys:List zD):zH (xs ++ ys) = zH xs ++ zH ys:=by simp [zH]
theorem zFo:∀ zs:List zD,(zH zs).length = zs.length * 4
 | []=>rfl
 | o :: r=>by
  have:=zFo r
  simp only [zH,List.flatMap_cons,List.length_append,List.length_cons,List.length_nil] at *
  omega
theorem zGz:∀ (zs:List zD) (i:Nat),i < zs.length -> (zH zs)[i * 4]? = some (.int .i64 (atN zs i).k) /\ (zH zs)[i * 4 + 1]? = some (.string (atN zs i).t) /\ (zH zs)[i * 4 + 2]? = some (.int .i64 (atN zs i).a) /\ (zH zs)[i * 4 + 3]? = some (.int .i64 (atN zs i).b)
 | [],i,h=>absurd h (Nat.not_lt_zero i)
 | o :: r,0,_=>⟨rfl,rfl,rfl,rfl⟩
 | o :: r,i + 1,h=>by
  have ih:=zGz r i (by simpa using h)
  have e:∀ j,(zH (o :: r))[(i + 1) * 4 + j]? = (zH r)[i * 4 + j]?:=fun j=>by
   have:(i + 1) * 4 + j = (i * 4 + j) + 4:=by omega
   rw [this]
   rfl
  exact ⟨(e 0).trans ih.1,(e 1).trans ih.2.1,(e 2).trans ih.2.2.1,(e 3).trans ih.2.2.2⟩
theorem zQ (zs:List zD):∀ u ∈ zH zs,u.oneCell' = true:=by
 intro u hu
 simp only [zH,List.mem_flatMap] at hu
 obtain ⟨o,_,ho⟩:=hu
 simp at ho
 rcases ho with rfl | rfl | rfl | rfl <;> rfl
theorem zA5 {w:World} {base g cap:Nat} {e:TypeId} {zs:List zD} (h:w.ownsRow base e 4 (.slice (some ⟨g,0,none⟩) zs.length cap) zs.length (zH zs)):base <= g /\ zv w g zs zs.length:=by
 have hlt:=h.lt g rfl
 refine ⟨hlt.1,hlt.2,fun j hj=>⟨?_,h.frozenAt _⟩,fun i hi=>?_⟩
 ·rw [h.cellAt (0 + j) (by omega)]
  have:0 + j < (zH zs).length:=by rw [zFo]; omega
  rw [List.getElem?_eq_getElem this]
  rfl
 ·obtain ⟨c0,c1,c2,c3⟩:=zGz zs i hi
  have e:=fun j (hj:j < 4)=>h.cellAt (i * 4 + j) (by omega)
  exact ⟨by simpa using (e 0 (by omega)).trans c0,by simpa using (e 1 (by omega)).trans c1,by simpa using (e 2 (by omega)).trans c2,by simpa using (e 3 (by omega)).trans c3⟩
theorem zIi {w:World} {base n size:Nat} {e:TypeId} {v:Value} {xs:List Value} (h:w.ownsRow base e size v n xs) (hv:v ≠ .slice none 0 0):∃ g cap,v = .slice (some ⟨g,0,none⟩) n cap:=by
 obtain ⟨_,h | ⟨g,cap,cur,hv',_⟩⟩:=h
 ·exact absurd h.1 hv
 ·exact ⟨g,cap,hv'⟩
theorem zKw {w:World} {base n size g cap:Nat} {e:TypeId} {xs:List Value} (h:w.ownsRow base e size (.slice (some ⟨g,0,none⟩) n cap) n xs):n <= cap /\ cap <= maxLen:=by
 obtain ⟨_,h | ⟨g',cap',cur,hv',_,_,h1,h2,_⟩⟩:=h
 ·simp at h
 ·simp only [Value.slice.injEq,Option.some.injEq] at hv'
  obtain ⟨_,_,rfl⟩:=hv'
  exact ⟨h1,h2⟩
theorem zt (w:World) (o:zD):∀ j u,(zH [o])[j]? = some u -> (w.alloc (.cells #[.int .i64 o.k,.string o.t,.int .i64 o.a,.int .i64 o.b] 81)).cell? ((⟨w.heap.size,0,none⟩:Addr).add j) = some u:=by
 intro j u hj
 rw [Addr.add_mid]
 have:=World.rangeAt_of_block (w:=w.alloc (.cells #[.int .i64 o.k,.string o.t,.int .i64 o.a,.int .i64 o.b] 81)) (b:=w.heap.size) (heap_alloc_new w _) 0 4
 exact this j u (by simpa [zH] using hj)
theorem zv.arg {w:World} {g:Nat} {us:List zD} (h:zv w g us us.length):zJZ w (some ⟨g,0,none⟩) us:=Or.inr ⟨g,0,rfl,h.ops,h.1⟩
def Z8 (w:World) (n:Nat) (a:Option Addr) (us:List zD):Prop:=(us.length = 0 /\ a = none) \/ ∃ g,a = some ⟨g,0,none⟩ /\ n <= g /\ zv w g us us.length
theorem Z8.arg {w:World} {n:Nat} {a:Option Addr} {us:List zD} (h:Z8 w n a us):zJZ w a us:=by
 rcases h with ⟨h,_⟩ | ⟨g,rfl,_,hf⟩
 ·exact Or.inl h
 ·exact hf.arg
theorem Z8.grown {w w':World} {n:Nat} {a:Option Addr} {us:List zD} {row:Option Nat} (h:Z8 w n a us) (hg:w.grownBy w' row) (hr:∀ k,row = some k -> k < n):Z8 w' n a us:=by
 rcases h with h | ⟨g,rfl,hn,hf⟩
 ·exact Or.inl h
 ·exact Or.inr ⟨g,rfl,hn,hf.grown hg (fun e=>by have:=hr g e.symm; omega)⟩
theorem Z8.step {w w':World} {n:Nat} {a:Option Addr} {us:List zD} (h:Z8 w n a us) (hb:Below w.heap.size w w'):Z8 w' n a us:=
 h.grown (zS hb none) (fun k hk=>by cases hk)
end Go.Proofs.YtfboipappaonhaaGreat
