import Derived.Maps.AppendAt
import Derived.Test.YtgiemobdmbijiaaGreatDoorN01
import Derived.Test.YtgiemobdmbijiaaGreatDoorN03
namespace Go.Proofs.YtgiemobdmbijiaaGreatDoor
set_option linter.unusedSimpArgs false
set_option linter.unusedVariables false
set_option maxHeartbeats 16000000
set_option maxRecDepth 100000
open Go.RowKit
theorem zF.grownRow {w w1 w2:World} {g:Nat} {row:Option Nat} (h:zF w w1 g) (hg:w1.grownBy w2 row) (hr:∀ k,row = some k -> k = g \/ w.heap.size <= k):zF w w2 g:=
 ⟨hg.os.trans h.os,hg.tape.trans h.tape,hg.output.trans h.output,Nat.le_trans h.size hg.size,fun i hi a=>(hg.block i (Nat.lt_of_lt_of_le hi h.size) (fun e=>by rcases hr i e.symm with h | h; exact a h; omega)).trans (h.block i hi a)⟩
theorem zF.setRow {w w1:World} {g:Nat} (h:zF w w1 g) (b o:Nat) (v:Value) (hb:b = g \/ w.heap.size <= b):zF w (w1.setCell ⟨b,o,none⟩ v) g:=
 h.grownRow (row:=some b) ⟨rfl,rfl,rfl,by simp [World.setCell],fun i _ hi=>Below.heap_setCell _ _ _ _ (fun e=>hi (by rw [e]))⟩ (fun k hk=>by injection hk with hk; subst hk; exact hb)
theorem zIZ {w:World} {B e size n:Nat} {v:Value} {xs:List Value} (h:w.ownsRow B e size v n xs) (b o:Nat) (u:Value) (hb:v.ownBlock ≠ some b):(w.setCell ⟨b,o,none⟩ u).ownsRow B e size v n xs:=
 h.kept (row:=some b) ⟨rfl,rfl,rfl,by simp [World.setCell],fun i _ hi=>Below.heap_setCell _ _ _ _ (fun e=>hi (by rw [e]))⟩ (Or.inr hb)
def Zf (w:World) (B g c:Nat) (us:List zD):Prop:=w.ownsRow B 120 4 (.slice (some ⟨g,0,none⟩) us.length c) us.length (zM us)
theorem Zf.kept {w w':World} {B g c g':Nat} {us:List zD} (h:Zf w B g c us) (hk:zF w w' g') (hne:g' ≠ g):Zf w' B g c us:=
 World.ownsRow.kept h (ZE hk) (Or.inr (by simp [Value.ownBlock]; omega))
theorem Zf.below {w w':World} {B g c:Nat} {us:List zD} (h:Zf w B g c us) (hb:Below w.heap.size w w'):Zf w' B g c us:=
 World.ownsRow.kept h (zO hb none) (Or.inr (by simp [Value.ownBlock]))
theorem Zf.set {w:World} {B g c:Nat} {us:List zD} (h:Zf w B g c us) (b o:Nat) (u:Value) (hb:b ≠ g):Zf (w.setCell ⟨b,o,none⟩ u) B g c us:=
 zIZ h b o u (by simp [Value.ownBlock]; omega)
theorem Zf.lt {w:World} {B g c:Nat} {us:List zD} (h:Zf w B g c us):B <= g /\ g < w.heap.size:=World.ownsRow.lt h g rfl
theorem Zf.snoc {w:World} {B:Nat} {v:Value} {us vs:List zD} {o:zD} (h:w.ownsRow B 120 4 v (us.length + 1) (zM us ++ zM [o])) (hv:v ≠ .slice none 0 0) (e:vs = us ++ [o]):∃ g c,v = .slice (some ⟨g,0,none⟩) vs.length c /\ Zf w B g c vs:=by
 subst e
 obtain ⟨g,c,rfl⟩:=zIY h hv
 have hl:us.length + 1 = (us ++ [o]).length:=by simp
 rw [<- zi,hl] at h
 exact ⟨g,c,by rw [hl],h⟩
theorem Zc (w:World) (n:Nat) (o:zD) (hn:w.heap.size = n):∀ j u,(zM [o])[j]? = some u -> (w.alloc (.cells #[.int .i64 o.k,.string o.t,.int .i64 o.a,.int .i64 o.b] 120)).cell? ((⟨n,0,none⟩:Addr).add j) = some u:=by
 subst hn
 exact ZD w o
theorem zDq (b off cap:Nat) (xs:List zD) (hm:xs.length <= 20000):∀ (n i f B g c:Nat) (us vs:List zD) (w:World),i < n -> i < xs.length -> Hid (frS xs i = some f) -> Hid (us = er xs f) -> Hid (vs = er xs (i + 1)) -> zAs w b off xs -> b < B -> B <= w.heap.size -> Zf w B g c us ->
  Calls Tryz.prog 106 #[.slice (some ⟨b,off,none⟩) xs.length cap,.int .i64 (i:Int),.slice (some ⟨g,0,none⟩) us.length c] w fun e w'=>(∃ g' c',e = .returned (.slice (some ⟨g',0,none⟩) vs.length c') /\ Hid (Zf w' B g' c' vs) /\ (g' = g \/ w.heap.size <= g')) /\ Hid (zF w w' g)
 | 0,_,_,_,_,_,_,_,_,h,_,_,_,_,_,_,_,_=>absurd h (Nat.not_lt_zero _)
 | n + 1,i,f,B,g,c,us,vs,w,hin,hi,hf,hus,hvs,hw,hb,hB,hrow=>by
  obtain ⟨i0,hi0,hz0,hz1,hz2⟩:=zQ zCW
  have HI:=zB hi0
  have HZ:=zB (And.intro hz0 (And.intro hz1 hz2))
  clear hi0 hz0 hz1 hz2
  obtain ⟨h0,h1,h2,h3⟩:=hw i hi
  have IH:=zB (zDq b off cap xs hm n)
  have HW:=zB hw
  have HR:=zB hrow
  have hg:=hrow.lt
  have hiI:(i:Int) < (xs.length:Int):=by omega
  have hul:us.length <= 20000:=by
   have a1:=zDU xs f
   have a2:=zAA (zA hf)
   rw [zA hus,zBO]; omega
  clear hw hrow
  rcases zBa (zA hf) with ⟨hk,ha,hbb,hfi⟩ | ⟨hk,h1i,ha,hbb,hf1⟩ | ⟨hk,h1i,hbb,f2,hf2,h2f,ha,hf1⟩
  ·have HK:=zB hk
   have h6:((atN xs i).k == 6) = false:=by
    rw [beq_eq_false_iff_ne]; intro e; rw [e] at hk; simp [zY] at hk
   have HV:=zB (show vs = us ++ [⟨(atN xs i).k,(atN xs i).t,0,0⟩] by
    rw [zA hvs,zA hus,hfi,zCh (by simpa using h6)]
    simp [erN,hk])
   clear hk ha hbb hfi
   go_enter Tryz.func106,Tryz.ntmps106
   go_wp2_with (first | (go_at_call 83; refine (zN (zA HK) 0 rfl _).mono ?_; rintro e w' ⟨rfl,rfl⟩) | (at_builtin; refine wpList_append_own_at _ rfl (.tmp 52) (.tmp 54) 95 rfl B 120 i0 _ 4 40 Tryz.underlying95 (zA HI) (zA HZ).1 (zA HZ).2.1 (zA HZ).2.2 rfl (by decide) _ us.length (zM us) rfl ((((zA HR).below (zC _ _)).below (zC _ _)).below (zC _ _)) ⟨w.heap.size + 1 + 1,0,none⟩ 1 1 (zM [⟨(atN xs i).k,(atN xs i).t,0,0⟩]) rfl rfl (by simpa using ZD ((w.alloc _).alloc _) ⟨(atN xs i).k,(atN xs i).t,0,0⟩) (zR _) ?b1 ?b2 ?b3 ?next))
   case b1=>unfold maxLen; omega
   case b2=>omega
   case b3=>simp; omega
   case next=>
    intro v4 w4 hown4 hgrow4 hnil4 hat4
    obtain ⟨g4,c4,rfl,hr4⟩:=Zf.snoc hown4 (by simp [hnil4]) (zA HV)
    have HR4:=zB hr4
    have HKp:=zB (((zF.of_below (g:=g) (((zC _ _).alloc (by simp) _).alloc (by simp; omega) _))).grownRow hgrow4 (fun k hk=>by simp [Value.ownBlock] at hk; omega))
    have hgg:g4 = g \/ w.heap.size <= g4:=by simp [Value.ownBlock] at hat4; omega
    clear hown4 hgrow4 hnil4 hr4 hat4
    go_wp2_with fail
    go_ret
    exact ⟨⟨g4,c4,rfl,HR4,hgg⟩,HKp⟩
  ·have HK:=zB hk
   have ei:(i:Int) - 1 = ((i - 1:Nat):Int):=by omega
   rw [ha,ei] at h2
   have hii:i - 1 + 1 = i:=by omega
   by_cases h6:(atN xs i).k = 6
   ·have HVS:=zB (show vs = er xs (i - 1 + 1) by rw [zA hvs,zIW h6,hii])
    rw [h6] at h0
    clear hk ha hbb h6
    go_enter Tryz.func106,Tryz.ntmps106
    go_wp2_with fail
    refine ((zA IH) (i - 1) f B g c us vs _ (by omega) (by omega) (zB hf1) hus HVS ((zA HW).below (zC _ _) (by omega)) hb (by simp; omega) ((zA HR).below (zC _ _))).mono ?_
    rintro e w1 ⟨⟨g1,c1,rfl,hr1,hg1⟩,hk1⟩
    have hk1':=zB ((zF.of_below (g:=g) (zC _ _)).trans (zA hk1))
    have hg1':g1 = g \/ w.heap.size <= g1:=by simp at hg1; omega
    go_wp2_with fail
    go_ret
    exact ⟨⟨g1,c1,rfl,hr1,hg1'⟩,hk1'⟩
   ·have h6':((atN xs i).k == 6) = false:=by simpa using h6
    obtain ⟨us1,HU1⟩:∃ us1,Hid (us1 = er xs (i - 1 + 1)):=⟨_,zB rfl⟩
    have hl1:us1.length <= 20000:=by
     have:=zDU xs (i - 1 + 1)
     rw [zA HU1,zBO]; omega
    obtain ⟨nd,HND⟩:∃ nd:zD,Hid (nd = ⟨(atN xs i).k,(atN xs i).t,(us1.length:Int) - 1,0⟩):=⟨_,zB rfl⟩
    have HVS:=zB (show vs = us1 ++ [nd] by
     rw [zA hvs,zCh h6,zA HND,zA HU1,zBO,hii]
     congr 2
     unfold erN mvd
     rw [hk,ha]
     have:((i:Int) - 1).toNat + 1 = i:=by omega
     rw [this]
     simp)
    clear hk ha hbb h6
    go_enter Tryz.func106,Tryz.ntmps106
    go_wp2_with (go_at_call 83; refine (zN (zA HK) 1 rfl _).mono ?_; rintro e w' ⟨rfl,rfl⟩)
    refine ((zA IH) (i - 1) f B g c us us1 _ (by omega) (by omega) (zB hf1) hus HU1 ((zA HW).below ((zC _ _).alloc (by simp) _) (by omega)) hb (by simp; omega) (((zA HR).below (zC _ _)).below (zC _ _))).mono ?_
    rintro e w1 ⟨⟨g1,c1,rfl,hr1,hg1⟩,hk1⟩
    have hg1l:=(zA hr1).lt
    have hsz1:w.heap.size + 2 <= w1.heap.size:=by have:=(zA hk1).size; simp at this; omega
    have hg1':g1 = g \/ w.heap.size + 2 <= g1:=by simp at hg1; omega
    have p0:w1.cell? ⟨w.heap.size,0,none⟩ = some (.int .i64 (atN xs i).k):=((zA hk1).cell (b:=w.heap.size) (by simp; omega) (by omega) 0).trans (by simp [go_sem])
    have q0:w1.cell? ⟨w.heap.size + 1,0,none⟩ = some (.int .i64 (atN xs i).k):=((zA hk1).cell (b:=w.heap.size + 1) (by simp) (by omega) 0).trans (by simp [go_sem])
    have q1:w1.cell? ⟨w.heap.size + 1,1,none⟩ = some (.string (atN xs i).t):=((zA hk1).cell (b:=w.heap.size + 1) (by simp) (by omega) 1).trans (by simp [go_sem])
    have q2:w1.cell? ⟨w.heap.size + 1,2,none⟩ = some (.int .i64 0):=((zA hk1).cell (b:=w.heap.size + 1) (by simp) (by omega) 2).trans (by simp [go_sem])
    have q3:w1.cell? ⟨w.heap.size + 1,3,none⟩ = some (.int .i64 0):=((zA hk1).cell (b:=w.heap.size + 1) (by simp) (by omega) 3).trans (by simp [go_sem])
    have r2:w1.frozen? ⟨w.heap.size + 1,2,none⟩ = false:=((zA hk1).frozen (b:=w.heap.size + 1) (by simp) (by omega) 2).trans (by simp [go_sem])
    have HKA:=zB ((zF.of_below (g:=g) ((zC w _).alloc (by simp) _)).trans (zA hk1))
    clear hk1
    have ST:=zB (show Zf ((w1.setCell ⟨w.heap.size + 1,2,none⟩ (.int .i64 ((us1.length:Int) - 1))).alloc (.cells #[.int .i64 nd.k,.string nd.t,.int .i64 nd.a,.int .i64 nd.b] 120)) B g1 c1 us1 from ((zA hr1).set _ _ _ (by omega)).below (zC _ _))
    have NW:=zB (Zc (w1.setCell ⟨w.heap.size + 1,2,none⟩ (.int .i64 ((us1.length:Int) - 1))) w1.heap.size nd (by simp [World.setCell]))
    rw [zA HND] at ST NW
    simp only at ST NW
    go_wp2_with (first | (go_at_call 83; refine (zN (zA HK) 1 rfl _).mono ?_; rintro e w' ⟨rfl,rfl⟩) | (at_builtin; refine wpList_append_own_at _ rfl (.tmp 52) (.tmp 54) 95 rfl B 120 i0 _ 4 40 Tryz.underlying95 (zA HI) (zA HZ).1 (zA HZ).2.1 (zA HZ).2.2 rfl (by decide) _ us1.length (zM us1) rfl (zA ST) ⟨w1.heap.size,0,none⟩ 1 1 (zM [nd]) rfl rfl (by rw [zA HND]; exact zA NW) (zR _) ?b1 ?b2 ?b3 ?next))
    case b1=>unfold maxLen; omega
    case b2=>omega
    case b3=>simp; omega
    case next=>
     intro v4 w4 hown4 hgrow4 hnil4 hat4
     obtain ⟨g4,c4,rfl,hr4⟩:=Zf.snoc hown4 (by simp [hnil4]) (zA HVS)
     have HR4:=zB hr4
     have HKp:=zB ((((zA HKA).setRow (w.heap.size + 1) 2 (.int .i64 ((us1.length:Int) - 1)) (by omega)).trans (zF.of_below (zC _ _))).grownRow hgrow4 (fun k hk=>by simp [Value.ownBlock] at hk; omega))
     have hgg:g4 = g \/ w.heap.size <= g4:=by simp [Value.ownBlock] at hat4; omega
     clear hown4 hgrow4 hnil4 hr4 hat4
     go_wp2_with fail
     go_ret
     exact ⟨⟨g4,c4,rfl,HR4,hgg⟩,HKp⟩
  ·have HK:=zB hk
   have ei:(i:Int) - 1 = ((i - 1:Nat):Int):=by omega
   have ef:(f2:Int) - 1 = ((f2 - 1:Nat):Int):=by omega
   rw [ha,ef] at h2
   rw [hbb,ei] at h3
   have hle:=zAA hf2
   have hii:i - 1 + 1 = i:=by omega
   have hff:f2 - 1 + 1 = f2:=by omega
   have h6:(atN xs i).k ≠ 6:=fun e=>by rw [e] at hk; simp [zY] at hk
   have h6':((atN xs i).k == 6) = false:=by simpa using h6
   obtain ⟨us1,HU1⟩:∃ us1,Hid (us1 = er xs (f2 - 1 + 1)):=⟨_,zB rfl⟩
   obtain ⟨us2,HU2⟩:∃ us2,Hid (us2 = er xs (i - 1 + 1)):=⟨_,zB rfl⟩
   have hl1:us1.length <= 20000:=by
    have:=zDU xs (f2 - 1 + 1)
    rw [zA HU1,zBO]; omega
   have hl2:us2.length <= 20000:=by
    have:=zDU xs (i - 1 + 1)
    rw [zA HU2,zBO]; omega
   obtain ⟨nd,HND⟩:∃ nd:zD,Hid (nd = ⟨(atN xs i).k,(atN xs i).t,(us1.length:Int) - 1,(us2.length:Int) - 1⟩):=⟨_,zB rfl⟩
   have HVS:=zB (show vs = us2 ++ [nd] by
    rw [zA hvs,zCh h6,zA HND,zA HU1,zA HU2,zBO,zBO,hii,hff]
    congr 2
    unfold erN mvd
    rw [hk,ha,hbb]
    have e1:((i:Int) - 1).toNat + 1 = i:=by omega
    have e2:((f2:Int) - 1).toNat + 1 = f2:=by omega
    rw [e1,e2]
    simp)
   have HU1':=zB (show us1 = er xs f2 by rw [zA HU1,hff])
   clear hk ha hbb h6
   go_enter Tryz.func106,Tryz.ntmps106
   go_wp2_with (go_at_call 83; refine (zN (zA HK) 2 rfl _).mono ?_; rintro e w' ⟨rfl,rfl⟩)
   refine ((zA IH) (f2 - 1) f B g c us us1 _ (by omega) (by omega) (zB hf1) hus HU1 ((zA HW).below ((zC _ _).alloc (by simp) _) (by omega)) hb (by simp; omega) (((zA HR).below (zC _ _)).below (zC _ _))).mono ?_
   rintro e w1 ⟨⟨g1,c1,rfl,hr1,hg1⟩,hk1⟩
   have hg1l:=(zA hr1).lt
   have hsz1:w.heap.size + 2 <= w1.heap.size:=by have:=(zA hk1).size; simp at this; omega
   have hg1':g1 = g \/ w.heap.size + 2 <= g1:=by simp at hg1; omega
   have p0:w1.cell? ⟨w.heap.size,0,none⟩ = some (.int .i64 (atN xs i).k):=((zA hk1).cell (b:=w.heap.size) (by simp; omega) (by omega) 0).trans (by simp [go_sem])
   have p3:w1.cell? ⟨w.heap.size,3,none⟩ = some (.int .i64 ((i - 1:Nat):Int)):=((zA hk1).cell (b:=w.heap.size) (by simp; omega) (by omega) 3).trans (by simp [go_sem])
   have q0:w1.cell? ⟨w.heap.size + 1,0,none⟩ = some (.int .i64 (atN xs i).k):=((zA hk1).cell (b:=w.heap.size + 1) (by simp) (by omega) 0).trans (by simp [go_sem])
   have q1:w1.cell? ⟨w.heap.size + 1,1,none⟩ = some (.string (atN xs i).t):=((zA hk1).cell (b:=w.heap.size + 1) (by simp) (by omega) 1).trans (by simp [go_sem])
   have q2:w1.cell? ⟨w.heap.size + 1,2,none⟩ = some (.int .i64 0):=((zA hk1).cell (b:=w.heap.size + 1) (by simp) (by omega) 2).trans (by simp [go_sem])
   have q3:w1.cell? ⟨w.heap.size + 1,3,none⟩ = some (.int .i64 0):=((zA hk1).cell (b:=w.heap.size + 1) (by simp) (by omega) 3).trans (by simp [go_sem])
   have r2:w1.frozen? ⟨w.heap.size + 1,2,none⟩ = false:=((zA hk1).frozen (b:=w.heap.size + 1) (by simp) (by omega) 2).trans (by simp [go_sem])
   have r3:w1.frozen? ⟨w.heap.size + 1,3,none⟩ = false:=((zA hk1).frozen (b:=w.heap.size + 1) (by simp) (by omega) 3).trans (by simp [go_sem])
   have HKA:=zB ((zF.of_below (g:=g) ((zC w _).alloc (by simp) _)).trans (zA hk1))
   clear hk1
   go_wp2_with (go_at_call 83; refine (zN (zA HK) 2 rfl _).mono ?_; rintro e w' ⟨rfl,rfl⟩)
   have HKB:=zB ((zA HKA).setRow (w.heap.size + 1) 2 (.int .i64 ((us1.length:Int) - 1)) (Or.inr (by omega)))
   refine ((zA IH) (i - 1) f2 B g1 c1 us1 us2 _ (by omega) (by omega) (zB hf2) HU1' HU2 (fun j hj=>?_) hb (by simp [World.setCell]; omega) ((zA hr1).set _ _ _ (by omega))).mono ?_
   ·have e:=(zA HKB).cell (b:=b) (by omega) (by omega)
    obtain ⟨a0,a1,a2,a3⟩:=(zA HW) j hj
    exact ⟨(e _).trans a0,(e _).trans a1,(e _).trans a2,(e _).trans a3⟩
   rintro e w2 ⟨⟨g2,c2,rfl,hr2,hg2⟩,hk2⟩
   have hg2l:=(zA hr2).lt
   have hsz2:w1.heap.size <= w2.heap.size:=by have:=(zA hk2).size; simpa [World.setCell] using this
   have hg2':g2 = g1 \/ w1.heap.size <= g2:=by simpa [World.setCell] using hg2
   have sc:∀ o,(w1.setCell ⟨w.heap.size + 1,2,none⟩ (.int .i64 ((us1.length:Int) - 1))).heap.size = w1.heap.size /\ (o ≠ 2 -> (w1.setCell ⟨w.heap.size + 1,2,none⟩ (.int .i64 ((us1.length:Int) - 1))).cell? ⟨w.heap.size + 1,o,none⟩ = w1.cell? ⟨w.heap.size + 1,o,none⟩):=fun o=>⟨by simp [World.setCell],fun ho=>World.cell?_setCell_other _ _ _ _ (fun e=>ho (by injection e with _ e; exact e.symm))⟩
   have s0:w2.cell? ⟨w.heap.size + 1,0,none⟩ = some (.int .i64 (atN xs i).k):=((zA hk2).cell (b:=w.heap.size + 1) (by rw [(sc 0).1]; omega) (by omega) 0).trans (((sc 0).2 (by omega)).trans q0)
   have s1:w2.cell? ⟨w.heap.size + 1,1,none⟩ = some (.string (atN xs i).t):=((zA hk2).cell (b:=w.heap.size + 1) (by rw [(sc 0).1]; omega) (by omega) 1).trans (((sc 1).2 (by omega)).trans q1)
   have s2:w2.cell? ⟨w.heap.size + 1,2,none⟩ = some (.int .i64 ((us1.length:Int) - 1)):=((zA hk2).cell (b:=w.heap.size + 1) (by rw [(sc 0).1]; omega) (by omega) 2).trans (World.cell?_setCell_same _ _ _ q2)
   have s3:w2.cell? ⟨w.heap.size + 1,3,none⟩ = some (.int .i64 0):=((zA hk2).cell (b:=w.heap.size + 1) (by rw [(sc 0).1]; omega) (by omega) 3).trans (((sc 3).2 (by omega)).trans q3)
   have t3:w2.frozen? ⟨w.heap.size + 1,3,none⟩ = false:=((zA hk2).frozen (b:=w.heap.size + 1) (by rw [(sc 0).1]; omega) (by omega) 3).trans ((World.frozen?_setCell _ _ _ _).trans r3)
   have HKC:=zB ((zA HKB).grownRow (ZE (zA hk2)) (fun k hk=>by injection hk with hk; subst hk; omega))
   clear hk2 sc p0 p3 q0 q1 q2 q3 r2 r3 HKA HKB hr1
   have ST:=zB (show Zf ((w2.setCell ⟨w.heap.size + 1,3,none⟩ (.int .i64 ((us2.length:Int) - 1))).alloc (.cells #[.int .i64 nd.k,.string nd.t,.int .i64 nd.a,.int .i64 nd.b] 120)) B g2 c2 us2 from ((zA hr2).set _ _ _ (by omega)).below (zC _ _))
   have NW:=zB (Zc (w2.setCell ⟨w.heap.size + 1,3,none⟩ (.int .i64 ((us2.length:Int) - 1))) w2.heap.size nd (by simp [World.setCell]))
   rw [zA HND] at ST NW
   simp only at ST NW
   go_wp2_with (at_builtin; refine wpList_append_own_at _ rfl (.tmp 52) (.tmp 54) 95 rfl B 120 i0 _ 4 40 Tryz.underlying95 (zA HI) (zA HZ).1 (zA HZ).2.1 (zA HZ).2.2 rfl (by decide) _ us2.length (zM us2) rfl (zA ST) ⟨w2.heap.size,0,none⟩ 1 1 (zM [nd]) rfl rfl (by rw [zA HND]; exact zA NW) (zR _) ?b1 ?b2 ?b3 ?next)
   case b1=>unfold maxLen; omega
   case b2=>omega
   case b3=>simp; omega
   case next=>
    intro v4 w4 hown4 hgrow4 hnil4 hat4
    obtain ⟨g4,c4,rfl,hr4⟩:=Zf.snoc hown4 (by simp [hnil4]) (zA HVS)
    have HR4:=zB hr4
    have HKp:=zB ((((zA HKC).setRow (w.heap.size + 1) 3 (.int .i64 ((us2.length:Int) - 1)) (by omega)).trans (zF.of_below (zC _ _))).grownRow hgrow4 (fun k hk=>by simp [Value.ownBlock] at hk; omega))
    have hgg:g4 = g \/ w.heap.size <= g4:=by simp [Value.ownBlock] at hat4; omega
    clear hown4 hgrow4 hnil4 hr4 hat4
    go_wp2_with fail
    go_ret
    exact ⟨⟨g4,c4,rfl,HR4,hgg⟩,HKp⟩
theorem zGd (b off cap:Nat) (xs:List zD) (w:World) (hm:xs.length <= 1048576) (hw:zAs w b off xs) (hs:zEQ xs) (hB:b < w.heap.size) :
  Calls Tryz.prog 80 #[.agg #[.slice (some ⟨b,off,none⟩) xs.length cap]] w fun e w'=>(∃ (a:Option Addr) (c:Nat) (us:List zD) (v:Bool),e = .returned (.tuple #[.agg #[.slice a us.length c],.bool v]) /\ Hid (ZP w' w.heap.size a us) /\ Hid (zNU xs us v)) /\ Below w.heap.size w w':=by
 have HW:=zB hw
 have HS:=zB hs
 clear hw hs
 go_enter Tryz.func80,Tryz.ntmps80
 go_wp2_with fail
 refine (zDL b off cap xs _ hm ((zA HW).below ((zC _ _).alloc (by simp) _) hB) (zA HS) (by simp; omega)).mono ?_
 rintro e w1 ⟨⟨v,rfl,hv⟩,hb1⟩
 have HV:=zB hv
 have bel1:Below w.heap.size w w1:=((zC _ _).alloc (by simp) _).trans (hb1.mono (by simp; omega))
 have z1:w.heap.size + 2 <= w1.heap.size:=by have:=hb1.size; simp at this; omega
 have c0:w1.cell? ⟨w.heap.size,0,none⟩ = some (.slice (some ⟨b,off,none⟩) xs.length cap):=(hb1.cell (p:=⟨w.heap.size,0,none⟩) (by simp; omega)).trans (by simp [go_sem])
 have c1:w1.cell? ⟨w.heap.size + 1,0,none⟩ = some (.slice none 0 0):=(hb1.cell (p:=⟨w.heap.size + 1,0,none⟩) (by simp)).trans (by simp [go_sem])
 have d1:w1.frozen? ⟨w.heap.size + 1,0,none⟩ = false:=(hb1.frozen (p:=⟨w.heap.size + 1,0,none⟩) (by simp)).trans (by simp [go_sem])
 clear hv hb1
 cases v
 ·go_wp2_with fail
  refine bodyPost_ret (v:=.tuple #[.agg #[.slice none 0 0],.bool false]) ?res rfl ⟨⟨none,0,[],false,rfl,zB (Or.inl ⟨rfl,rfl⟩),zB (Or.inr ⟨fun h=>Bool.false_ne_true ((zA HV).2 h),rfl,rfl⟩)⟩,?_⟩
  case res=>simp [results,Tryz.results80,go_sem,c1]
  exact bel1.setCell (by simp) _
 ·have HO:=zB ((zA HV).1 rfl)
  have h20:=(zA HO).2.1
  have h1:=(zA HO).1
  have ei:(xs.length:Int) - 1 = ((xs.length - 1:Nat):Int):=by omega
  have hii:xs.length - 1 + 1 = xs.length:=by omega
  obtain ⟨vs,HVS⟩:∃ vs,Hid (vs = er xs (xs.length - 1 + 1)):=⟨_,zB rfl⟩
  have HR0:=zB (show Zf (w1.alloc (.cells #[] 120)) w1.heap.size w1.heap.size 0 [] by
   have:=World.ownsRow_lit (base:=w1.heap.size) (e:=120) (size:=4) w1 #[] 0 (Nat.le_refl _) (Nat.zero_le _) rfl
   simpa [Zf,zM] using this)
  go_wp2_with fail
  refine (zDq b off cap xs h20 xs.length (xs.length - 1) 0 w1.heap.size w1.heap.size 0 [] vs _ (by omega) (by omega) (zB (zA HO).2.2.1) (zB rfl) HVS ((zA HW).below (bel1.trans ((zC _ _).mono bel1.size)) hB) (by omega) (by simp) (zA HR0)).mono ?_
  rintro e w2 ⟨⟨g2,c2,rfl,hr2,hg2⟩,hk2⟩
  have hg2l:=(zA hr2).lt
  have z2:w1.heap.size < w2.heap.size:=by have:=(zA hk2).size; simp at this; omega
  have e1:w2.cell? ⟨w.heap.size + 1,0,none⟩ = some (.slice none 0 0):=((zA hk2).cell (b:=w.heap.size + 1) (by simp; omega) (by omega) 0).trans (((zC _ _).cell (p:=⟨w.heap.size + 1,0,none⟩) (show w.heap.size + 1 < w1.heap.size by omega)).trans c1)
  have f1:w2.frozen? ⟨w.heap.size + 1,0,none⟩ = false:=((zA hk2).frozen (b:=w.heap.size + 1) (by simp; omega) (by omega) 0).trans (((zC _ _).frozen (p:=⟨w.heap.size + 1,0,none⟩) (show w.heap.size + 1 < w1.heap.size by omega)).trans d1)
  have bel2:Below w.heap.size w w2:=(bel1.trans ((zC _ _).mono bel1.size)).trans ((zA hk2).below (by simp; omega) (by omega))
  clear c0 c1 d1 hk2 HR0
  go_wp2_with fail
  refine bodyPost_ret (v:=.tuple #[.agg #[.slice (some ⟨g2,0,none⟩) vs.length c2],.bool true]) ?res rfl ⟨⟨some ⟨g2,0,none⟩,c2,vs,true,rfl,zB (Or.inr ⟨g2,rfl,by omega,?_⟩),zB (Or.inl ⟨zA HO,rfl,by rw [zA HVS,hii]⟩)⟩,?_⟩
  case res=>simp [results,Tryz.results80,go_sem,e1]
  ·exact (zAz (zA hr2)).2.setCell _ _ _ (by omega)
  ·exact bel2.setCell (by simp) _
end Go.Proofs.YtgiemobdmbijiaaGreatDoor
namespace Go.Proofs.YtgiemobdmbijiaaGreatDoor
set_option linter.unusedSimpArgs false
set_option linter.unusedVariables false
set_option maxHeartbeats 16000000
set_option maxRecDepth 100000
open Go.RowKit
structure K2 (w w':World) (rp g:Nat):Prop where
 os:w'.os = w.os
 tape:w'.tape = w.tape
 output:w'.output = w.output
 size:w.heap.size <= w'.heap.size
 block:∀ i,i < w.heap.size -> i ≠ rp -> i ≠ g -> w'.heap[i]? = w.heap[i]?
theorem K2.of1 {w w':World} {rp g:Nat} (h:zF w w' rp):K2 w w' rp g:=⟨h.os,h.tape,h.output,h.size,fun i hi h1 _=>h.block i hi h1⟩
theorem K2.ofB {w w':World} {rp g:Nat} (h:Below w.heap.size w w'):K2 w w' rp g:=⟨h.os,h.tape,h.output,h.size,fun i hi _ _=>h.block i hi⟩
theorem K2.trans {w w1 w2:World} {rp g g1:Nat} (h:K2 w w1 rp g) (h':K2 w1 w2 rp g1) (hg:g1 = g \/ w.heap.size <= g1):K2 w w2 rp g:=
 ⟨h'.os.trans h.os,h'.tape.trans h.tape,h'.output.trans h.output,Nat.le_trans h.size h'.size,fun i hi a b=>(h'.block i (Nat.lt_of_lt_of_le hi h.size) a (by rcases hg with rfl | hg; exact b; omega)).trans (h.block i hi a b)⟩
theorem K2.row {w w1 w2:World} {rp g g1:Nat} (h:K2 w w1 rp g) (h':w1.grownBy w2 (some g1)) (hg:g1 = g \/ w.heap.size <= g1):K2 w w2 rp g:=
 ⟨h'.os.trans h.os,h'.tape.trans h.tape,h'.output.trans h.output,Nat.le_trans h.size h'.size,fun i hi a b=>(h'.block i (Nat.lt_of_lt_of_le hi h.size) (fun e=>by injection e with e; rcases hg with rfl | hg; exact b e; omega)).trans (h.block i hi a b)⟩
theorem K2.cell {w w':World} {rp g:Nat} (h:K2 w w' rp g) {b:Nat} (hb:b < w.heap.size) (h1:b ≠ rp) (h2:b ≠ g) (o:Nat):w'.cell? ⟨b,o,none⟩ = w.cell? ⟨b,o,none⟩:=World.cell?_of_block (w:=w) (h.block b hb h1 h2)
theorem K2.frozen {w w':World} {rp g:Nat} (h:K2 w w' rp g) {b:Nat} (hb:b < w.heap.size) (h1:b ≠ rp) (h2:b ≠ g) (o:Nat):w'.frozen? ⟨b,o,none⟩ = w.frozen? ⟨b,o,none⟩:=World.frozen?_of_block (w:=w) (h.block b hb h1 h2)
theorem RdS.row {w w':World} {rp cap p g:Nat} {a:Option Addr} {bs:List UInt8} (h:RdS w rp a cap bs p) (hg:w.grownBy w' (some g)) (hr:rp < g):RdS w' rp a cap bs p:=
 h.kept (fun i hi=>hg.block i (by have:=h.lt; omega) (fun e=>by injection e with e; omega))
def zDr (k:Nat):zD:=if k % 2 = 0 then ⟨2,(⟨#[97,98,99,100,95,57]⟩:ByteArray).extract (k / 2 % 4) (k / 2 % 4 + 1 + k / 8 % 3),0,0⟩ else ⟨1,(⟨#[48,49,55,50]⟩:ByteArray).extract (k / 2 % 4) 4,0,0⟩
def zDs (w:World) (rp cap:Nat) (a:Option Addr) (bs:List UInt8) (B g:Nat) (q:Nat) (vs:List zD) (e:Ending) (w':World):Prop:=
 ∃ g' c',e = .returned (.slice (some ⟨g',0,none⟩) vs.length c') /\ Hid (Zf w' B g' c' vs) /\ (g' = g \/ w.heap.size <= g') /\ Hid (RdS w' rp a cap bs q) /\ Hid (K2 w w' rp g)
theorem zFg (rp cap p B g c:Nat) (a:Option Addr) (bs:List UInt8) (us:List zD) (w:World) (h:RdS w rp a cap bs p) (hl:bs.length <= 1200) (hm:us.length <= 100000) (hr:Zf w B g c us) (hB:B <= w.heap.size) (hrp:rp < B) :
  Calls Tryz.prog 110 #[.pointer (some ⟨rp,0,none⟩),.slice (some ⟨g,0,none⟩) us.length c] w (zDs w rp cap a bs B g (adv bs p) (us ++ [zDr (nxt bs p)])):=by
 obtain ⟨i0,hi0,hz0,hz1,hz2⟩:=zQ zCW
 have HI:=zB hi0
 have HZ:=zB (And.intro hz0 (And.intro hz1 hz2))
 have HX:=zB (Z4 rp cap p a bs w h hl)
 have HR:=zB hr
 have hg:=hr.lt
 obtain ⟨vs,HVS⟩:∃ vs,Hid (vs = us ++ [zDr (nxt bs p)]):=⟨_,zB rfl⟩
 rw [<- zA HVS]
 clear hi0 hz0 hz1 hz2 h hr
 go_enter Tryz.func110,Tryz.ntmps110
 go_wp2_with fail
 (with_reducible refine (zA HX).mono ?_)
 rintro e w1 ⟨⟨k,rfl,hk,HK⟩,H1,HP1⟩
 have z1:=(zA HP1).size
 have HR1:=zB ((zA HR).kept (zA HP1) (by omega))
 clear HX HR
 by_cases hp:k % 2 = 0
 ·have e0:((k:Int) % 2 == 0) = true:=by simp; omega
  have e1:(0:Int) <= (k:Int) / 2 % 4:=by omega
  have e2:(k:Int) / 2 % 4 <= (k:Int) / 2 % 4 + 1 + (k:Int) / 8 % 3:=by omega
  have e3:(k:Int) / 2 % 4 + 1 + (k:Int) / 8 % 3 <= 6:=by omega
  have HV:=zB (show vs = us ++ [⟨2,(⟨#[97,98,99,100,95,57]⟩:ByteArray).extract (k / 2 % 4) (k / 2 % 4 + 1 + k / 8 % 3),0,0⟩] by rw [zA HVS,<- zA HK]; unfold zDr; rw [if_pos hp])
  clear hp
  go_wp2_with (at_builtin; refine wpList_append_own_at _ rfl (.tmp 11) (.tmp 25) 95 rfl B 120 i0 _ 4 40 Tryz.underlying95 (zA HI) (zA HZ).1 (zA HZ).2.1 (zA HZ).2.2 rfl (by decide) _ us.length (zM us) rfl ((zA HR1).below (zC _ _)) ⟨w1.heap.size,0,none⟩ 1 1 (zM [⟨2,(⟨#[97,98,99,100,95,57]⟩:ByteArray).extract (k / 2 % 4) (k / 2 % 4 + 1 + k / 8 % 3),0,0⟩]) rfl rfl (ZD w1 ⟨2,(⟨#[97,98,99,100,95,57]⟩:ByteArray).extract (k / 2 % 4) (k / 2 % 4 + 1 + k / 8 % 3),0,0⟩) (zR _) ?b1 ?b2 ?b3 ?next)
  case b1=>unfold maxLen; omega
  case b2=>omega
  case b3=>simp; omega
  case next=>
   intro v4 w4 hown4 hgrow4 hnil4 hat4
   obtain ⟨g4,c4,rfl,hr4⟩:=Zf.snoc hown4 (by simp [hnil4]) (zA HV)
   have HR4:=zB hr4
   have hgr:World.grownBy _ w4 (some g):=hgrow4
   have HD4:=zB (((zA H1).below (zC w1 (.cells #[.int .i64 (⟨2,(⟨#[97,98,99,100,95,57]⟩:ByteArray).extract (k / 2 % 4) (k / 2 % 4 + 1 + k / 8 % 3),0,0⟩:zD).k,.string (⟨2,(⟨#[97,98,99,100,95,57]⟩:ByteArray).extract (k / 2 % 4) (k / 2 % 4 + 1 + k / 8 % 3),0,0⟩:zD).t,.int .i64 0,.int .i64 0] 120))).row hgr (by omega))
   have HK4:=zB (((K2.of1 (g:=g) (zA HP1)).trans (K2.ofB (zC w1 _)) (Or.inl rfl)).row hgr (Or.inl rfl))
   have hgg:g4 = g \/ w.heap.size <= g4:=by simp [Value.ownBlock] at hat4; omega
   clear hown4 hgrow4 hgr hnil4 hr4 hat4
   go_wp2_with fail
   go_ret
   exact ⟨g4,c4,rfl,HR4,hgg,HD4,HK4⟩
 ·have e0:((k:Int) % 2 == 0) = false:=by simp; omega
  have e1:(0:Int) <= (k:Int) / 2 % 4:=by omega
  have e2:(k:Int) / 2 % 4 <= 4:=by omega
  have HV:=zB (show vs = us ++ [⟨1,(⟨#[48,49,55,50]⟩:ByteArray).extract (k / 2 % 4) 4,0,0⟩] by rw [zA HVS,<- zA HK]; unfold zDr; rw [if_neg hp])
  clear hp
  go_wp2_with (at_builtin; refine wpList_append_own_at _ rfl (.tmp 27) (.tmp 33) 95 rfl B 120 i0 _ 4 40 Tryz.underlying95 (zA HI) (zA HZ).1 (zA HZ).2.1 (zA HZ).2.2 rfl (by decide) _ us.length (zM us) rfl ((zA HR1).below (zC _ _)) ⟨w1.heap.size,0,none⟩ 1 1 (zM [⟨1,(⟨#[48,49,55,50]⟩:ByteArray).extract (k / 2 % 4) 4,0,0⟩]) rfl rfl (ZD w1 ⟨1,(⟨#[48,49,55,50]⟩:ByteArray).extract (k / 2 % 4) 4,0,0⟩) (zR _) ?b1 ?b2 ?b3 ?next)
  case b1=>unfold maxLen; omega
  case b2=>omega
  case b3=>simp; omega
  case next=>
   intro v4 w4 hown4 hgrow4 hnil4 hat4
   obtain ⟨g4,c4,rfl,hr4⟩:=Zf.snoc hown4 (by simp [hnil4]) (zA HV)
   have HR4:=zB hr4
   have hgr:World.grownBy _ w4 (some g):=hgrow4
   have HD4:=zB (((zA H1).below (zC w1 (.cells #[.int .i64 (⟨1,(⟨#[48,49,55,50]⟩:ByteArray).extract (k / 2 % 4) 4,0,0⟩:zD).k,.string (⟨1,(⟨#[48,49,55,50]⟩:ByteArray).extract (k / 2 % 4) 4,0,0⟩:zD).t,.int .i64 0,.int .i64 0] 120))).row hgr (by omega))
   have HK4:=zB (((K2.of1 (g:=g) (zA HP1)).trans (K2.ofB (zC w1 _)) (Or.inl rfl)).row hgr (Or.inl rfl))
   have hgg:g4 = g \/ w.heap.size <= g4:=by simp [Value.ownBlock] at hat4; omega
   clear hown4 hgrow4 hgr hnil4 hr4 hat4
   go_wp2_with fail
   go_ret
   exact ⟨g4,c4,rfl,HR4,hgg,HD4,HK4⟩
end Go.Proofs.YtgiemobdmbijiaaGreatDoor
